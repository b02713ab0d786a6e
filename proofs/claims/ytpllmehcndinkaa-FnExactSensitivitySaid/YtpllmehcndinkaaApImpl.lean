/- A profile after cuts: the program's. -/
import Derived.Test.YtpllmehcndinkaaCutI
import Derived.Test.YtpllmehcndinkaaG3
import Derived.Test.YtpllmehcndinkaaApSpec
set_option linter.unusedVariables false
namespace Go.Proofs.Ytpllmehcndinkaa
open Go.ChangeShapes Go.WideShapes Go.ChangeAt Go.RowKit Go.Maps

set_option maxHeartbeats 1000000 in
theorem has_any (x : Int) (a : Option Addr) (n c : Nat) (w : World) (hn : n ≤ 1048576) :
    Calls Try.prog 69 #[.slice a n c, .int .i64 x] w fun e w' => e = .returned (.bool (inB x 0 ((n : Int) - 1))) ∧ Below w.heap.size w w' := by
  have HR := Lib.hid (show allIn 0 ((n : Int) - 1) [x] = inB x 0 ((n : Int) - 1) by simp [allIn])
  go_enter Try.func69, Try.ntmps69
  go_wp2_with fail
  refine (within_i64 _ _ [x] _ 0 1 1 _ rfl (by omega) (cell_int _ _ _ _ (by simp))).mono ?_
  rintro e w2 ⟨rfl, rfl⟩
  rw [HR.out]
  obtain ⟨r, hr⟩ : ∃ r, inB x 0 ((n : Int) - 1) = r := ⟨_, rfl⟩
  rw [hr]
  have HRR := Lib.hid hr
  clear hr
  go_wp2
  go_ret
  exact ⟨ret_bool HRR.out.symm, below_al _ _⟩


theorem any_notHas {cs : List Ct} {nz : Nat} (h : allC cs = true) : cs.any (fun c => !inB c.1 0 ((nz : Int) - 1)) = !inZ cs nz := by
  unfold allC inZ at *
  induction cs with
  | nil => rfl
  | cons c cs ih =>
    rw [List.all_cons, Bool.and_eq_true] at h
    have h1 := (cut_iff.1 h.1).1
    have e : inB c.1 0 ((nz : Int) - 1) = decide (c.1 < (nz : Int)) := by
      by_cases hc : c.1 < (nz : Int)
      · rw [inB_true (by omega), decide_eq_true hc]
      · rw [inB_false (by omega), decide_eq_false hc]
    rw [List.any_cons, List.all_cons, ih h.2, e, Bool.not_and]
theorem mapStep_eq {cs : List Ct} {zs : List Int} (h : 0 < zs.length ∧ zs.length ≤ 8) (rs : List Rg) : turnL (mapStep (fun z => sumAt z cs) zs) rs rs.length = cutT rs zs cs := by
  unfold cutT
  congr 1
  funext i
  have := zoneN_lt zs (i : Int) zs.length h.1
  unfold mapStep stepF
  rw [sumsL_get cs _ (by omega)]
theorem apBlank (s : ByteArray) (rs : List Rg) (zs : List Int) (cs : List Ct) (c : Int) (h : apA s rs zs cs = c) (h0 : c ≠ 0) : apC s rs zs cs = c ∧ resS s (apC s rs zs cs) = ⟨#[]⟩ ∧ resL (cutT rs zs cs) (apC s rs zs cs) = [] := by
  have e : apC s rs zs cs = c := by rw [apC_no (by rw [h]; exact h0), h]
  rw [e]
  exact ⟨rfl, resSL_no h0⟩
end Go.Proofs.Ytpllmehcndinkaa
