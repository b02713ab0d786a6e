/- At every argument TotalSteps answers as its model, and its arguments are as they were. -/
import Derived.Test.YtjdnjlakafcglaaRows
import Derived.Test.YtjdnjlakafcglaaBase
import Derived.Test.YtjdnjlakafcglaaLaidOut
import Derived.Test.YtjdnjlakafcglaaCutTot
namespace Go.Proofs.Ytjdnjlakafcglaa.fnExactTotalSteps
open Go.ChangeShapes Go.WideShapes Go.ChangeAt Go.RowKit
open Go.ChangeMaps (open_string shut_string)
set_option linter.unusedVariables false

theorem own : ownKnob Try.prog.godebug = none := by kernel_rfl

set_option maxRecDepth 100000 in
set_option maxHeartbeats 4000000 in
theorem walk (p0 : Option Addr) (len0 cap0 : Nat) (w0 : len0 ≤ 9223372036854775807) (w : World) (hI0 : len0 ≤ 1048576 → ∃ zs : List Ct, zs.length = len0 ∧ CutsAt w (.slice p0 len0 cap0) zs) :
    Calls Try.prog 7 #[.slice p0 len0 cap0] w fun e w' => e = .returned (.bool true) ∧ Below w.heap.size w w' := by
  have hlen0 := w0
  clear w0
  by_cases hbig0 : (len0) ≤ 1048576
  · obtain ⟨T1, hT1⟩ : ∃ T, (len0) = T := ⟨_, rfl⟩
    have HL0 := Lib.hid (show (if (1048576) - (len0 : Int) < 0 then (-1 : Int) else (1048576) - (len0 : Int)) = 1048576 - (T1 : Int) by rw [if_neg (by omega)]; omega)
    have hTb1 : T1 ≤ 1048576 := by omega
    obtain ⟨z0, hzn0, hzi0⟩ := hI0 (by omega)
    have HZN0 := Lib.hid hzn0
    have HY0 := Lib.hid hzi0
    have HYL0 := Lib.hid (show z0.length ≤ 1048576 by omega)
    clear hzn0 hzi0 hI0
    have hTl0 : len0 ≤ 1048576 := by omega
    clear hT1 hbig0
    obtain ⟨r0, r1, hsp, him⟩ : ∃ (r0 : Int) (r1 : Int), (∀ u0 w, CutsAt w u0 z0 → Calls Try.prog 33 #[u0] w (fun e w' => e = .returned (.tuple #[.int .i64 r0, .int .i64 r1]) ∧ Below w.heap.size w w')) ∧ (∀ u0 w, CutsAt w u0 z0 → Calls Try.prog 34 #[u0] w (fun e w' => e = .returned (.tuple #[.int .i64 r0, .int .i64 r1]) ∧ Below w.heap.size w w')) :=
      ⟨toR z0, toC z0, fun u0 w h => specTS_any z0 u0 w h, fun u0 w h => implTS_any z0 u0 w h⟩
    have hrr0 : (r0 != r0) = false := by simp
    have hrr1 : (r1 != r1) = false := by simp
    have HSP := Lib.hid hsp
    have HIM := Lib.hid him
    clear hsp him
    go_enter Try.func7, Try.ntmps7
    go_wp2_with fail
    refine (szCuts_any _ len0 _ (1048576) _ hlen0 (by omega) (by omega)).mono ?_
    rintro e w ⟨rfl, rfl⟩
    rw [HL0.out]
    go_wp2_with fail
    refine (toCuts_any z0 _ _ (cuts_kept (Below.refl _ _) HY0.out)).mono ?_
    rintro e w_2 ⟨vx0, rfl, ho, hb⟩
    have HO1 := Lib.hid (own_cuts HYL0.out ho)
    have HB2 := Lib.hid (hb)
    clear hb ho
    go_wp2_with fail
    refine (HSP.out vx0 _ HO1.out).mono ?_
    rintro e w_3 ⟨rfl, hb⟩
    have HB3 := Lib.hid (below_of HB2.out hb HB2.out.size)
    clear hb 
    go_wp2_with fail
    refine (toCuts_any z0 _ _ (cuts_kept HB3.out HY0.out)).mono ?_
    rintro e w_4 ⟨vx, rfl, ho, hb⟩
    have hv := cv_own ho
    obtain ⟨aZ0, cZ0, rfl⟩ := cv_form hv
    rw [HZN0.out] at hv ⊢
    have HX0I := Lib.hid (cv_in hv)
    have HX0R := Lib.hid hv
    have OX0 : w_3.heap.size ≤ w_4.heap.size := hb.size
    clear hv
    have HB4 := Lib.hid (below_of HB3.out hb HB3.out.size)
    clear hb ho
    go_wp2_with fail
    refine (HIM.out _ _ (cv_at HYL0.out HX0R.out)).mono ?_
    rintro e w_5 ⟨rfl, hb⟩
    have HB5 := Lib.hid (below_of HB4.out hb HB4.out.size)
    have HR6 := Lib.hid (cv_kept hb HX0R.out)
    clear HX0R
    clear hb 
    go_wp2_with fail
    refine (toCuts_any z0 _ _ (cuts_kept HB5.out HY0.out)).mono ?_
    rintro e w_6 ⟨vt, rfl, ho, hb⟩
    have HT := Lib.hid (own_cuts HYL0.out ho)
    have HB7 := Lib.hid (below_of HB5.out hb HB5.out.size)
    have HR8 := Lib.hid (cv_kept hb HR6.out)
    clear HR6
    clear hb ho
    go_wp2_with fail
    refine (eqCuts_at z0 _ _ _ (cv_at HYL0.out HR8.out) HT.out).mono ?_
    rintro e w_7 ⟨rfl, hb⟩
    have HB9 := Lib.hid (below_of HB7.out hb HB7.out.size)
    have HR10 := Lib.hid (cv_kept hb HR8.out)
    clear HR8
    clear hb HT
    go_wp2
    go_ret
    exact ⟨rfl, HB9.out⟩
  · have HL0 := Lib.hid (show (if (1048576) - (len0 : Int) < 0 then (-1 : Int) else (1048576) - (len0 : Int)) = -1 by rw [if_pos (by omega)])
    clear hI0
    go_enter Try.func7, Try.ntmps7
    go_wp2_with fail
    refine (szCuts_any _ len0 _ (1048576) _ hlen0 (by omega) (by omega)).mono ?_
    rintro e wz ⟨rfl, rfl⟩
    rw [HL0.out]
    go_wp2
    go_ret
    exact ⟨rfl, Below.refl _ _⟩

set_option maxRecDepth 100000 in
theorem contract (H : Type) (enc : TypeId × Value → H) (W : World) (base : Nat) (args : Array Value) (ds gs : List (DataW H)) (before : List MemPlace)
    (hval : ∀ (j : Nat) t v, Try.f7.params[j]? = some t → args[j]? = some v → Value.okWide Try.prog W .any base t v)
    (hW : DataW.Whole enc Try.prog Try.f7.params.toList Rows.fnExactTotalStepsSpec.vars false W args.toList ds gs before) :
    Calls Try.prog 7 args W fun e W' => ∃ v, e = .returned v ∧ Rows.fnExactTotalStepsSpec.post enc Try.prog Try.f7 false true false false W args v W' := by
  have hW' := hW
  obtain ⟨p, q, hA0, hV, rfl, hfz, hnd⟩ := hW
  have hA : DataW.TrodAll enc Try.prog W 0 (fun _ => true) true Try.f7.params.toList args.toList ds p := hA0
  rw [Try.params7] at hA hval
  obtain ⟨v0, vs0, d0, ds0, p0, q0, hargs, rfl, rfl, h0, r0⟩ := trodAll_cons hA
  obtain ⟨rfl, rfl, rfl⟩ := trodAll_nil r0
  obtain rfl : args = #[v0] := by cases args; simp_all
  obtain ⟨rfl, rfl⟩ := trodVars_none hV
  simp only [List.append_nil] at hW'
  have hlt0 : ∀ x ∈ p0, x.block < W.heap.size := fun x hx => hW'.lt x (by simp [hx])
  have kept0 := fun (W2 : World) (hb : Below W.heap.size W W2) => Below.trod laidOut (by kernel_rfl) (of_decide_eq_true (by kernel_rfl)) h0 hb hlt0
  obtain ⟨a0, len0, cap0, rfl⟩ := okWide_slice Try.underlying39 (hval 0 39 v0 rfl rfl)
  obtain ⟨fuel0, hf0⟩ := h0
  obtain ⟨w0, hI0⟩ := cuts_arg hf0 hlt0
  clear hA0
  refine (walk a0 len0 cap0 w0 W hI0).mono fun e W' ⟨he, hg⟩ => ?_
  subst he
  refine ⟨_, rfl, post_at (pa := p0) (pv := []) hW' (by simp) hg (fun _ _ => (trodAll_cons_mk (shut_bool Try.underlying4 _) trodAll_mk0)) ?_ rfl⟩
  have hk := (trodAll_cons_mk (kept0 W' hg) trodAll_mk0)
  simp only [List.append_nil] at hk
  exact hk

set_option maxRecDepth 100000 in
theorem lifted (os : Os) (started : os.Started) (H : Type) (enc : TypeId × Value → H) :
    ReturnsInHanded {} Try.checked os 7 .any (Rows.fnExactTotalStepsSpec.pre6 enc Try.prog Try.f7 Rows.fnExactTotalStepsRow.domain false) (Rows.fnExactTotalStepsSpec.post enc Try.prog Try.f7 false true false false) := by
  refine returnsInHanded_of_change (C := Try.checked) own started (by kernel_rfl) Try.func7
    (ChangeSpec.witness6 (enc := enc) (C := Try.checked) false ⟨#[], #[.slice none 0 0], []⟩ 8 (by kernel_rfl) (by kernel_rfl) (by kernel_rfl) (by kernel_rfl)) ?_
  intro W base args ds gs before hval0 hW hcnd _
  have hval : ∀ (j : Nat) t v, Try.f7.params[j]? = some t → args[j]? = some v → Value.okWide Try.prog W .any base t v := hval0
  exact contract H enc W base args ds gs before hval hW

theorem over : Rows.fnExactTotalStepsRow.holds Try.pinned (OpenSpec.ofChange Rows.fnExactTotalStepsSpec) :=
  OpenClaim.holds_of_wide 7 Try.f7 rfl rfl rfl rfl rfl rfl rfl ⟨rfl, rfl, rfl, rfl, rfl⟩ rfl rfl rfl rfl rfl (by kernel_rfl) Try.func7 (by kernel_rfl)
    (of_decide_eq_true (by kernel_rfl)) (by unfold Func.isWrapper; first | (rw [if_pos (by decide +kernel)]; kernel_rfl) | (rw [if_neg (by decide +kernel)]; exact ⟨rfl, rfl⟩))
    (fun os started H enc _ => lifted os started H enc)
end Go.Proofs.Ytjdnjlakafcglaa.fnExactTotalSteps

namespace Go.Proofs.Ytjdnjlakafcglaa
/-- The given statement. -/
theorem fnExactTotalSteps_holds : Rows.FnExactTotalStepsSaid := fnExactTotalSteps.over
#print axioms fnExactTotalSteps_holds
end Go.Proofs.Ytjdnjlakafcglaa
