/- StandardModel: its weights; the program's row of them. -/
import Derived.Test.YtpjopfhkgegahaaModX
import Derived.Test.YtpjopfhkgegahaaModSpec
import Derived.Test.YtpjopfhkgegahaaModImpl
import Derived.Test.YtpjopfhkgegahaaAptQ
import Derived.Test.YtpjopfhkgegahaaDiv
import Derived.Maps.AppendAt
set_option linter.unusedVariables false
namespace Go.Proofs.Ytpjopfhkgegahaa
open Go.ChangeShapes Go.WideShapes Go.ChangeAt Go.RowKit

/-- The weight of zone z of n for partial k. -/
def stW (n k z : Int) : Int := 1000 - nq (900 * aptV (4 * z) (k * (n - 1))) (4 * (n - 1))
theorem nqS_bd (a b : Int) (h0 : 0 ≤ a) (h1 : a ≤ 100000) (hb : 0 ≤ b) : -100002 ≤ nq a b ∧ nq a b ≤ 100002 := by
  by_cases e : b = 0
  · subst e; simp [nq]
  · have h := nq_impl a b e
    have hq : 0 ≤ a.tdiv b ∧ a.tdiv b ≤ a := by
      rw [Int.tdiv_eq_ediv_of_nonneg h0]
      exact ⟨Int.ediv_nonneg h0 hb, Int.ediv_le_self _ h0⟩
    split at h
    · omega
    · split at h <;> omega
def stRow (n k : Nat) : List Int := (List.range n).map fun (z : Nat) => stW n k z
def stWs (n m : Nat) : List (List Int) := (List.range m).map fun (k : Nat) => stRow n k
theorem stRow_len (n k : Nat) : (stRow n k).length = n := by simp [stRow]
theorem stRow_get (n k z : Nat) (h : z < n) : (stRow n k).getD z 0 = stW n k z := by simp [stRow, List.getD, h]
theorem stRow_next (n k z : Nat) (h : z < n) : i64s ((stRow n k).take (z + 1)) = i64s ((stRow n k).take z) ++ [.int .i64 (stW n k z)] := by
  unfold stRow i64s
  rw [← List.map_take, ← List.map_take, List.take_range, List.take_range, Nat.min_eq_left (by omega), Nat.min_eq_left (by omega), List.range_succ]
  simp
theorem stWs_len (n m : Nat) : (stWs n m).length = m := by simp [stWs]
theorem stWs_next (n m : Nat) : stWs n (m + 1) = stWs n m ++ [stRow n m] := by unfold stWs; rw [List.range_succ, List.map_append]; rfl
theorem stProd (n k : Nat) (hk : k < 5) (hn : n ≤ 8) (h1 : 1 ≤ n) : 0 ≤ (k : Int) * ((n : Int) - 1) ∧ (k : Int) * ((n : Int) - 1) ≤ 28 := by
  have a : (k : Int) * ((n : Int) - 1) ≤ 4 * ((n : Int) - 1) := Int.mul_le_mul_of_nonneg_right (by omega) (by omega)
  have b : 0 ≤ (k : Int) * ((n : Int) - 1) := Int.mul_nonneg (by omega) (by omega)
  omega
set_option maxHeartbeats 1000000 in
set_option maxRecDepth 100000 in
theorem stRow_any (k n : Nat) (w : World) (hk : k < 5) (hn0 : 1 ≤ n) (hn : n ≤ 8) :
    Calls Try.prog 24 #[.int .i64 k, .int .i64 n] w (CopyPost w (stRow n k)) := by
  obtain ⟨i0, hi, hz0, hz1, hz2⟩ := info_parts infoI64
  have hpb := stProd n k hk hn hn0
  have HL := Lib.hid (stRow_len n k)
  have HCN := Lib.hid (fun z hz => copied_next (stRow n k) z hz)
  have HGT := Lib.hid (fun z (h : z < n) => stRow_get n k z h)
  have HW := Lib.hid (fun z : Int => show stW n k z = 1000 - nq (900 * aptV (4 * z) ((k : Int) * ((n : Int) - 1))) (4 * ((n : Int) - 1)) from rfl)
  obtain ⟨P, hP⟩ : ∃ P, (k : Int) * ((n : Int) - 1) = P := ⟨_, rfl⟩
  rw [hP] at hpb HW
  have wn : IntKind.i64.wrap ((n : Int) - 1) = (n : Int) - 1 := IntWalk.i64_in _ (by omega)
  have wp : IntKind.i64.wrap P = P := IntWalk.i64_in _ (by omega)
  go_enter Try.func24, Try.ntmps24
  go_wp2_with (at_make; refine wpList_make_full _ rfl _ _ 22 rfl w.heap.size 2 i0 (.int .i64 0) 1 Try.underlying22 hi hz0 hz1 .i64 .i64 _ _ n rfl rfl rfl rfl (by rw [hz2]; omega) (by unfold maxLen; omega) (Nat.le_refl _) ?_; intro w0 hown hgrow)
  have HB0 := Lib.hid ((Below.refl w.heap.size w).grown hgrow (Nat.le_refl _) (fun k hk => by cases hk))
  rw [made_ints] at hown
  have HO0 := Lib.hid (show w0.ownsRow w.heap.size 2 1 (.slice (some ⟨w.heap.size, 0, none⟩) n n) n (i64s (copied (stRow n k) 0)) by
    unfold copied; rw [HL.out, Nat.sub_zero, List.take_zero, List.nil_append]; exact hown)
  clear hgrow hown
  go_wp2
  go_loopw [11] (fun i wr => ∃ z : Nat, z ≤ n ∧ i = .int .i64 z ∧ wr.ownsRow w.heap.size 2 1 (.slice (some ⟨w.heap.size, 0, none⟩) n n) n (i64s (copied (stRow n k) z)) ∧ Below w.heap.size w wr) (fun i _ => n - (intOf i).toNat)
  case atStart => exact ⟨0, by omega, rfl, HO0.out, HB0.out⟩
  case round =>
    obtain ⟨z, hz, rfl, hown, hbw⟩ := hrel
    have HB := Lib.hid hbw
    have HO := Lib.hid hown
    clear hown hbw
    by_cases hlt2 : z < n
    · have hS := HW.out z
      have hG := HGT.out z hlt2
      have hab := apt_bd (4 * (z : Int)) P
      have hal := apt_le (f := 4 * (z : Int)) (g := P) (M := 28) (by omega) (by omega) (by omega) (by omega)
      have HAP := Lib.hid (fun W => apart_any (4 * (z : Int)) P W (by omega) (by omega))
      generalize aptV (4 * (z : Int)) P = A at *
      have hqb := nqS_bd (900 * A) (4 * ((n : Int) - 1)) (by omega) (by omega) (by omega)
      have HNQ := Lib.hid (fun W => nearest_any (900 * A) (4 * ((n : Int) - 1)) W (by omega) (by omega))
      generalize nq (900 * A) (4 * ((n : Int) - 1)) = Q at *
      have hzn : (z : Int) < (n : Int) := by omega
      have w4 : IntKind.i64.wrap (4 * (z : Int)) = 4 * (z : Int) := IntWalk.i64_in _ (by omega)
      have w9 : IntKind.i64.wrap (900 * A) = 900 * A := IntWalk.i64_in _ (by omega)
      have w5 : IntKind.i64.wrap (4 * ((n : Int) - 1)) = 4 * ((n : Int) - 1) := IntWalk.i64_in _ (by omega)
      have wq : IntKind.i64.wrap (1000 - Q) = 1000 - Q := IntWalk.i64_in _ (by omega)
      clear hpb hab hal
      go_wp2_with fail
      refine (HAP.out _).mono ?_
      rintro e w1 ⟨rfl, hb1⟩
      have HO1 := Lib.hid (row_keep1 hb1 HO.out)
      have HB1 := Lib.hid (below_of HB.out hb1 HB.out.size)
      clear hb1
      go_wp2_with fail
      refine (HNQ.out _).mono ?_
      rintro e w2 ⟨rfl, hb1⟩
      have hown := row_keep1 hb1 HO1.out
      have HB2 := Lib.hid (below_of HB1.out hb1 HB1.out.size)
      clear hb1
      have hf := hown.frozenAt z
      have hat : w2.cell? ⟨w.heap.size, z, none⟩ = (i64s (copied (stRow n k) z))[z]? := hown.cellAt z (by omega)
      rw [i64s_get _ _ (by rw [copied_len _ _ (by rw [HL.out]; omega), HL.out]; exact hlt2)] at hat
      have HS := Lib.hid (hown.stored z (.int .i64 ((stRow n k).getD z 0)))
      have HN := Lib.hid (HCN.out z (by rw [HL.out]; exact hlt2))
      rw [hG, hS] at HS HN
      clear hown hG hS
      generalize (copied (stRow n k) z).getD z 0 = old at *
      go_wp2
      go_roundw
      case rel => exact ⟨z + 1, by omega, by go_num, by rw [← HN.out]; exact HS.out.1, HB2.out.setCell (by exact Nat.le_refl _) _⟩
      case measure => simp [intOf]; omega
    · obtain rfl : z = n := by omega
      have hc2 : copied (stRow z k) z = stRow z k := by unfold copied; rw [HL.out, Nat.sub_self]; rw [List.take_of_length_le (by rw [HL.out]; exact Nat.le_refl _)]; simp
      rw [hc2] at HO
      clear hc2
      go_wp2
      go_ret
      exact ⟨.slice (some ⟨w.heap.size, 0, none⟩) z z, rfl, ⟨w.heap.size, z, by rw [HL.out], Nat.le_refl _, (HO.out.lt _ rfl).2, by rw [HL.out]; exact HO.out⟩, HB.out⟩
end Go.Proofs.Ytpjopfhkgegahaa
