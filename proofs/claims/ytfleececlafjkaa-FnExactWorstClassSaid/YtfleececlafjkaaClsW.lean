/- The worst class of a list of deviations: both programs' answers. -/
import Derived.Test.YtfleececlafjkaaCls
set_option linter.unusedVariables false
namespace Go.Proofs.Ytfleececlafjkaa
open Go.ChangeShapes Go.WideShapes Go.ChangeAt Go.RowKit

theorem retC_two {a b c d : Int} (h : a = b) (k : c = d) : Ending.returned (.tuple #[.int .i64 a, .int .i64 c]) = .returned (.tuple #[.int .i64 b, .int .i64 d]) := by rw [h, k]
/-- The greatest class of the first k deviations, at least s. -/
def worK (s : Int) (zs : List Int) : Nat → Int
  | 0 => s
  | k + 1 => maxC (worK s zs k) (clsI (zs.getD k 0))
def worR (zs : List Int) : Int := if zs.length = 0 then 0 else worK 1 zs zs.length
def worC (zs : List Int) : Int := if zs.length = 0 then 6 else 0
theorem wor_bd (s : Int) (zs : List Int) (hs : 0 ≤ s ∧ s ≤ 4) (k : Nat) : 0 ≤ worK s zs k ∧ worK s zs k ≤ 4 := by
  induction k with
  | zero => exact hs
  | succ k ih => unfold worK maxC; have := cls_bd (zs.getD k 0); split <;> omega
theorem wor_eq (zs : List Int) (k : Nat) : worK 0 zs (k + 1) = worK 1 zs (k + 1) := by
  induction k with
  | zero =>
    have h := cls_bd (zs.getD 0 0)
    have e0 : maxC 0 (clsI (zs.getD 0 0)) = clsI (zs.getD 0 0) := by unfold maxC; rw [if_neg (by omega)]
    have e1 : maxC 1 (clsI (zs.getD 0 0)) = clsI (zs.getD 0 0) := by unfold maxC; rw [if_neg (by omega)]
    show maxC 0 (clsI (zs.getD 0 0)) = maxC 1 (clsI (zs.getD 0 0))
    rw [e0, e1]
  | succ k ih => rw [worK, ih]; rfl
theorem max_pick (a b : Int) : [b].foldl pickMost a = maxC a b := by
  show (if a < b then b else a) = if b < a then a else b
  by_cases h : a < b
  · rw [if_pos h, if_neg (by omega)]
  · rw [if_neg h]
    by_cases h2 : b < a
    · rw [if_pos h2]
    · rw [if_neg h2]; omega
theorem l00MaxC_any (a b : Int) (w : World) :
    Calls Try.prog 44 #[.int .i64 a, .int .i64 b] w fun e w' => e = .returned (.int .i64 (maxC a b)) ∧ w = w' := by
  by_cases h : b < a
  · have HF := Lib.hid (show maxC a b = a by unfold maxC; rw [if_pos h])
    go_enter Try.func44, Try.ntmps44
    go_wp2
    go_ret
    exact ⟨retC_i64 HF.out.symm, rfl⟩
  · have HF := Lib.hid (show maxC a b = b by unfold maxC; rw [if_neg h])
    go_enter Try.func44, Try.ntmps44
    go_wp2
    go_ret
    exact ⟨retC_i64 HF.out.symm, rfl⟩
set_option maxHeartbeats 1000000 in
theorem specWor_some (zs : List Int) (b off n cap : Nat) (w : World) (hn : Hid (zs.length = n)) (hn0 : 0 < n) (hbig : n ≤ 1048576)
    (hc : ∀ j, j < n → w.cell? ⟨b, off + j, none⟩ = some (.int .i64 (zs.getD j 0))) :
    Calls Try.prog 14 #[.slice (some ⟨b, off, none⟩) n cap] w fun e w' => e = .returned (.tuple #[.int .i64 (worR zs), .int .i64 (worC zs)]) ∧ w = w' := by
  have HC := Lib.hid hc
  have HR := Lib.hid (show worR zs = worK 1 zs n by unfold worR; rw [hn.out, if_neg (by omega)])
  have HQ := Lib.hid (show worC zs = 0 by unfold worC; rw [hn.out, if_neg (by omega)])
  have hne : ((n : Int) == 0) = false := by simp; omega
  clear hc
  go_enter Try.func14, Try.ntmps14
  go_wp2
  go_loop [4, 5] (fun a i => ∃ k : Nat, k ≤ n ∧ i = .int .i64 k ∧ a = .int .i64 (worK 1 zs k)) (fun _ i => n - (intOf i).toNat)
  case atStart => exact ⟨0, by omega, rfl, rfl⟩
  case round =>
    obtain ⟨k, hk, rfl, rfl⟩ := hrel
    by_cases hlt : k < n
    · have hcell := HC.out k hlt
      have HS := Lib.hid (show worK 1 zs (k + 1) = maxC (worK 1 zs k) (clsI (zs.getD k 0)) from rfl)
      generalize zs.getD k 0 = z at *
      generalize worK 1 zs k = m at *
      have hk1 : (k : Int) < (n : Int) := by omega
      have hk0 : (0 : Int) ≤ (k : Int) := by omega
      go_wp2_with fail
      refine (l11Class_any z _).mono ?_
      rintro e w2 ⟨rfl, rfl⟩
      generalize clsI z = c at *
      go_wp2_with fail
      refine (l00MaxC_any m c _).mono ?_
      rintro e w2 ⟨rfl, rfl⟩
      generalize maxC m c = m2 at *
      go_wp2
      go_round
      case rel => exact ⟨k + 1, by omega, by go_num, by rw [HS.out]⟩
      case measure => simp [intOf]; omega
    · obtain rfl : k = n := by omega
      generalize worK 1 zs k = m at *
      go_wp2
      go_ret2
      exact ⟨retC_two HR.out.symm HQ.out.symm, rfl⟩
theorem specWor_none (a : Option Addr) (c : Nat) (w : World) :
    Calls Try.prog 14 #[.slice a 0 c] w fun e w' => e = .returned (.tuple #[.int .i64 (worR []), .int .i64 (worC [])]) ∧ w = w' := by
  go_enter Try.func14, Try.ntmps14
  go_wp2
  go_ret2
  exact ⟨rfl, rfl⟩
theorem specWor_any (zs : List Int) (v : Value) (w : World) (h : IntsAt w v zs) :
    Calls Try.prog 14 #[v] w fun e w' => e = .returned (.tuple #[.int .i64 (worR zs), .int .i64 (worC zs)]) ∧ Below w.heap.size w w' := by
  obtain ⟨hl, ⟨a, c, rfl, rfl⟩ | ⟨b, off, cap, rfl, hlt, hc⟩⟩ := h
  · exact (specWor_none a c w).mono (fun _ _ h => ⟨h.1, h.2 ▸ Below.refl _ _⟩)
  · by_cases h0 : zs.length = 0
    · obtain rfl : zs = [] := List.length_eq_zero_iff.1 h0
      exact (specWor_none _ cap w).mono (fun _ _ h => ⟨h.1, h.2 ▸ Below.refl _ _⟩)
    · exact (specWor_some zs b off _ cap w (Lib.hid rfl) (by omega) hl hc).mono (fun _ _ h => ⟨h.1, h.2 ▸ Below.refl _ _⟩)
theorem cellW1 (w : World) (x : Int) (T : TypeId) (n : Nat) (hn : n = w.heap.size) : ∀ j, j < 1 → (w.alloc (.cells #[.int .i64 x] T)).cell? ⟨n, 0 + j, none⟩ = some (.int .i64 ([x].getD j 0)) := by
  subst hn
  intro j hj
  match j, hj with
  | 0, _ => go_simp
set_option maxHeartbeats 1000000 in
theorem implWor_some (zs : List Int) (b off n cap : Nat) (w : World) (hn : Hid (zs.length = n)) (hn0 : 0 < n) (hbig : n ≤ 1048576) (hbl : b < w.heap.size) (hwf : Hid (∀ z ∈ zs, (Lit.int .i64 z).wf = true))
    (hc : ∀ j, j < n → w.cell? ⟨b, off + j, none⟩ = some (.int .i64 (zs.getD j 0))) :
    Calls Try.prog 16 #[.slice (some ⟨b, off, none⟩) n cap] w fun e w' => e = .returned (.tuple #[.int .i64 (worR zs), .int .i64 (worC zs)]) ∧ Below w.heap.size w w' := by
  have HC := Lib.hid hc
  have HR := Lib.hid (show worR zs = worK 0 zs n by
    unfold worR; rw [hn.out, if_neg (by omega)]
    obtain ⟨q, rfl⟩ : ∃ q, n = q + 1 := ⟨n - 1, by omega⟩
    exact (wor_eq zs q).symm)
  have HQ := Lib.hid (show worC zs = 0 by unfold worC; rw [hn.out, if_neg (by omega)])
  have hne : ((n : Int) == 0) = false := by simp; omega
  clear hc
  go_enter Try.func16, Try.ntmps16
  go_wp2
  go_loopw [4, 12] (fun a i wr => ∃ k : Nat, k ≤ n ∧ i = .int .i64 k ∧ a = .int .i64 (worK 0 zs k) ∧ Below w.heap.size w wr) (fun _ i _ => n - (intOf i).toNat)
  case atStart => exact ⟨0, by omega, rfl, rfl, Below.refl _ _⟩
  case round =>
    obtain ⟨k, hk, rfl, rfl, hbw⟩ := hrel
    have HB := Lib.hid hbw
    by_cases hlt : k < n
    · have hcell : wr.cell? ⟨b, off + k, none⟩ = some (.int .i64 (zs.getD k 0)) := (below_cell hbw _ _ hbl).trans (HC.out k hlt)
      have HS := Lib.hid (show worK 0 zs (k + 1) = maxC (worK 0 zs k) (clsI (zs.getD k 0)) from rfl)
      have hz : (Lit.int .i64 (zs.getD k 0)).wf = true := hwf.out _ (by
        have hk2 : k < zs.length := by rw [hn.out]; exact hlt
        rw [List.getD_eq_getElem?_getD, List.getElem?_eq_getElem hk2]; exact List.getElem_mem hk2)
      generalize zs.getD k 0 = z at *
      have HZ := Lib.hid (wf_bd hz)
      generalize worK 0 zs k = m at *
      have hk1 : (k : Int) < (n : Int) := by omega
      have hk0 : (0 : Int) ≤ (k : Int) := by omega
      clear hbw hz
      go_wp2_with fail
      refine (implClassOf_any z (by have := HZ.out; omega) _).mono ?_
      rintro e w2 ⟨rfl, hb⟩
      have HB2 := Lib.hid (below_of HB.out hb HB.out.size)
      clear hb hcell
      generalize clsI z = c at *
      go_wp2_with fail
      refine (greatest_any m [c] _ 0 1 1 _ rfl (by omega) (cellW1 _ _ _ _ rfl)).mono ?_
      rintro e w3 ⟨rfl, rfl⟩
      rw [max_pick]
      generalize maxC m c = m2 at *
      go_wp2
      go_roundw
      case rel => exact ⟨k + 1, by omega, by go_num, by rw [HS.out], HB2.out.alloc HB2.out.size _⟩
      case measure => simp [intOf]; omega
    · obtain rfl : k = n := by omega
      generalize worK 0 zs k = m at *
      clear hbw
      go_wp2
      go_ret2
      exact ⟨retC_two HR.out.symm HQ.out.symm, HB.out⟩
theorem implWor_none (a : Option Addr) (c : Nat) (w : World) :
    Calls Try.prog 16 #[.slice a 0 c] w fun e w' => e = .returned (.tuple #[.int .i64 (worR []), .int .i64 (worC [])]) ∧ Below w.heap.size w w' := by
  go_enter Try.func16, Try.ntmps16
  go_wp2
  go_ret2
  exact ⟨rfl, Below.refl _ _⟩
theorem implWor_any (zs : List Int) (v : Value) (hwf : ∀ z ∈ zs, (Lit.int .i64 z).wf = true) (w : World) (h : IntsAt w v zs) :
    Calls Try.prog 16 #[v] w fun e w' => e = .returned (.tuple #[.int .i64 (worR zs), .int .i64 (worC zs)]) ∧ Below w.heap.size w w' := by
  obtain ⟨hl, ⟨a, c, rfl, rfl⟩ | ⟨b, off, cap, rfl, hlt, hc⟩⟩ := h
  · exact implWor_none a c w
  · by_cases h0 : zs.length = 0
    · obtain rfl : zs = [] := List.length_eq_zero_iff.1 h0
      exact implWor_none _ cap w
    · exact implWor_some zs b off _ cap w (Lib.hid rfl) (by omega) hl hlt (Lib.hid hwf) hc
end Go.Proofs.Ytfleececlafjkaa
