/- A model and a profile: the reference model's moments. -/
import Derived.Test.YtpjopfhkgegahaaGreatModAsk
import Derived.BigRegion
set_option linter.unusedVariables false
namespace Go.Proofs.YtpjopfhkgegahaaGreat
open Go.ChangeShapes Go.WideShapes Go.ChangeAt Go.RowKit

/-- The sum of the products of the first k entries. -/
def momN (a b : List Int) : Nat → Int
  | 0 => 0
  | k + 1 => momN a b k + a.getD k 0 * b.getD k 0
theorem momN_bd (a b : List Int) (k : Nat) (ha : ∀ j, j < k → 0 ≤ a.getD j 0 ∧ a.getD j 0 ≤ 1000) (hb : ∀ j, j < k → 0 ≤ b.getD j 0 ∧ b.getD j 0 ≤ 150000) : 0 ≤ momN a b k ∧ momN a b k ≤ 150000000 * k := by
  induction k with
  | zero => simp [momN]
  | succ k ih =>
    have h := ih (fun j hj => ha j (by omega)) (fun j hj => hb j (by omega))
    have h1 := ha k (by omega)
    have h2 := hb k (by omega)
    have h3 : 0 ≤ a.getD k 0 * b.getD k 0 := Int.mul_nonneg h1.1 h2.1
    have h4 : a.getD k 0 * b.getD k 0 ≤ 1000 * 150000 := Int.le_trans (Int.mul_le_mul_of_nonneg_right h1.2 h2.1) (Int.mul_le_mul_of_nonneg_left h2.2 (by omega))
    simp only [momN]
    omega
set_option maxRecDepth 20000 in
set_option maxHeartbeats 2000000 in
theorem l08Moment_any (m k n : Nat) (v0 v1 v2 vw : Value) (ws : List (List Int)) (L : List Int) (w : World) (hml : m < w.heap.size) (hm : ModIn w m v0 v1 v2) (h1 : RowsAt w v1 ws) (hL : IntsAt w vw L) (hk : k < ws.length) (hw5 : ws.length ≤ 5) (hrn : (ws.getD k []).length = n) (hLn : L.length = n) (hn1 : 1 ≤ n) (hn8 : n ≤ 8)
    (hA : ∀ j, j < n → 0 ≤ (ws.getD k []).getD j 0 ∧ (ws.getD k []).getD j 0 ≤ 1000) (hB : ∀ j, j < n → 0 ≤ L.getD j 0 ∧ L.getD j 0 ≤ 150000) :
    Calls Tryz.prog 81 #[.pointer (some ⟨m, 0, none⟩), vw, .int .i64 k] w fun e w' => e = .returned (.int .i64 (momN (ws.getD k []) L n)) ∧ Below w.heap.size w w' := by
  have c1 := hm.c1
  obtain ⟨b1, o1, k1, rfl, hb1, hc1⟩ := mrows_cells h1 (by omega)
  obtain ⟨bw, ow, kw, rfl, hbw, hcw⟩ := ints_cells hL (by omega)
  obtain ⟨u, hu, hui⟩ := hc1 k hk
  obtain ⟨br, orr, kr, hue, hbr, hcr⟩ := ints_cells hui (by rw [hrn]; omega)
  subst hue
  rw [hrn] at hu hcr
  rw [hLn] at hcw
  generalize hws : ws.length = nw at *
  have HCW := Lib.hid hcw
  have HCR := Lib.hid hcr
  have HA := Lib.hid hA
  have HB := Lib.hid hB
  generalize ws.getD k [] = row at *
  clear hm h1 hL hui hc1 hcw hcr hA hB
  have hk0 : (0 : Int) ≤ (k : Int) := by omega
  have hk1 : (k : Int) < (nw : Int) := by omega
  simp only [hLn]
  go_enter Tryz.func81, Tryz.ntmps81
  go_wp2
  go_loopw [7, 8] (fun v i wr => ∃ q : Nat, q ≤ n ∧ i = .int .i64 q ∧ v = .int .i64 (momN row L q) ∧ Below w.heap.size w wr) (fun _ i _ => n - (intOf i).toNat)
  case atStart => exact ⟨0, by omega, rfl, rfl, Below.refl _ _⟩
  case round =>
    obtain ⟨q, hq, rfl, rfl, hbd⟩ := hrel
    have HBD := Lib.hid hbd
    by_cases hlt : q < n
    · have d1 := (below_cell hbd _ _ hml).trans c1
      have d2 := (below_cell hbd _ _ hb1).trans hu
      have d3 := (below_cell hbd _ _ hbr).trans (HCR.out q hlt)
      have d4 := (below_cell hbd _ _ hbw).trans (HCW.out q hlt)
      have hbnd := momN_bd row L q (fun j hj => HA.out j (by omega)) (fun j hj => HB.out j (by omega))
      have x1 := HA.out q hlt
      have x2 := HB.out q hlt
      have HN := Lib.hid (show momN row L (q + 1) = momN row L q + row.getD q 0 * L.getD q 0 from rfl)
      generalize row.getD q 0 = x at *
      generalize L.getD q 0 = y at *
      generalize momN row L q = t at *
      have hxy : 0 ≤ x * y ∧ x * y ≤ 150000000 := ⟨Int.mul_nonneg x1.1 x2.1, Int.le_trans (Int.mul_le_mul_of_nonneg_right x1.2 x2.1) (by omega)⟩
      have hw1 : IntKind.i64.wrap (x * y) = x * y := IntWalk.i64_in _ (by omega)
      have hw2 : IntKind.i64.wrap (t + x * y) = t + x * y := IntWalk.i64_in _ (by omega)
      have hq0 : (0 : Int) ≤ (q : Int) := by omega
      have hq1 : (q : Int) < (n : Int) := by omega
      clear hbd c1 hu hbnd x1 x2 hxy
      go_wp2
      go_region
      go_wp2
      go_roundw
      case rel => exact ⟨q + 1, by omega, by go_num, by rw [HN.out], HBD.out.trans ⟨rfl, rfl, rfl, Nat.le_refl _, fun _ _ => rfl⟩⟩
      case measure => simp [intOf]; omega
    · obtain rfl : q = n := by omega
      clear hbd
      go_wp2
      go_ret
      exact ⟨rfl, HBD.out⟩
end Go.Proofs.YtpjopfhkgegahaaGreat
