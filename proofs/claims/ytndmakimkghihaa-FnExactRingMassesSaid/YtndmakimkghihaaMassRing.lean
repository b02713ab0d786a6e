/- Masses: what the program reckons of one ring; the area and the volume of a ring, both sides. -/
import Derived.Test.YtndmakimkghihaaMassImpl
import Derived.Test.YtndmakimkghihaaMassSpec
import Derived.Deep.RegionHeld3
import Derived.BigRegion
set_option linter.unusedVariables false
namespace Go.Proofs.Ytndmakimkghihaa
open Go.ChangeShapes Go.WideShapes Go.ChangeAt Go.RowKit

def codeR (r : Rg) : Int := if ringB r = true then 0 else 1
def areaR (r : Rg) : Int := nq (secR r * 3141593) 10000000000
def areaV (r : Rg) : Int := if ringB r = true then areaR r else 0
def ringVolV (r : Rg) : Int := if ringB r = true then volR r else 0
theorem below_drw (w : World) : Below w.heap.size w w.drew := ⟨rfl, rfl, rfl, Nat.le_refl _, fun _ _ => rfl⟩
theorem k3 {w W W2 : World} {b : Nat} {x y z : Value} (hS : W.cell? ⟨b, 0, none⟩ = some x ∧ W.cell? ⟨b, 1, none⟩ = some y ∧ W.cell? ⟨b, 2, none⟩ = some z ∧ Below w.heap.size w W) (hz : b < w.heap.size) (hb : Below W.heap.size W W2) :
    W2.cell? ⟨b, 0, none⟩ = some x ∧ W2.cell? ⟨b, 1, none⟩ = some y ∧ W2.cell? ⟨b, 2, none⟩ = some z ∧ Below w.heap.size w W2 := by
  obtain ⟨h0, h1, h2, h3⟩ := hS
  have hl := Nat.lt_of_lt_of_le hz h3.size
  exact ⟨(below_cell hb _ _ hl).trans h0, (below_cell hb _ _ hl).trans h1, (below_cell hb _ _ hl).trans h2, below_of h3 hb h3.size⟩
theorem k4 {w W W2 : World} {b : Nat} {x y z t : Value} (hS : W.cell? ⟨b, 0, none⟩ = some x ∧ W.cell? ⟨b, 1, none⟩ = some y ∧ W.cell? ⟨b, 2, none⟩ = some z ∧ W.cell? ⟨b, 3, none⟩ = some t ∧ Below w.heap.size w W) (hz : b < w.heap.size) (hb : Below W.heap.size W W2) :
    W2.cell? ⟨b, 0, none⟩ = some x ∧ W2.cell? ⟨b, 1, none⟩ = some y ∧ W2.cell? ⟨b, 2, none⟩ = some z ∧ W2.cell? ⟨b, 3, none⟩ = some t ∧ Below w.heap.size w W2 := by
  obtain ⟨h0, h1, h2, h4, h3⟩ := hS
  have hl := Nat.lt_of_lt_of_le hz h3.size
  exact ⟨(below_cell hb _ _ hl).trans h0, (below_cell hb _ _ hl).trans h1, (below_cell hb _ _ hl).trans h2, (below_cell hb _ _ hl).trans h4, below_of h3 hb h3.size⟩
theorem drawn_below {w w' : World} (h : ∃ n, w' = w.drewN n) : Below w.heap.size w w' := by
  obtain ⟨n, rfl⟩ := h
  exact below_drewN _ _
theorem section_any (x y z : Int) (w : World) (hr : ringB (x, y, z) = true) :
    Calls Try.prog 174 #[.agg #[.int .i64 x, .int .i64 y, .int .i64 z]] w fun e w' => e = .returned (.int .i64 (secR (x, y, z))) ∧ Below w.heap.size w w' := by
  obtain ⟨⟨r0, r1⟩, ⟨r2, r3⟩, r4, r5⟩ := ring_iff.1 hr
  have s0 := sec_bd hr
  simp only at r0 r1 r2 r3 r4 r5
  have s1 := sq_bd (x := x) (by omega) r1
  have s2 := sq_bd (x := y) r2 (by omega)
  have s3 : 90000 ≤ x * x - y * y ∧ x * x - y * y ≤ 22500000000 := s0
  have HV := Lib.hid (show secR (x, y, z) = x * x - y * y from rfl)
  clear hr s0
  go_enter Try.func174, Try.ntmps174
  go_wp2
  go_ret
  exact ⟨ret_i64 HV.out.symm, below_al _ _⟩
theorem volumeOver_any (sq h : Int) (w : World) (h0 : 0 ≤ sq) (h1 : sq ≤ 22500000000) (k0 : 0 ≤ h) (k1 : h ≤ 300000) :
    Calls Try.prog 173 #[.int .i64 sq, .int .i64 h] w fun e w' => e = .returned (.int .i64 (tubeV sq h)) ∧ Below w.heap.size w w' := by
  obtain ⟨⟨a0, a1⟩, ⟨b0, b1⟩, -, -⟩ := tube_in h0 h1 k0 k1
  have HF := Lib.hid (show tubeV sq h = nq (nq (sq * h) 1000000 * 3141593) 1000000 from rfl)
  have HC1 := Lib.hid (fun w => nearProd_any sq h 1000000 h0 k0 (by omega) (by omega) (by omega) (by omega) (by omega) w)
  have HC2 := Lib.hid (fun w => nearProd_any (nq (sq * h) 1000000) 3141593 1000000 b0 (by omega) (by omega) (by omega) (by omega) (by omega) (by omega) w)
  go_enter Try.func173, Try.ntmps173
  go_wp2_with (first | (go_at_call_of 172 (Value.int .i64 sq); refine (HC1.out _).mono ?_; rintro e w1 ⟨rfl, hb1⟩) | (go_at_call_of 172 (Value.int .i64 (nq (sq * h) 1000000)); refine (HC2.out _).mono ?_; rintro e w2 ⟨rfl, hb2⟩))
  go_ret
  exact ⟨ret_i64 HF.out.symm, below_of (drawn_below hb1) (drawn_below hb2) (drawn_below hb1).size⟩
theorem massOf_any (v d : Int) (w : World) (h0 : 0 ≤ v) (h1 : v ≤ 700000000000) (k0 : 0 ≤ d) (k1 : d ≤ 20000) :
    Calls Try.prog 151 #[.int .i64 v, .int .i64 d] w fun e w' => e = .returned (.int .i64 (massV v d)) ∧ Below w.heap.size w w' := by
  obtain ⟨⟨a0, a1⟩, -⟩ := mass_bd h0 h1 k0 k1
  have HF := Lib.hid (show massV v d = nq (v * d) 1000000 from rfl)
  have HC1 := Lib.hid (fun w => nearProd_any v d 1000000 h0 k0 (by omega) (by omega) (by omega) (by omega) (by omega) w)
  go_enter Try.func151, Try.ntmps151
  go_wp2_with (go_at_call 172; refine (HC1.out _).mono ?_; rintro e w1 ⟨rfl, hb1⟩)
  go_ret
  exact ⟨ret_i64 HF.out.symm, drawn_below hb1⟩
set_option maxHeartbeats 400000 in
theorem volume_any (x y z : Int) (w : World) (hr : ringB (x, y, z) = true) :
    Calls Try.prog 152 #[.agg #[.int .i64 x, .int .i64 y, .int .i64 z]] w fun e w' => e = .returned (.int .i64 (volR (x, y, z))) ∧ Below w.heap.size w w' := by
  obtain ⟨-, -, r4, r5⟩ := ring_iff.1 hr
  have s0 := sec_bd hr
  have HS := Lib.hid (fun w => section_any x y z w hr)
  have HT := Lib.hid (fun w => volumeOver_any (secR (x, y, z)) z w (by omega) s0.2 (by simp only at r4; omega) r5)
  have HV := Lib.hid (show volR (x, y, z) = tubeV (secR (x, y, z)) z from rfl)
  clear hr s0 r4 r5
  generalize secR (x, y, z) = q at *
  have c0 : (w.alloc (.cells #[.int .i64 x, .int .i64 y, .int .i64 z] 135)).cell? ⟨w.heap.size, 0, none⟩ = some (.int .i64 x) := by go_simp
  have c1 : (w.alloc (.cells #[.int .i64 x, .int .i64 y, .int .i64 z] 135)).cell? ⟨w.heap.size, 1, none⟩ = some (.int .i64 y) := by go_simp
  have c2 : (w.alloc (.cells #[.int .i64 x, .int .i64 y, .int .i64 z] 135)).cell? ⟨w.heap.size, 2, none⟩ = some (.int .i64 z) := by go_simp
  have hl := alloc_lt2 w (.cells #[.int .i64 x, .int .i64 y, .int .i64 z] 135)
  have HB0 := Lib.hid (below_al w (.cells #[.int .i64 x, .int .i64 y, .int .i64 z] 135))
  go_enter Try.func152, Try.ntmps152
  go_wp2
  generalize w.alloc (.cells #[.int .i64 x, .int .i64 y, .int .i64 z] 135) = wA at *
  go_region_held3 (fun w' => w'.cell? ⟨w.heap.size, 0, none⟩ = some (.int .i64 x) ∧ w'.cell? ⟨w.heap.size, 1, none⟩ = some (.int .i64 y) ∧ w'.cell? ⟨w.heap.size, 2, none⟩ = some (.int .i64 z) ∧ Below wA.heap.size wA w')
    (first | exact ⟨c0, c1, c2, below_drw _⟩ | assumption | exact k3 (by assumption) hl hb6 | exact k3 (by assumption) hl hb7)
    (first
      | (go_at_call 174; refine (HS.out _).mono ?_; rintro e w6 ⟨rfl, hb6⟩)
      | (go_at_call 173; refine (HT.out _).mono ?_; rintro e w7 ⟨rfl, hb7⟩))
  all_goals go_wp2
  all_goals go_ret
  all_goals exact ⟨ret_i64 HV.out.symm, below_of HB0.out (below_of (by first | (refine below_of (below_drw wA) hb6 (Nat.le_refl _))) hb7 (by first | exact hb6.size)) HB0.out.size⟩
end Go.Proofs.Ytndmakimkghihaa
