/- Masses: hollow, mass, moment and turning of a ring; AreaOf, RingVolume; the functions that are handed to sumOf. -/
import Derived.Test.YtgnnpimfcbkloaaMassRing
import Derived.Test.YtgnnpimfcbkloaaDiv
set_option linter.unusedVariables false
namespace Go.Proofs.Ytgnnpimfcbkloaa
open Go.ChangeShapes Go.WideShapes Go.ChangeAt Go.RowKit

theorem hollow_any (x y z : Int) (w : World) (hr : ringB (x, y, z) = true) :
    Calls Try.prog 64 #[.agg #[.int .i64 x, .int .i64 y, .int .i64 z]] w fun e w' => e = .returned (.int .i64 (holR (x, y, z))) ∧ Below w.heap.size w w' := by
  obtain ⟨⟨r0, r1⟩, ⟨r2, r3⟩, r4, r5⟩ := ring_iff.1 hr
  have s0 := in_bd hr
  simp only at r0 r1 r2 r3 r4 r5
  have s2 : 0 ≤ y * y ∧ y * y ≤ 22500000000 := s0
  have HT := Lib.hid (fun w => volumeOver_any (y * y) z w s2.1 s2.2 (by omega) r5)
  have HV := Lib.hid (show holR (x, y, z) = tubeV (y * y) z from rfl)
  clear hr s0
  go_enter Try.func64, Try.ntmps64
  go_wp2_with (go_at_call 99; refine (HT.out _).mono ?_; rintro e w7 ⟨rfl, hb7⟩)
  go_ret
  exact ⟨ret_i64 HV.out.symm, below_of (below_al _ _) hb7 (below_al _ _).size⟩
theorem mass_any (x y z d : Int) (w : World) (hr : ringB (x, y, z) = true) (k0 : 0 ≤ d) (k1 : d ≤ 20000) :
    Calls Try.prog 71 #[.agg #[.int .i64 x, .int .i64 y, .int .i64 z], .int .i64 d] w fun e w' => e = .returned (.int .i64 (massV (volR (x, y, z)) d)) ∧ Below w.heap.size w w' := by
  have s0 := vol_bd hr
  have HS := Lib.hid (fun w => volume_any x y z w hr)
  have HT := Lib.hid (fun w => massOf_any (volR (x, y, z)) d w (by omega) (by omega) k0 k1)
  clear hr s0
  generalize volR (x, y, z) = q at *
  go_enter Try.func71, Try.ntmps71
  go_wp2_with (first | (go_at_call 54; refine (HS.out _).mono ?_; rintro e w6 ⟨rfl, hb6⟩) | (go_at_call 68; refine (HT.out _).mono ?_; rintro e w7 ⟨rfl, hb7⟩))
  go_ret
  exact ⟨rfl, below_of (below_of (below_al _ _) hb6 (below_al _ _).size) hb7 (Nat.le_trans (below_al _ _).size hb6.size)⟩
set_option maxRecDepth 100000 in
set_option maxHeartbeats 400000 in
theorem moment_any (x y z d : Int) (w : World) (hr : ringB (x, y, z) = true) (k0 : 0 ≤ d) (k1 : d ≤ 20000) :
    Calls Try.prog 78 #[.agg #[.int .i64 x, .int .i64 y, .int .i64 z], .int .i64 d] w fun e w' => e = .returned (.int .i64 (massV (volR (x, y, z)) d * armR (x, y, z))) ∧ Below w.heap.size w w' := by
  obtain ⟨⟨r0, r1⟩, ⟨r2, r3⟩, r4, r5⟩ := ring_iff.1 hr
  simp only at r0 r1 r2 r3 r4 r5
  have s1 := sq_bd (x := x) (by omega) r1
  have s2 := sq_bd (x := y) r2 (by omega)
  have s3 := vol_bd hr
  have s4 := (arm_bd hr).2
  have s5 := (mass_bd (show 0 ≤ volR (x, y, z) by omega) s3.2 k0 k1).2
  have s6 := mul_le2 s5.1 s5.2 s4.1 s4.2
  have HS := Lib.hid (fun w => mass_any x y z d w hr k0 k1)
  have e1 := Lib.hid <| show IntKind.i64.wrap (IntKind.i64.wrap (x * x) + IntKind.i64.wrap (y * y)) = x * x + y * y from by
    rw [IntWalk.i64_in (x * x) (by omega), IntWalk.i64_in (y * y) (by omega), IntWalk.i64_in _ (by omega)]
  have HT := Lib.hid (show ∀ (a : Int) (w : World), a = x * x + y * y → Calls Try.prog 76 #[.int .i64 a, .int .i64 20000] w fun e w' => e = .returned (.int .i64 (nq (x * x + y * y) 20000)) ∧ Below w.heap.size w w' from fun a w h => by subst h; exact nearest_any (x * x + y * y) 20000 w (by omega) (by omega))
  have HV := Lib.hid (show armR (x, y, z) = nq (x * x + y * y) 20000 from rfl)
  rw [HV.out] at s6 ⊢
  clear hr s3 s4 s5
  generalize massV (volR (x, y, z)) d = m at *
  generalize nq (x * x + y * y) 20000 = q at *
  have hw := Lib.hid (show IntKind.i64.wrap (m * q) = m * q from IntWalk.i64_in _ (by omega))
  clear s1 s2 s6
  have c0 : (w.alloc (.cells #[.int .i64 x, .int .i64 y, .int .i64 z] 26)).cell? ⟨w.heap.size, 0, none⟩ = some (.int .i64 x) := by go_simp
  have c1 : (w.alloc (.cells #[.int .i64 x, .int .i64 y, .int .i64 z] 26)).cell? ⟨w.heap.size, 1, none⟩ = some (.int .i64 y) := by go_simp
  have c2 : (w.alloc (.cells #[.int .i64 x, .int .i64 y, .int .i64 z] 26)).cell? ⟨w.heap.size, 2, none⟩ = some (.int .i64 z) := by go_simp
  have hl := alloc_lt2 w (.cells #[.int .i64 x, .int .i64 y, .int .i64 z] 26)
  have HB0 := Lib.hid (below_al w (.cells #[.int .i64 x, .int .i64 y, .int .i64 z] 26))
  go_enter Try.func78, Try.ntmps78
  go_wp2
  generalize (w.alloc (.cells #[.int .i64 x, .int .i64 y, .int .i64 z] 26)) = wA at *
  go_region_held3 (fun w' => w'.cell? ⟨w.heap.size, 0, none⟩ = some (.int .i64 x) ∧ w'.cell? ⟨w.heap.size, 1, none⟩ = some (.int .i64 y) ∧ w'.cell? ⟨w.heap.size, 2, none⟩ = some (.int .i64 z) ∧ Below wA.heap.size wA w')
    (first | exact ⟨c0, c1, c2, below_drw _⟩ | assumption | exact k3 (by assumption) hl hb6 | exact k3 (by assumption) hl hb7)
    (first
      | (go_at_call 71; refine (HS.out _).mono ?_; rintro e w6 ⟨rfl, hb6⟩)
      | (go_at_call 76; refine (HT.out _ _ e1.out).mono ?_; rintro e w7 ⟨rfl, hb7⟩))
  all_goals go_wp2
  all_goals go_ret
  all_goals first
    | exact ⟨ret_i64 hw.out, below_of HB0.out (below_of (below_of (below_drw wA) hb6 (Nat.le_refl _)) hb7 hb6.size) HB0.out.size⟩
    | exact ⟨ret_i64 hw.out, below_of HB0.out (below_of (below_of (below_drw wA) hb7 (Nat.le_refl _)) hb6 hb7.size) HB0.out.size⟩
def turnV (b : Int) (r : Rg) : Int := volR r * (2 * b + r.2.2)
theorem turn_bd {b : Int} {r : Rg} (h : ringB r = true) (b0 : 0 ≤ b) (b1 : b ≤ 300000) : 0 ≤ turnV b r ∧ turnV b r ≤ 19085177475000000 := by
  obtain ⟨-, -, e, f⟩ := ring_iff.1 h
  have hv := vol_bd h
  exact mul_le2 (A := 21205752750) (B := 900000) (by omega) hv.2 (by omega) (by omega)
set_option maxRecDepth 100000 in
set_option maxHeartbeats 400000 in
theorem turning_any (x y z t : Int) (w : World) (hr : ringB (x, y, z) = true) (t0 : 0 ≤ t) (t1 : t ≤ 300000) :
    Calls Try.prog 75 #[.agg #[.int .i64 x, .int .i64 y, .int .i64 z, .int .i64 t]] w fun e w' => e = .returned (.int .i64 (turnV t (x, y, z))) ∧ Below w.heap.size w w' := by
  obtain ⟨-, -, r4, r5⟩ := ring_iff.1 hr
  simp only at r4 r5
  have s3 := vol_bd hr
  have s6 : 0 ≤ volR (x, y, z) * (2 * t + z) ∧ volR (x, y, z) * (2 * t + z) ≤ 19085177475000000 := turn_bd hr t0 t1
  have HS := Lib.hid (fun w => volume_any x y z w hr)
  have HV := Lib.hid (show turnV t (x, y, z) = volR (x, y, z) * (2 * t + z) from rfl)
  rw [HV.out]
  clear hr s3
  generalize volR (x, y, z) = m at *
  have hw := Lib.hid (show IntKind.i64.wrap (m * IntKind.i64.wrap (IntKind.i64.wrap (2 * t) + z)) = m * (2 * t + z) from by rw [IntWalk.i64_in (2 * t) (by omega), IntWalk.i64_in (2 * t + z) (by omega)]; exact IntWalk.i64_in _ (by omega))
  have c0 : (w.alloc (.cells #[.int .i64 x, .int .i64 y, .int .i64 z, .int .i64 t] 65)).cell? ⟨w.heap.size, 0, none⟩ = some (.int .i64 x) := by go_simp
  have c1 : (w.alloc (.cells #[.int .i64 x, .int .i64 y, .int .i64 z, .int .i64 t] 65)).cell? ⟨w.heap.size, 1, none⟩ = some (.int .i64 y) := by go_simp
  have c2 : (w.alloc (.cells #[.int .i64 x, .int .i64 y, .int .i64 z, .int .i64 t] 65)).cell? ⟨w.heap.size, 2, none⟩ = some (.int .i64 z) := by go_simp
  have c3 : (w.alloc (.cells #[.int .i64 x, .int .i64 y, .int .i64 z, .int .i64 t] 65)).cell? ⟨w.heap.size, 3, none⟩ = some (.int .i64 t) := by go_simp
  have hl := alloc_lt2 w (.cells #[.int .i64 x, .int .i64 y, .int .i64 z, .int .i64 t] 65)
  have HB0 := Lib.hid (below_al w (.cells #[.int .i64 x, .int .i64 y, .int .i64 z, .int .i64 t] 65))
  go_enter Try.func75, Try.ntmps75
  go_wp2
  generalize (w.alloc (.cells #[.int .i64 x, .int .i64 y, .int .i64 z, .int .i64 t] 65)) = wA at *
  go_region_held3 (fun w' => w'.cell? ⟨w.heap.size, 0, none⟩ = some (.int .i64 x) ∧ w'.cell? ⟨w.heap.size, 1, none⟩ = some (.int .i64 y) ∧ w'.cell? ⟨w.heap.size, 2, none⟩ = some (.int .i64 z) ∧ w'.cell? ⟨w.heap.size, 3, none⟩ = some (.int .i64 t) ∧ Below wA.heap.size wA w')
    (first | exact ⟨c0, c1, c2, c3, below_drw _⟩ | assumption | exact k4 (by assumption) hl hb6)
    ((go_at_call 54; refine (HS.out _).mono ?_; rintro e w6 ⟨rfl, hb6⟩))
  all_goals go_wp2
  all_goals go_ret
  all_goals exact ⟨ret_i64 hw.out, below_of HB0.out (below_of (below_drw wA) hb6 (Nat.le_refl _)) HB0.out.size⟩
theorem specAreaOf_any (x y z : Int) (w : World) :
    Calls Try.prog 15 #[.agg #[.int .i64 x, .int .i64 y, .int .i64 z]] w fun e w' => e = .returned (.tuple #[.int .i64 (areaV (x, y, z)), .int .i64 (codeR (x, y, z))]) ∧ Below w.heap.size w w' := by
  have c0 : (w.alloc (.cells #[.int .i64 x, .int .i64 y, .int .i64 z] 26)).cell? ⟨w.heap.size, 0, none⟩ = some (.int .i64 x) := by go_simp
  have c1 : (w.alloc (.cells #[.int .i64 x, .int .i64 y, .int .i64 z] 26)).cell? ⟨w.heap.size, 1, none⟩ = some (.int .i64 y) := by go_simp
  have c2 : (w.alloc (.cells #[.int .i64 x, .int .i64 y, .int .i64 z] 26)).cell? ⟨w.heap.size, 2, none⟩ = some (.int .i64 z) := by go_simp
  have hl := alloc_lt2 w (.cells #[.int .i64 x, .int .i64 y, .int .i64 z] 26)
  have HB0 := Lib.hid (below_al w (.cells #[.int .i64 x, .int .i64 y, .int .i64 z] 26))
  rcases Bool.eq_false_or_eq_true (ringB (x, y, z)) with hr | hr
  · have HR := Lib.hid (show areaV (x, y, z) = areaR (x, y, z) ∧ codeR (x, y, z) = 0 by unfold areaV codeR; rw [if_pos hr, if_pos hr]; exact ⟨rfl, rfl⟩)
    have hq := hr
    have s0 := sec_bd hr
    have HA := Lib.hid (show areaR (x, y, z) = nq (secR (x, y, z) * 3141593) 10000000000 from rfl)
    have HQ := Lib.hid (show secR (x, y, z) = x * x - y * y from rfl)
    obtain ⟨⟨r0, r1⟩, ⟨r2, r3⟩, r4, r5⟩ := ring_iff.1 hr
    simp only at r0 r1 r2 r3 r4 r5
    have s1 := sq_bd (x := x) (by omega) r1
    have s2 := sq_bd (x := y) r2 (by omega)
    rw [HQ.out] at s0 HA
    have HT := Lib.hid (fun w => specDiv_any ((x * x - y * y) * 3141593) 10000000000 w (by omega) (by omega) (by omega))
    clear hr
    go_enter Try.func15, Try.ntmps15
    go_wp2_with fail
    generalize (w.alloc (.cells #[.int .i64 x, .int .i64 y, .int .i64 z] 26)) = wA at *
    refine (specValidRing_any x y z _).mono ?_
    rintro e w1 ⟨rfl, hb⟩
    rw [hq]
    have d0 := (below_cell hb _ _ hl).trans c0
    have d1 := (below_cell hb _ _ hl).trans c1
    have d2 := (below_cell hb _ _ hl).trans c2
    have HB := Lib.hid (below_of HB0.out hb HB0.out.size)
    clear hb c0 c1 c2
    go_wp2_with (go_at_call 49; refine (HT.out _).mono ?_; rintro e w7 ⟨rfl, rfl⟩)
    go_ret2
    exact ⟨ret_two (HA.out.symm.trans HR.out.1.symm) HR.out.2.symm, HB.out⟩
  · have HR := Lib.hid (show areaV (x, y, z) = 0 ∧ codeR (x, y, z) = 1 by unfold areaV codeR; rw [hr]; exact ⟨rfl, rfl⟩)
    have hq := hr
    clear hr
    go_enter Try.func15, Try.ntmps15
    go_wp2_with fail
    generalize (w.alloc (.cells #[.int .i64 x, .int .i64 y, .int .i64 z] 26)) = wA at *
    refine (specValidRing_any x y z _).mono ?_
    rintro e w1 ⟨rfl, hb⟩
    rw [hq]
    have d0 := (below_cell hb _ _ hl).trans c0
    have d1 := (below_cell hb _ _ hl).trans c1
    have d2 := (below_cell hb _ _ hl).trans c2
    have HB := Lib.hid (below_of HB0.out hb HB0.out.size)
    clear hb c0 c1 c2
    go_wp2
    go_ret2
    exact ⟨ret_two HR.out.1.symm HR.out.2.symm, HB.out⟩
theorem implAreaOf_any (x y z : Int) (w : World) :
    Calls Try.prog 17 #[.agg #[.int .i64 x, .int .i64 y, .int .i64 z]] w fun e w' => e = .returned (.tuple #[.int .i64 (areaV (x, y, z)), .int .i64 (codeR (x, y, z))]) ∧ Below w.heap.size w w' := by
  have c0 : (w.alloc (.cells #[.int .i64 x, .int .i64 y, .int .i64 z] 26)).cell? ⟨w.heap.size, 0, none⟩ = some (.int .i64 x) := by go_simp
  have c1 : (w.alloc (.cells #[.int .i64 x, .int .i64 y, .int .i64 z] 26)).cell? ⟨w.heap.size, 1, none⟩ = some (.int .i64 y) := by go_simp
  have c2 : (w.alloc (.cells #[.int .i64 x, .int .i64 y, .int .i64 z] 26)).cell? ⟨w.heap.size, 2, none⟩ = some (.int .i64 z) := by go_simp
  have hl := alloc_lt2 w (.cells #[.int .i64 x, .int .i64 y, .int .i64 z] 26)
  have HB0 := Lib.hid (below_al w (.cells #[.int .i64 x, .int .i64 y, .int .i64 z] 26))
  rcases Bool.eq_false_or_eq_true (ringB (x, y, z)) with hr | hr
  · have HR := Lib.hid (show areaV (x, y, z) = areaR (x, y, z) ∧ codeR (x, y, z) = 0 by unfold areaV codeR; rw [if_pos hr, if_pos hr]; exact ⟨rfl, rfl⟩)
    have hq := hr
    have s0 := sec_bd hr
    have HA := Lib.hid (show areaR (x, y, z) = nq (secR (x, y, z) * 3141593) 10000000000 from rfl)
    have HS := Lib.hid (fun w => section_any x y z w hr)
    have HT := Lib.hid (fun w => nearProd_any (secR (x, y, z)) 3141593 10000000000 (by omega) (by omega) (by omega) (by omega) (by omega) (by omega) (by omega) w)
    generalize secR (x, y, z) = q at *
    clear hr
    go_enter Try.func17, Try.ntmps17
    go_wp2_with fail
    generalize (w.alloc (.cells #[.int .i64 x, .int .i64 y, .int .i64 z] 26)) = wA at *
    refine (implValidRing_any x y z _).mono ?_
    rintro e w1 ⟨rfl, hb⟩
    rw [hq]
    have d0 := (below_cell hb _ _ hl).trans c0
    have d1 := (below_cell hb _ _ hl).trans c1
    have d2 := (below_cell hb _ _ hl).trans c2
    have HB := Lib.hid (below_of HB0.out hb HB0.out.size)
    clear hb c0 c1 c2
    go_wp2_with (first | (go_at_call 52; refine (HS.out _).mono ?_; rintro e w6 ⟨rfl, hb6⟩) | (go_at_call 51; refine (HT.out _).mono ?_; rintro e w7 ⟨rfl, hb7⟩))
    go_ret2
    exact ⟨ret_two (HA.out.symm.trans HR.out.1.symm) HR.out.2.symm, below_of (below_of HB.out hb6 HB.out.size) (drawn_below hb7) (Nat.le_trans HB.out.size hb6.size)⟩
  · have HR := Lib.hid (show areaV (x, y, z) = 0 ∧ codeR (x, y, z) = 1 by unfold areaV codeR; rw [hr]; exact ⟨rfl, rfl⟩)
    have hq := hr
    clear hr
    go_enter Try.func17, Try.ntmps17
    go_wp2_with fail
    generalize (w.alloc (.cells #[.int .i64 x, .int .i64 y, .int .i64 z] 26)) = wA at *
    refine (implValidRing_any x y z _).mono ?_
    rintro e w1 ⟨rfl, hb⟩
    rw [hq]
    have d0 := (below_cell hb _ _ hl).trans c0
    have d1 := (below_cell hb _ _ hl).trans c1
    have d2 := (below_cell hb _ _ hl).trans c2
    have HB := Lib.hid (below_of HB0.out hb HB0.out.size)
    clear hb c0 c1 c2
    go_wp2
    go_ret2
    exact ⟨ret_two HR.out.1.symm HR.out.2.symm, HB.out⟩
theorem specRingVol_any (x y z : Int) (w : World) :
    Calls Try.prog 18 #[.agg #[.int .i64 x, .int .i64 y, .int .i64 z]] w fun e w' => e = .returned (.tuple #[.int .i64 (ringVolV (x, y, z)), .int .i64 (codeR (x, y, z))]) ∧ Below w.heap.size w w' := by
  have c0 : (w.alloc (.cells #[.int .i64 x, .int .i64 y, .int .i64 z] 26)).cell? ⟨w.heap.size, 0, none⟩ = some (.int .i64 x) := by go_simp
  have c1 : (w.alloc (.cells #[.int .i64 x, .int .i64 y, .int .i64 z] 26)).cell? ⟨w.heap.size, 1, none⟩ = some (.int .i64 y) := by go_simp
  have c2 : (w.alloc (.cells #[.int .i64 x, .int .i64 y, .int .i64 z] 26)).cell? ⟨w.heap.size, 2, none⟩ = some (.int .i64 z) := by go_simp
  have hl := alloc_lt2 w (.cells #[.int .i64 x, .int .i64 y, .int .i64 z] 26)
  have HB0 := Lib.hid (below_al w (.cells #[.int .i64 x, .int .i64 y, .int .i64 z] 26))
  rcases Bool.eq_false_or_eq_true (ringB (x, y, z)) with hr | hr
  · have HR := Lib.hid (show ringVolV (x, y, z) = volR (x, y, z) ∧ codeR (x, y, z) = 0 by unfold ringVolV codeR; rw [if_pos hr, if_pos hr]; exact ⟨rfl, rfl⟩)
    have hq := hr
    have HT := Lib.hid (fun (w : World) (b : Nat) (h : RingIn w b 0 (x, y, z)) => l06Ring_any x y z b 0 w h hr)
    clear hr
    go_enter Try.func18, Try.ntmps18
    go_wp2_with fail
    generalize (w.alloc (.cells #[.int .i64 x, .int .i64 y, .int .i64 z] 26)) = wA at *
    refine (specValidRing_any x y z _).mono ?_
    rintro e w1 ⟨rfl, hb⟩
    rw [hq]
    have d0 := (below_cell hb _ _ hl).trans c0
    have d1 := (below_cell hb _ _ hl).trans c1
    have d2 := (below_cell hb _ _ hl).trans c2
    have HB := Lib.hid (below_of HB0.out hb HB0.out.size)
    clear hb c0 c1 c2
    go_wp2_with (go_at_call 53; refine (HT.out _ w.heap.size ⟨d0, d1, d2⟩).mono ?_; rintro e w7 ⟨rfl, hb7⟩)
    go_ret2
    exact ⟨ret_two (HR.out.1.symm) HR.out.2.symm, below_of HB.out (drawn_below hb7) HB.out.size⟩
  · have HR := Lib.hid (show ringVolV (x, y, z) = 0 ∧ codeR (x, y, z) = 1 by unfold ringVolV codeR; rw [hr]; exact ⟨rfl, rfl⟩)
    have hq := hr
    clear hr
    go_enter Try.func18, Try.ntmps18
    go_wp2_with fail
    generalize (w.alloc (.cells #[.int .i64 x, .int .i64 y, .int .i64 z] 26)) = wA at *
    refine (specValidRing_any x y z _).mono ?_
    rintro e w1 ⟨rfl, hb⟩
    rw [hq]
    have d0 := (below_cell hb _ _ hl).trans c0
    have d1 := (below_cell hb _ _ hl).trans c1
    have d2 := (below_cell hb _ _ hl).trans c2
    have HB := Lib.hid (below_of HB0.out hb HB0.out.size)
    clear hb c0 c1 c2
    go_wp2
    go_ret2
    exact ⟨ret_two HR.out.1.symm HR.out.2.symm, HB.out⟩
theorem implRingVol_any (x y z : Int) (w : World) :
    Calls Try.prog 19 #[.agg #[.int .i64 x, .int .i64 y, .int .i64 z]] w fun e w' => e = .returned (.tuple #[.int .i64 (ringVolV (x, y, z)), .int .i64 (codeR (x, y, z))]) ∧ Below w.heap.size w w' := by
  have c0 : (w.alloc (.cells #[.int .i64 x, .int .i64 y, .int .i64 z] 26)).cell? ⟨w.heap.size, 0, none⟩ = some (.int .i64 x) := by go_simp
  have c1 : (w.alloc (.cells #[.int .i64 x, .int .i64 y, .int .i64 z] 26)).cell? ⟨w.heap.size, 1, none⟩ = some (.int .i64 y) := by go_simp
  have c2 : (w.alloc (.cells #[.int .i64 x, .int .i64 y, .int .i64 z] 26)).cell? ⟨w.heap.size, 2, none⟩ = some (.int .i64 z) := by go_simp
  have hl := alloc_lt2 w (.cells #[.int .i64 x, .int .i64 y, .int .i64 z] 26)
  have HB0 := Lib.hid (below_al w (.cells #[.int .i64 x, .int .i64 y, .int .i64 z] 26))
  rcases Bool.eq_false_or_eq_true (ringB (x, y, z)) with hr | hr
  · have HR := Lib.hid (show ringVolV (x, y, z) = volR (x, y, z) ∧ codeR (x, y, z) = 0 by unfold ringVolV codeR; rw [if_pos hr, if_pos hr]; exact ⟨rfl, rfl⟩)
    have hq := hr
    have HT := Lib.hid (fun w => volume_any x y z w hr)
    clear hr
    go_enter Try.func19, Try.ntmps19
    go_wp2_with fail
    generalize (w.alloc (.cells #[.int .i64 x, .int .i64 y, .int .i64 z] 26)) = wA at *
    refine (implValidRing_any x y z _).mono ?_
    rintro e w1 ⟨rfl, hb⟩
    rw [hq]
    have d0 := (below_cell hb _ _ hl).trans c0
    have d1 := (below_cell hb _ _ hl).trans c1
    have d2 := (below_cell hb _ _ hl).trans c2
    have HB := Lib.hid (below_of HB0.out hb HB0.out.size)
    clear hb c0 c1 c2
    go_wp2_with (go_at_call 54; refine (HT.out _).mono ?_; rintro e w7 ⟨rfl, hb7⟩)
    go_ret2
    exact ⟨ret_two (HR.out.1.symm) HR.out.2.symm, below_of HB.out hb7 HB.out.size⟩
  · have HR := Lib.hid (show ringVolV (x, y, z) = 0 ∧ codeR (x, y, z) = 1 by unfold ringVolV codeR; rw [hr]; exact ⟨rfl, rfl⟩)
    have hq := hr
    clear hr
    go_enter Try.func19, Try.ntmps19
    go_wp2_with fail
    generalize (w.alloc (.cells #[.int .i64 x, .int .i64 y, .int .i64 z] 26)) = wA at *
    refine (implValidRing_any x y z _).mono ?_
    rintro e w1 ⟨rfl, hb⟩
    rw [hq]
    have d0 := (below_cell hb _ _ hl).trans c0
    have d1 := (below_cell hb _ _ hl).trans c1
    have d2 := (below_cell hb _ _ hl).trans c2
    have HB := Lib.hid (below_of HB0.out hb HB0.out.size)
    clear hb c0 c1 c2
    go_wp2
    go_ret2
    exact ⟨ret_two HR.out.1.symm HR.out.2.symm, HB.out⟩
theorem clo_volumeof (x y z t : Int) (w : World) (hr : ringB (x, y, z) = true) :
    Calls Try.prog 60 #[.agg #[.int .i64 x, .int .i64 y, .int .i64 z, .int .i64 t]] w fun e w' => e = .returned (.int .i64 (volR (x, y, z))) ∧ Below w.heap.size w w' := by
  have HT := Lib.hid (fun w => volume_any x y z w hr)
  go_enter Try.func60, Try.ntmps60
  go_wp2_with (go_at_call 54; refine (HT.out _).mono ?_; rintro e w7 ⟨rfl, hb7⟩)
  go_ret
  exact ⟨rfl, below_of (below_al _ _) hb7 (below_al _ _).size⟩
theorem clo_hollowof (x y z t : Int) (w : World) (hr : ringB (x, y, z) = true) :
    Calls Try.prog 63 #[.agg #[.int .i64 x, .int .i64 y, .int .i64 z, .int .i64 t]] w fun e w' => e = .returned (.int .i64 (holR (x, y, z))) ∧ Below w.heap.size w w' := by
  have HT := Lib.hid (fun w => hollow_any x y z w hr)
  go_enter Try.func63, Try.ntmps63
  go_wp2_with (go_at_call 64; refine (HT.out _).mono ?_; rintro e w7 ⟨rfl, hb7⟩)
  go_ret
  exact ⟨rfl, below_of (below_al _ _) hb7 (below_al _ _).size⟩
theorem clo_centreof (x y z t : Int) (w : World) (hr : ringB (x, y, z) = true) (t0 : 0 ≤ t) (t1 : t ≤ 300000) :
    Calls Try.prog 74 #[.agg #[.int .i64 x, .int .i64 y, .int .i64 z, .int .i64 t]] w fun e w' => e = .returned (.int .i64 (turnV t (x, y, z))) ∧ Below w.heap.size w w' := by
  have HT := Lib.hid (fun w => turning_any x y z t w hr t0 t1)
  go_enter Try.func74, Try.ntmps74
  go_wp2_with (go_at_call 75; refine (HT.out _).mono ?_; rintro e w7 ⟨rfl, hb7⟩)
  go_ret
  exact ⟨rfl, below_of (below_al _ _) hb7 (below_al _ _).size⟩
theorem clo_momentof (x y z t d : Int) (p : Nat) (w : World) (hr : ringB (x, y, z) = true) (k0 : 0 ≤ d) (k1 : d ≤ 20000) (hp : w.cell? ⟨p, 0, none⟩ = some (.int .i64 d)) (hpl : p < w.heap.size) :
    Calls Try.prog 77 #[.agg #[.int .i64 x, .int .i64 y, .int .i64 z, .int .i64 t], .pointer (some ⟨p, 0, none⟩)] w fun e w' => e = .returned (.int .i64 (massV (volR (x, y, z)) d * armR (x, y, z))) ∧ Below w.heap.size w w' := by
  have HT := Lib.hid (fun w => moment_any x y z d w hr k0 k1)
  have hq := (below_cell (below_al w (.cells #[.int .i64 x, .int .i64 y, .int .i64 z, .int .i64 t] 65)) p 0 hpl).trans hp
  go_enter Try.func77, Try.ntmps77
  go_wp2_with (go_at_call 78; refine (HT.out _).mono ?_; rintro e w7 ⟨rfl, hb7⟩)
  go_ret
  exact ⟨rfl, below_of (below_al _ _) hb7 (below_al _ _).size⟩
def aboveV (h d b : Int) (r : Rg) : Int := if b < h then 0 else massV (volR r) d
theorem clo_massabove (x y z t d h : Int) (p q : Nat) (w : World) (hr : ringB (x, y, z) = true) (k0 : 0 ≤ d) (k1 : d ≤ 20000) (hp : w.cell? ⟨p, 0, none⟩ = some (.int .i64 h)) (hpl : p < w.heap.size) (hq : w.cell? ⟨q, 0, none⟩ = some (.int .i64 d)) (hql : q < w.heap.size) :
    Calls Try.prog 83 #[.agg #[.int .i64 x, .int .i64 y, .int .i64 z, .int .i64 t], .pointer (some ⟨p, 0, none⟩), .pointer (some ⟨q, 0, none⟩)] w fun e w' => e = .returned (.int .i64 (aboveV h d t (x, y, z))) ∧ Below w.heap.size w w' := by
  have HT := Lib.hid (fun w => mass_any x y z d w hr k0 k1)
  have h1 := (below_cell (below_al w (.cells #[.int .i64 x, .int .i64 y, .int .i64 z, .int .i64 t] 65)) p 0 hpl).trans hp
  have h2 := (below_cell (below_al w (.cells #[.int .i64 x, .int .i64 y, .int .i64 z, .int .i64 t] 65)) q 0 hql).trans hq
  by_cases hlt : t < h
  · have HV := Lib.hid (show aboveV h d t (x, y, z) = 0 by unfold aboveV; rw [if_pos hlt])
    go_enter Try.func83, Try.ntmps83
    go_wp2
    go_ret
    exact ⟨ret_i64 HV.out.symm, below_al _ _⟩
  · have HV := Lib.hid (show aboveV h d t (x, y, z) = massV (volR (x, y, z)) d by unfold aboveV; rw [if_neg hlt])
    go_enter Try.func83, Try.ntmps83
    go_wp2_with (go_at_call 71; refine (HT.out _).mono ?_; rintro e w7 ⟨rfl, hb7⟩)
    go_ret
    exact ⟨ret_i64 HV.out.symm, below_of (below_al _ _) hb7 (below_al _ _).size⟩
end Go.Proofs.Ytgnnpimfcbkloaa
