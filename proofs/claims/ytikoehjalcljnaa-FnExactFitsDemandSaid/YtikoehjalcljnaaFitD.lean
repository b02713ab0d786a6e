/- FitsDemand: both programs. -/
import Derived.Test.YtikoehjalcljnaaMix
import Derived.Deep.RegionHeld3
set_option linter.unusedVariables false
namespace Go.Proofs.Ytikoehjalcljnaa
open Go.ChangeShapes Go.WideShapes Go.ChangeAt Go.RowKit

def fdB (rs : List Gt) (zs : List Int) (a b c e f : Int) : Bool := ingsB rs && (demB a b c e f && (chB rs.length zs && fitB a b c e f (sumG fM rs zs zs.length) (sumG fT rs zs zs.length) (sumG fO rs zs zs.length)))
def Dem5 (w : World) (p : Nat) (a b c e f : Int) : Prop := w.cell? ⟨p, 0, none⟩ = some (.int .i64 a) ∧ w.cell? ⟨p, 1, none⟩ = some (.int .i64 b) ∧ w.cell? ⟨p, 2, none⟩ = some (.int .i64 c) ∧ w.cell? ⟨p, 3, none⟩ = some (.int .i64 e) ∧ w.cell? ⟨p, 4, none⟩ = some (.int .i64 f)
theorem dem_kept {w w' : World} {p : Nat} {a b c e f : Int} (hb : Below w.heap.size w w') (hp : p < w.heap.size) (h : Dem5 w p a b c e f) : Dem5 w' p a b c e f :=
  ⟨(below_cell hb _ _ hp).trans h.1, (below_cell hb _ _ hp).trans h.2.1, (below_cell hb _ _ hp).trans h.2.2.1, (below_cell hb _ _ hp).trans h.2.2.2.1, (below_cell hb _ _ hp).trans h.2.2.2.2⟩
theorem dem_new (w : World) (a b c e f : Int) (T : TypeId) : Dem5 (w.alloc (.cells #[.int .i64 a, .int .i64 b, .int .i64 c, .int .i64 e, .int .i64 f] T)) w.heap.size a b c e f := ⟨by go_simp, by go_simp, by go_simp, by go_simp, by go_simp⟩
theorem sum_16 {rs : List Gt} {zs : List Int} (hv : ingsB rs = true) (hr : RiseTo rs.length zs zs.length) : 0 ≤ sumG fM rs zs zs.length ∧ sumG fM rs zs zs.length ≤ 320000000 := by
  obtain ⟨h1, -, -⟩ := sum_bd hv zs.length hr
  have h4 := rise_len hr
  have h5 := (ings_iff.1 hv).1
  omega
def D7 (w w' : World) (p : Nat) (a b c e f : Int) : Prop := w'.cell? ⟨p, 0, none⟩ = some (.int .i64 a) ∧ w'.cell? ⟨p, 1, none⟩ = some (.int .i64 b) ∧ w'.cell? ⟨p, 2, none⟩ = some (.int .i64 c) ∧ w'.cell? ⟨p, 3, none⟩ = some (.int .i64 e) ∧ w'.cell? ⟨p, 4, none⟩ = some (.int .i64 f) ∧ p < w'.heap.size ∧ Below w.heap.size w w'
theorem d7_next {w w' w2 : World} {p : Nat} {a b c e f : Int} (h : D7 w w' p a b c e f) (hb : Below w'.heap.size w' w2) : D7 w w2 p a b c e f :=
  ⟨(below_cell hb _ _ h.2.2.2.2.2.1).trans h.1, (below_cell hb _ _ h.2.2.2.2.2.1).trans h.2.1, (below_cell hb _ _ h.2.2.2.2.2.1).trans h.2.2.1, (below_cell hb _ _ h.2.2.2.2.2.1).trans h.2.2.2.1, (below_cell hb _ _ h.2.2.2.2.2.1).trans h.2.2.2.2.1, Nat.lt_of_lt_of_le h.2.2.2.2.2.1 hb.size, below_of h.2.2.2.2.2.2 hb h.2.2.2.2.2.2.size⟩
set_option maxRecDepth 20000 in
set_option maxHeartbeats 4000000 in
theorem specFD_any (rs : List Gt) (v : Value) (zs : List Int) (vz : Value) (a b c e f : Int) (w : World) (h : IngsAt w v rs) (hz : SzOkG rs) (hi : IntsAt w vz zs) :
    Calls Try.prog 41 #[v, vz, .agg #[.int .i64 a, .int .i64 b, .int .i64 c, .int .i64 e, .int .i64 f]] w fun en w' => en = .returned (.bool (fdB rs zs a b c e f)) ∧ Below w.heap.size w w' := by
  have hba := below_alG w (.cells #[.int .i64 a, .int .i64 b, .int .i64 c, .int .i64 e, .int .i64 f] 51)
  have HBA := Lib.hid hba
  have HX0 := Lib.hid (dem_new w a b c e f 51)
  have hl0 := alloc_ltG w (.cells #[.int .i64 a, .int .i64 b, .int .i64 c, .int .i64 e, .int .i64 f] 51)
  have HI0 := Lib.hid (ings_kept hba h)
  have HJ0 := Lib.hid (ints_kept hba hi)
  obtain ⟨sa, sc, rfl⟩ := ings_form h
  obtain ⟨ia, ic, rfl⟩ := ints_form hi
  clear h hi hba
  rcases Bool.eq_false_or_eq_true (ingsB rs) with h1 | h1
  · rcases Bool.eq_false_or_eq_true (demB a b c e f) with h2 | h2
    · rcases Bool.eq_false_or_eq_true (chB rs.length zs) with h3 | h3
      · have HR := Lib.hid (rise_of h3)
        obtain ⟨m, hm⟩ : ∃ m, sumG fM rs zs zs.length = m := ⟨_, rfl⟩
        obtain ⟨t, ht⟩ : ∃ t, sumG fT rs zs zs.length = t := ⟨_, rfl⟩
        obtain ⟨o, ho⟩ : ∃ o, sumG fO rs zs zs.length = o := ⟨_, rfl⟩
        have hm2 := sum_16 h1 (rise_of h3)
        obtain ⟨-, -, hd1, hd2, hd3⟩ := dem_iff.1 h2
        obtain ⟨r, hr⟩ : ∃ r, fitB a b c e f m t o = r := ⟨_, rfl⟩
        have HF := Lib.hid (show fdB rs zs a b c e f = r by unfold fdB; rw [h1, h2, h3, hm, ht, ho, hr]; rfl)
        have HS := Lib.hid (fun W (hI : IngsAt W _ rs) (hJ : IntsAt W _ zs) => l13Sum_any rs (.slice sa rs.length sc) zs (.slice ia zs.length ic) W h1 hI HR.out hJ)
        have HQ := Lib.hid (fun (W : World) p c0 c1 c2 c3 c4 => l13Fits_any p a b c e f m t o W (by rw [← hm]; exact hm2) ⟨hd1, hd2, hd3⟩ c0 c1 c2 c3 c4)
        rw [hm, ht, ho] at HS
        rw [hr] at HQ
        clear hm ht ho hr hm2 hd1 hd2 hd3
        have hL := (ings_iff.1 h1).1
        have H1 := Lib.hid h1
        have H2 := Lib.hid h2
        have H3 := Lib.hid h3
        clear h1 h2 h3
        go_enter Try.func41, Try.ntmps41
        go_wp2_with fail
        generalize w.alloc (.cells #[.int .i64 a, .int .i64 b, .int .i64 c, .int .i64 e, .int .i64 f] 51) = wA at *
        refine (l13Ok_any rs _ _ HI0.out hz).mono ?_
        rintro en w1 ⟨rfl, hb⟩
        rw [H1.out]
        have HX1 := Lib.hid (dem_kept hb hl0 HX0.out)
        have hl1 := Nat.lt_of_lt_of_le hl0 hb.size
        have HI1 := Lib.hid (ings_kept hb HI0.out)
        have HJ1 := Lib.hid (ints_kept hb HJ0.out)
        have HB1 := Lib.hid (below_of HBA.out hb HBA.out.size)
        clear hb
        obtain ⟨c0, c1, c2, c3, c4⟩ := HX1.out
        go_wp2_with fail
        refine (l13Demand_any _ a b c e f _ c0 c1 c2 c3 c4).mono ?_
        rintro en w2 ⟨rfl, m2, rfl⟩
        have hb := below_drewNG w1 m2
        rw [H2.out]
        have HX2 := Lib.hid (dem_kept hb hl1 HX1.out)
        have HI2 := Lib.hid (ings_kept hb HI1.out)
        have HJ2 := Lib.hid (ints_kept hb HJ1.out)
        have HB2 := Lib.hid (below_of HB1.out hb HB1.out.size)
        have hl2 := Nat.lt_of_lt_of_le hl1 hb.size
        clear hb c0 c1 c2 c3 c4
        go_wp2_with fail
        refine (l13Chosen_any sa rs.length sc zs _ _ hL HJ2.out).mono ?_
        rintro en w3 ⟨rfl, hb⟩
        rw [H3.out]
        have HX3 := Lib.hid (dem_kept hb hl2 HX2.out)
        have hl3 := Nat.lt_of_lt_of_le hl2 hb.size
        have HI3 := Lib.hid (ings_kept hb HI2.out)
        have HJ3 := Lib.hid (ints_kept hb HJ2.out)
        have HB3 := Lib.hid (below_of HB2.out hb HB2.out.size)
        clear hb
        go_wp2_with fail
        refine (HS.out _ HI3.out HJ3.out).mono ?_
        rintro en w4 ⟨rfl, hb⟩
        have HX4 := Lib.hid (dem_kept hb hl3 HX3.out)
        have hl4 := Nat.lt_of_lt_of_le hl3 hb.size
        have HI4 := Lib.hid (ings_kept hb HI3.out)
        have HJ4 := Lib.hid (ints_kept hb HJ3.out)
        have HB4 := Lib.hid (below_of HB3.out hb HB3.out.size)
        clear hb
        obtain ⟨c0, c1, c2, c3, c4⟩ := HX4.out
        go_wp2_with fail
        refine (HQ.out _ _ c0 c1 c2 c3 c4).mono ?_
        rintro en w5 ⟨rfl, m5, rfl⟩
        have HB5 := Lib.hid (below_of HB4.out (below_drewNG w4 m5) HB4.out.size)
        clear c0 c1 c2 c3 c4
        go_wp2
        go_ret
        exact ⟨retG_b HF.out.symm, HB5.out⟩
      · have HF := Lib.hid (show fdB rs zs a b c e f = false by unfold fdB; rw [h1, h2, h3]; rfl)
        have hL := (ings_iff.1 h1).1
        have H1 := Lib.hid h1
        have H2 := Lib.hid h2
        have H3 := Lib.hid h3
        clear h1 h2 h3
        go_enter Try.func41, Try.ntmps41
        go_wp2_with fail
        generalize w.alloc (.cells #[.int .i64 a, .int .i64 b, .int .i64 c, .int .i64 e, .int .i64 f] 51) = wA at *
        refine (l13Ok_any rs _ _ HI0.out hz).mono ?_
        rintro en w1 ⟨rfl, hb⟩
        rw [H1.out]
        have HX1 := Lib.hid (dem_kept hb hl0 HX0.out)
        have hl1 := Nat.lt_of_lt_of_le hl0 hb.size
        have HI1 := Lib.hid (ings_kept hb HI0.out)
        have HJ1 := Lib.hid (ints_kept hb HJ0.out)
        have HB1 := Lib.hid (below_of HBA.out hb HBA.out.size)
        clear hb
        obtain ⟨c0, c1, c2, c3, c4⟩ := HX1.out
        go_wp2_with fail
        refine (l13Demand_any _ a b c e f _ c0 c1 c2 c3 c4).mono ?_
        rintro en w2 ⟨rfl, m2, rfl⟩
        have hb := below_drewNG w1 m2
        rw [H2.out]
        have HX2 := Lib.hid (dem_kept hb hl1 HX1.out)
        have HI2 := Lib.hid (ings_kept hb HI1.out)
        have HJ2 := Lib.hid (ints_kept hb HJ1.out)
        have HB2 := Lib.hid (below_of HB1.out hb HB1.out.size)
        have hl2 := Nat.lt_of_lt_of_le hl1 hb.size
        clear hb c0 c1 c2 c3 c4
        go_wp2_with fail
        refine (l13Chosen_any sa rs.length sc zs _ _ hL HJ2.out).mono ?_
        rintro en w3 ⟨rfl, hb⟩
        rw [H3.out]
        have HX3 := Lib.hid (dem_kept hb hl2 HX2.out)
        have hl3 := Nat.lt_of_lt_of_le hl2 hb.size
        have HI3 := Lib.hid (ings_kept hb HI2.out)
        have HJ3 := Lib.hid (ints_kept hb HJ2.out)
        have HB3 := Lib.hid (below_of HB2.out hb HB2.out.size)
        clear hb
        go_wp2
        go_ret
        exact ⟨retG_b HF.out.symm, HB3.out⟩
    · have HF := Lib.hid (show fdB rs zs a b c e f = false by unfold fdB; rw [h1, h2]; rfl)
      have H1 := Lib.hid h1
      have H2 := Lib.hid h2
      clear h1 h2
      go_enter Try.func41, Try.ntmps41
      go_wp2_with fail
      generalize w.alloc (.cells #[.int .i64 a, .int .i64 b, .int .i64 c, .int .i64 e, .int .i64 f] 51) = wA at *
      refine (l13Ok_any rs _ _ HI0.out hz).mono ?_
      rintro en w1 ⟨rfl, hb⟩
      rw [H1.out]
      have HX1 := Lib.hid (dem_kept hb hl0 HX0.out)
      have hl1 := Nat.lt_of_lt_of_le hl0 hb.size
      have HI1 := Lib.hid (ings_kept hb HI0.out)
      have HJ1 := Lib.hid (ints_kept hb HJ0.out)
      have HB1 := Lib.hid (below_of HBA.out hb HBA.out.size)
      clear hb
      obtain ⟨c0, c1, c2, c3, c4⟩ := HX1.out
      go_wp2_with fail
      refine (l13Demand_any _ a b c e f _ c0 c1 c2 c3 c4).mono ?_
      rintro en w2 ⟨rfl, m2, rfl⟩
      have hb := below_drewNG w1 m2
      rw [H2.out]
      have HX2 := Lib.hid (dem_kept hb hl1 HX1.out)
      have HI2 := Lib.hid (ings_kept hb HI1.out)
      have HJ2 := Lib.hid (ints_kept hb HJ1.out)
      have HB2 := Lib.hid (below_of HB1.out hb HB1.out.size)
      have hl2 := Nat.lt_of_lt_of_le hl1 hb.size
      clear hb c0 c1 c2 c3 c4
      go_wp2
      go_ret
      exact ⟨retG_b HF.out.symm, HB2.out⟩
  · have HF := Lib.hid (show fdB rs zs a b c e f = false by unfold fdB; rw [h1]; rfl)
    have H1 := Lib.hid h1
    clear h1
    go_enter Try.func41, Try.ntmps41
    go_wp2_with fail
    generalize w.alloc (.cells #[.int .i64 a, .int .i64 b, .int .i64 c, .int .i64 e, .int .i64 f] 51) = wA at *
    refine (l13Ok_any rs _ _ HI0.out hz).mono ?_
    rintro en w1 ⟨rfl, hb⟩
    rw [H1.out]
    have HX1 := Lib.hid (dem_kept hb hl0 HX0.out)
    have hl1 := Nat.lt_of_lt_of_le hl0 hb.size
    have HI1 := Lib.hid (ings_kept hb HI0.out)
    have HJ1 := Lib.hid (ints_kept hb HJ0.out)
    have HB1 := Lib.hid (below_of HBA.out hb HBA.out.size)
    clear hb
    go_wp2
    go_ret
    exact ⟨retG_b HF.out.symm, HB1.out⟩
set_option maxRecDepth 20000 in
set_option maxHeartbeats 4000000 in
theorem implFD_any (rs : List Gt) (v : Value) (zs : List Int) (vz : Value) (a b c e f : Int) (w : World) (h : IngsAt w v rs) (hz : SzOkG rs) (hi : IntsAt w vz zs) :
    Calls Try.prog 42 #[v, vz, .agg #[.int .i64 a, .int .i64 b, .int .i64 c, .int .i64 e, .int .i64 f]] w fun en w' => en = .returned (.bool (fdB rs zs a b c e f)) ∧ Below w.heap.size w w' := by
  have hba := below_alG w (.cells #[.int .i64 a, .int .i64 b, .int .i64 c, .int .i64 e, .int .i64 f] 51)
  have HBA := Lib.hid hba
  have HX0 := Lib.hid (dem_new w a b c e f 51)
  have hl0 := alloc_ltG w (.cells #[.int .i64 a, .int .i64 b, .int .i64 c, .int .i64 e, .int .i64 f] 51)
  have HI0 := Lib.hid (ings_kept hba h)
  have HJ0 := Lib.hid (ints_kept hba hi)
  obtain ⟨sa, sc, rfl⟩ := ings_form h
  obtain ⟨ia, ic, rfl⟩ := ints_form hi
  clear h hi hba
  rcases Bool.eq_false_or_eq_true (ingsB rs) with h1 | h1
  · rcases Bool.eq_false_or_eq_true (demB a b c e f) with h2 | h2
    · rcases Bool.eq_false_or_eq_true (chB rs.length zs) with h3 | h3
      · have HR := Lib.hid (rise_of h3)
        obtain ⟨m, hm⟩ : ∃ m, sumG fM rs zs zs.length = m := ⟨_, rfl⟩
        obtain ⟨t, ht⟩ : ∃ t, sumG fT rs zs zs.length = t := ⟨_, rfl⟩
        obtain ⟨o, ho⟩ : ∃ o, sumG fO rs zs zs.length = o := ⟨_, rfl⟩
        have hm2 := sum_16 h1 (rise_of h3)
        obtain ⟨-, -, hd1, hd2, hd3⟩ := dem_iff.1 h2
        obtain ⟨r, hr⟩ : ∃ r, fitB a b c e f m t o = r := ⟨_, rfl⟩
        have HF := Lib.hid (show fdB rs zs a b c e f = r by unfold fdB; rw [h1, h2, h3, hm, ht, ho, hr]; rfl)
        have HS := Lib.hid (fun W (hI : IngsAt W _ rs) => metalIn_any rs (.slice sa rs.length sc) (bitsTo zs zs.length) zs W (bitsTo_lt (ings_iff.1 h1).1 (rise_of h3)) (idxs_all (ings_iff.1 h1).1 rfl (rise_of h3)) HR.out h1 hI)
        have HQ := Lib.hid (fun (W : World) => fits_any a b c e f m t o W (by rw [← hm]; exact hm2) ⟨hd1, hd2, hd3⟩)
        have HCC := Lib.hid (show chC rs.length zs = bitsTo zs zs.length by unfold chC; rw [if_pos h3])
        unfold mtV at HS
        rw [hm, ht, ho] at HS
        rw [hr] at HQ
        clear hm ht ho hr hm2 hd1 hd2 hd3
        have hL := (ings_iff.1 h1).1
        have H1 := Lib.hid h1
        have H2 := Lib.hid h2
        have H3 := Lib.hid h3
        clear h1 h2 h3
        go_enter Try.func42, Try.ntmps42
        go_wp2_with fail
        generalize w.alloc (.cells #[.int .i64 a, .int .i64 b, .int .i64 c, .int .i64 e, .int .i64 f] 51) = wA at *
        refine (implVI_any rs _ _ HI0.out hz).mono ?_
        rintro en w1 ⟨rfl, hb⟩
        rw [H1.out]
        have HX1 := Lib.hid (dem_kept hb hl0 HX0.out)
        have hl1 := Nat.lt_of_lt_of_le hl0 hb.size
        have HI1 := Lib.hid (ings_kept hb HI0.out)
        have HJ1 := Lib.hid (ints_kept hb HJ0.out)
        have HB1 := Lib.hid (below_of HBA.out hb HBA.out.size)
        clear hb
        obtain ⟨c0, c1, c2, c3, c4⟩ := HX1.out
        go_wp2_with fail
        refine (implVD_any a b c e f _).mono ?_
        rintro en w2 ⟨rfl, hb⟩
        rw [H2.out]
        clear c0 c1 c2 c3 c4
        have HX2 := Lib.hid (dem_kept hb hl1 HX1.out)
        have hl2 := Nat.lt_of_lt_of_le hl1 hb.size
        have HI2 := Lib.hid (ings_kept hb HI1.out)
        have HJ2 := Lib.hid (ints_kept hb HJ1.out)
        have HB2 := Lib.hid (below_of HB1.out hb HB1.out.size)
        clear hb
        go_wp2_with fail
        refine (choiceOf_any sa rs.length sc zs _ _ hL HJ2.out).mono ?_
        rintro en w3 ⟨rfl, hb⟩
        rw [H3.out]
        have HX3 := Lib.hid (dem_kept hb hl2 HX2.out)
        have hl3 := Nat.lt_of_lt_of_le hl2 hb.size
        have HI3 := Lib.hid (ings_kept hb HI2.out)
        have HJ3 := Lib.hid (ints_kept hb HJ2.out)
        have HB3 := Lib.hid (below_of HB2.out hb HB2.out.size)
        clear hb
        rw [HCC.out]
        have HS0 := Lib.hid (show D7 w3 w3.drew w.heap.size a b c e f from ⟨HX3.out.1, HX3.out.2.1, HX3.out.2.2.1, HX3.out.2.2.2.1, HX3.out.2.2.2.2, hl3, ⟨rfl, rfl, rfl, Nat.le_refl _, fun _ _ => rfl⟩⟩)
        have HID := Lib.hid (ings_kept (show Below w3.heap.size w3 w3.drew from ⟨rfl, rfl, rfl, Nat.le_refl _, fun _ _ => rfl⟩) HI3.out)
        go_wp2
        go_region_held3 (fun w' => w'.cell? ⟨w.heap.size, 0, none⟩ = some (.int .i64 a) ∧ w'.cell? ⟨w.heap.size, 1, none⟩ = some (.int .i64 b) ∧ w'.cell? ⟨w.heap.size, 2, none⟩ = some (.int .i64 c) ∧ w'.cell? ⟨w.heap.size, 3, none⟩ = some (.int .i64 e) ∧ w'.cell? ⟨w.heap.size, 4, none⟩ = some (.int .i64 f) ∧ w.heap.size < w'.heap.size ∧ Below w3.heap.size w3 w')
          (first | exact HS0.out | assumption | exact hs6 | exact hs7)
          (first
            | (go_at_call 63; refine (HS.out _ HID.out).mono ?_; rintro en w6 ⟨rfl, hb6⟩; have hs6 := d7_next HS0.out hb6)
            | (go_at_call 66; refine (HQ.out _).mono ?_; rintro en w7 ⟨rfl, hb7⟩; have hs7 := d7_next hs6 hb7))
        have HB5 := Lib.hid (below_of HB3.out hs7.2.2.2.2.2.2 HB3.out.size)
        clear hs6 hs7
        go_wp2
        go_ret
        exact ⟨retG_b HF.out.symm, HB5.out⟩
      · have HF := Lib.hid (show fdB rs zs a b c e f = false by unfold fdB; rw [h1, h2, h3]; rfl)
        have hL := (ings_iff.1 h1).1
        have H1 := Lib.hid h1
        have H2 := Lib.hid h2
        have H3 := Lib.hid h3
        clear h1 h2 h3
        go_enter Try.func42, Try.ntmps42
        go_wp2_with fail
        generalize w.alloc (.cells #[.int .i64 a, .int .i64 b, .int .i64 c, .int .i64 e, .int .i64 f] 51) = wA at *
        refine (implVI_any rs _ _ HI0.out hz).mono ?_
        rintro en w1 ⟨rfl, hb⟩
        rw [H1.out]
        have HX1 := Lib.hid (dem_kept hb hl0 HX0.out)
        have hl1 := Nat.lt_of_lt_of_le hl0 hb.size
        have HI1 := Lib.hid (ings_kept hb HI0.out)
        have HJ1 := Lib.hid (ints_kept hb HJ0.out)
        have HB1 := Lib.hid (below_of HBA.out hb HBA.out.size)
        clear hb
        obtain ⟨c0, c1, c2, c3, c4⟩ := HX1.out
        go_wp2_with fail
        refine (implVD_any a b c e f _).mono ?_
        rintro en w2 ⟨rfl, hb⟩
        rw [H2.out]
        clear c0 c1 c2 c3 c4
        have HX2 := Lib.hid (dem_kept hb hl1 HX1.out)
        have hl2 := Nat.lt_of_lt_of_le hl1 hb.size
        have HI2 := Lib.hid (ings_kept hb HI1.out)
        have HJ2 := Lib.hid (ints_kept hb HJ1.out)
        have HB2 := Lib.hid (below_of HB1.out hb HB1.out.size)
        clear hb
        go_wp2_with fail
        refine (choiceOf_any sa rs.length sc zs _ _ hL HJ2.out).mono ?_
        rintro en w3 ⟨rfl, hb⟩
        rw [H3.out]
        have HX3 := Lib.hid (dem_kept hb hl2 HX2.out)
        have hl3 := Nat.lt_of_lt_of_le hl2 hb.size
        have HI3 := Lib.hid (ings_kept hb HI2.out)
        have HJ3 := Lib.hid (ints_kept hb HJ2.out)
        have HB3 := Lib.hid (below_of HB2.out hb HB2.out.size)
        clear hb
        generalize chC rs.length zs = cc at *
        have HBD := Lib.hid (fun m => below_of HB3.out (below_drewNG w3 m) HB3.out.size)
        go_wp2
        go_quiet (fail)
        go_wp2
        go_ret
        exact ⟨retG_b HF.out.symm, HBD.out _⟩
    · have HF := Lib.hid (show fdB rs zs a b c e f = false by unfold fdB; rw [h1, h2]; rfl)
      have H1 := Lib.hid h1
      have H2 := Lib.hid h2
      clear h1 h2
      go_enter Try.func42, Try.ntmps42
      go_wp2_with fail
      generalize w.alloc (.cells #[.int .i64 a, .int .i64 b, .int .i64 c, .int .i64 e, .int .i64 f] 51) = wA at *
      refine (implVI_any rs _ _ HI0.out hz).mono ?_
      rintro en w1 ⟨rfl, hb⟩
      rw [H1.out]
      have HX1 := Lib.hid (dem_kept hb hl0 HX0.out)
      have hl1 := Nat.lt_of_lt_of_le hl0 hb.size
      have HI1 := Lib.hid (ings_kept hb HI0.out)
      have HJ1 := Lib.hid (ints_kept hb HJ0.out)
      have HB1 := Lib.hid (below_of HBA.out hb HBA.out.size)
      clear hb
      obtain ⟨c0, c1, c2, c3, c4⟩ := HX1.out
      go_wp2_with fail
      refine (implVD_any a b c e f _).mono ?_
      rintro en w2 ⟨rfl, hb⟩
      rw [H2.out]
      clear c0 c1 c2 c3 c4
      have HX2 := Lib.hid (dem_kept hb hl1 HX1.out)
      have hl2 := Nat.lt_of_lt_of_le hl1 hb.size
      have HI2 := Lib.hid (ings_kept hb HI1.out)
      have HJ2 := Lib.hid (ints_kept hb HJ1.out)
      have HB2 := Lib.hid (below_of HB1.out hb HB1.out.size)
      clear hb
      go_wp2
      go_ret
      exact ⟨retG_b HF.out.symm, HB2.out⟩
  · have HF := Lib.hid (show fdB rs zs a b c e f = false by unfold fdB; rw [h1]; rfl)
    have H1 := Lib.hid h1
    clear h1
    go_enter Try.func42, Try.ntmps42
    go_wp2_with fail
    generalize w.alloc (.cells #[.int .i64 a, .int .i64 b, .int .i64 c, .int .i64 e, .int .i64 f] 51) = wA at *
    refine (implVI_any rs _ _ HI0.out hz).mono ?_
    rintro en w1 ⟨rfl, hb⟩
    rw [H1.out]
    have HX1 := Lib.hid (dem_kept hb hl0 HX0.out)
    have hl1 := Nat.lt_of_lt_of_le hl0 hb.size
    have HI1 := Lib.hid (ings_kept hb HI0.out)
    have HJ1 := Lib.hid (ints_kept hb HJ0.out)
    have HB1 := Lib.hid (below_of HBA.out hb HBA.out.size)
    clear hb
    go_wp2
    go_ret
    exact ⟨retG_b HF.out.symm, HB1.out⟩
end Go.Proofs.Ytikoehjalcljnaa
