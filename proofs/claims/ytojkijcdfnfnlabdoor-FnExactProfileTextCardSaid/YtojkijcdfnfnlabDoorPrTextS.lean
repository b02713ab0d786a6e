/- A profile's text: the reference model's function, and the program's text of a ring. -/
import Derived.Test.YtojkijcdfnfnlabDoorPrText
import Derived.Test.YtojkijcdfnfnlabDoorProfFuns
set_option linter.unusedVariables false
namespace Go.Proofs.YtojkijcdfnfnlabDoor
open Go.ChangeShapes Go.WideShapes Go.ChangeAt Go.RowKit

set_option maxRecDepth 20000 in
set_option maxHeartbeats 1000000 in
theorem specPrText_any (s : ByteArray) (v : Value) (rs : List Rg) (w : World) (h : RingsAt w v rs) (hs : s.size ≤ maxLen) :
    Calls Tryd.prog 6 #[.agg #[.string s, v]] w fun e w' => e = .returned (.string (prV s rs)) ∧ Below w.heap.size w w' := by
  have HI := Lib.hid h
  obtain ⟨a, c, rfl⟩ := rings_form h
  clear h
  rcases Bool.eq_false_or_eq_true (profB s rs) with hp | hp
  · have HR := Lib.hid (show prV s rs = prTo s rs rs.length by unfold prV; rw [if_pos hp])
    have HP := Lib.hid hp
    obtain ⟨-, ⟨n1, n2⟩, -, -⟩ := prof_iff.1 hp
    clear hp
    generalize hn : rs.length = n at *
    have HN := Lib.hid hn
    clear hn
    go_enter Tryd.func6, Tryd.ntmps6
    go_wp2_with fail
    have hal := alloc_lt2 w (.cells #[.string s, .slice a n c] 29)
    have hpa := prof_alloc w s (.slice a n c) 29
    have HBA := Lib.hid (below_al w (.cells #[.string s, .slice a n c] 29))
    generalize w.alloc (.cells #[.string s, .slice a n c] 29) = wA at *
    have HIA := Lib.hid (rings_kept HBA.out HI.out)
    refine (l05Ok_any _ s _ rs _ hpa HIA.out hs).mono ?_
    rintro e w1 ⟨rfl, hb⟩
    rw [HP.out]
    have hp1 := prof_keep hb hal hpa
    have hl1 := Nat.lt_of_lt_of_le hal hb.size
    have HI1 := Lib.hid (rings_kept hb HIA.out)
    have HB := Lib.hid (below_of HBA.out hb HBA.out.size)
    clear hb hpa
    go_wp2_with fail
    obtain ⟨-, ⟨a', c', hv, h0⟩ | ⟨b, off, cap, hv, hbl, hc⟩⟩ := HI1.out
    · have := HN.out
      rw [h0] at this; simp at this; omega
    · simp only [Value.slice.injEq] at hv
      obtain ⟨rfl, -, rfl⟩ := hv
      refine (l05Text_some _ b off c n s rs _ HN.out hp1 hl1 hbl (fun i hi => ring_in hc i (by rw [HN.out]; exact hi)) HP.out).mono ?_
      rintro e w2 ⟨rfl, hb⟩
      have HB2 := Lib.hid (below_of HB.out hb HB.out.size)
      clear hb
      generalize prTo s rs n = y at *
      go_wp2
      go_ret
      exact ⟨ret_strP HR.out.symm, HB2.out⟩
  · have HR := Lib.hid (show prV s rs = ByteArray.empty by unfold prV; rw [hp]; rfl)
    generalize hn : rs.length = n at *
    clear hn
    go_enter Tryd.func6, Tryd.ntmps6
    go_wp2_with fail
    refine (l05Ok_any _ s _ rs _ (prof_alloc _ _ _ _) (rings_kept (below_al _ _) HI.out) hs).mono ?_
    rintro e w1 ⟨rfl, hb⟩
    rw [hp]
    have HB := Lib.hid (below_of (below_al _ _) hb (by simp))
    clear hb
    go_wp2
    go_ret
    exact ⟨ret_strP HR.out.symm, HB.out⟩
/-- A ring's part of the text, without the blank. -/
def rgU (r : Rg) : ByteArray := decText r.1 ++ (⟨#[47]⟩ : ByteArray) ++ decText r.2.1 ++ (⟨#[47]⟩ : ByteArray) ++ decText r.2.2
theorem three_next {W w w2 : World} {b : Nat} {x y z : Value} (hz : b < W.heap.size)
    (h : w.cell? ⟨b, 0, none⟩ = some x ∧ w.cell? ⟨b, 1, none⟩ = some y ∧ w.cell? ⟨b, 2, none⟩ = some z ∧ Below W.heap.size W w) (hb : Below w.heap.size w w2) :
    w2.cell? ⟨b, 0, none⟩ = some x ∧ w2.cell? ⟨b, 1, none⟩ = some y ∧ w2.cell? ⟨b, 2, none⟩ = some z ∧ Below W.heap.size W w2 := by
  obtain ⟨h3, h4, h5, hB⟩ := h
  have k2 := Nat.lt_of_lt_of_le hz hB.size
  exact ⟨(below_cell hb _ _ k2).trans h3, (below_cell hb _ _ k2).trans h4, (below_cell hb _ _ k2).trans h5, below_of hB hb hB.size⟩
set_option maxRecDepth 20000 in
set_option maxHeartbeats 2000000 in
theorem ringText_any (x y z : Int) (w : World) (hr : ringB (x, y, z) = true) (hp : Hid (PowOk w)) :
    Calls Tryd.prog 19 #[.agg #[.int .i64 x, .int .i64 y, .int .i64 z]] w fun e w' => e = .returned (.string (rgU (x, y, z))) ∧ Below w.heap.size w w' := by
  obtain ⟨⟨x1, x2⟩, ⟨y1, y2⟩, z1, z2⟩ := ring_iff.1 hr
  simp only at x1 x2 y1 y2 z1 z2
  have HN := Lib.hid (show rgU (x, y, z) = decText x ++ (⟨#[47]⟩ : ByteArray) ++ decText y ++ (⟨#[47]⟩ : ByteArray) ++ decText z from rfl)
  have tx := decT_size x (by omega) (by omega)
  have ty := decT_size y (by omega) (by omega)
  have tz := decT_size z (by omega) (by omega)
  have g2 : ¬ 9223372036854775807 < (decText x).size + 1 := by omega
  have g3 : ¬ 9223372036854775807 < (decText x).size + 1 + (decText y).size := by omega
  have g4 : ¬ 9223372036854775807 < (decText x).size + 1 + (decText y).size + 1 := by omega
  have g5 : ¬ 9223372036854775807 < (decText x).size + 1 + (decText y).size + 1 + (decText z).size := by omega
  clear tx ty tz hr
  go_enter Tryd.func19, Tryd.ntmps19
  have c0 : (w.alloc (.cells #[.int .i64 x, .int .i64 y, .int .i64 z] 45)).cell? ⟨w.heap.size, 0, none⟩ = some (.int .i64 x) := by go_simp
  have c1 : (w.alloc (.cells #[.int .i64 x, .int .i64 y, .int .i64 z] 45)).cell? ⟨w.heap.size, 1, none⟩ = some (.int .i64 y) := by go_simp
  have c2 : (w.alloc (.cells #[.int .i64 x, .int .i64 y, .int .i64 z] 45)).cell? ⟨w.heap.size, 2, none⟩ = some (.int .i64 z) := by go_simp
  have hl := alloc_lt2 w (.cells #[.int .i64 x, .int .i64 y, .int .i64 z] 45)
  have HBA := Lib.hid (below_al w (.cells #[.int .i64 x, .int .i64 y, .int .i64 z] 45))
  go_wp2
  generalize w.alloc (.cells #[.int .i64 x, .int .i64 y, .int .i64 z] 45) = wA at *
  have HPA := Lib.hid (pow_kept HBA.out hp.out)
  have HS := Lib.hid (show wA.drew.cell? ⟨w.heap.size, 0, none⟩ = some (.int .i64 x) ∧ wA.drew.cell? ⟨w.heap.size, 1, none⟩ = some (.int .i64 y) ∧ wA.drew.cell? ⟨w.heap.size, 2, none⟩ = some (.int .i64 z) ∧ Below wA.heap.size wA wA.drew from ⟨c0, c1, c2, rfl, rfl, rfl, Nat.le_refl _, fun _ _ => rfl⟩)
  have HQ := Lib.hid (show ∀ w' : World, (w'.cell? ⟨w.heap.size, 0, none⟩ = some (.int .i64 x) ∧ w'.cell? ⟨w.heap.size, 1, none⟩ = some (.int .i64 y) ∧ w'.cell? ⟨w.heap.size, 2, none⟩ = some (.int .i64 z) ∧ Below wA.heap.size wA w') → Hid (PowOk w') from fun w' h => Lib.hid (pow_kept h.2.2.2 HPA.out))
  go_region_held3 (fun w' => w'.cell? ⟨w.heap.size, 0, none⟩ = some (.int .i64 x) ∧ w'.cell? ⟨w.heap.size, 1, none⟩ = some (.int .i64 y) ∧ w'.cell? ⟨w.heap.size, 2, none⟩ = some (.int .i64 z) ∧ Below wA.heap.size wA w')
    (first | exact HS.out | exact hkN)
    (first
      | (go_at_call 37; refine (implDecimal_any _ _ (by omega) (by omega) (HQ.out _ (by assumption))).mono ?_; rintro e wN ⟨rfl, hbN⟩; have hkN := three_next hl (by assumption) hbN))
  have HB2 := Lib.hid (HBA.out.trans (hkN.2.2.2.mono HBA.out.size))
  clear hkN
  go_wp2
  go_ret
  exact ⟨ret_strP HN.out.symm, HB2.out⟩
end Go.Proofs.YtojkijcdfnfnlabDoor
