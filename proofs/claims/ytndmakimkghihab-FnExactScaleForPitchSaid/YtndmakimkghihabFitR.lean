/- A profile of another size: for another pitch, both programs' answers. -/
import Derived.Test.YtndmakimkghihabSclSpec
import Derived.Test.YtndmakimkghihabSizI
set_option linter.unusedVariables false
namespace Go.Proofs.Ytndmakimkghihab
open Go.ChangeShapes Go.WideShapes Go.ChangeAt Go.RowKit

theorem rv_set2Z {w : World} {B : Nat} {v : Value} {zs : List Rg} (h : Rv w B v zs) (b : Nat) (x y : Value) (hne : ∀ k, v.ownBlock = some k → k ≠ b) : Rv ((w.setCell ⟨b, 0, none⟩ x).setCell ⟨b, 1, none⟩ y) B v zs := by
  have e : ∀ (w : World) (k : Nat) (z : Value), w.grownBy (w.setCell ⟨b, k, none⟩ z) (some b) := fun w k z => gb_set _ _ (gb_refl w (some b))
  have hne2 : v.ownBlock = none ∨ v.ownBlock ≠ some b := by
    cases hv : v.ownBlock with
    | none => exact .inl rfl
    | some k => exact .inr fun h => hne k hv (Option.some.inj h)
  exact rv_grown (e _ _ _) (rv_grown (e _ _ _) h hne2) hne2
def okF (f : Int) : Bool := inB f 10000 20000000
theorem okF_iff {f : Int} : okF f = true ↔ 10000 ≤ f ∧ f ≤ 20000000 := inB_iff
theorem l02Ok_any (f : Int) (w : World) :
    Calls Try.prog 36 #[.int .i64 f] w fun e w' => e = .returned (.bool (okF f)) ∧ w = w' := by
  go_enter Try.func36, Try.ntmps36
  go_wp2_with fail
  refine (l00In_any _ _ _ _).mono ?_
  rintro e w' ⟨rfl, rfl⟩
  go_wp2
  go_ret
  exact ⟨rfl, rfl⟩

theorem cellFZ (w : World) (x : Int) (T : TypeId) : ∀ j, j < 1 → (w.alloc (.cells #[.int .i64 x] T)).cell? ⟨w.heap.size, 0 + j, none⟩ = some (.int .i64 ([x].getD j 0)) := by
  intro j hj
  match j, hj with
  | 0, _ => go_simp
theorem allZ1 (lo hi c : Int) : allIn lo hi [c] = inB c lo hi := by simp [allIn]
theorem implIsFrequency_any (f : Int) (w : World) :
    Calls Try.prog 41 #[.int .i64 f] w fun e w' => e = .returned (.bool (okF f)) ∧ Below w.heap.size w w' := by
  go_enter Try.func41, Try.ntmps41
  go_wp2_with fail
  refine (within_i64 _ _ [f] _ 0 1 1 _ rfl (by omega) (cellFZ _ _ _)).mono ?_
  rintro e w' ⟨rfl, rfl⟩
  go_wp2
  go_ret
  exact ⟨ret_bool (allZ1 _ _ _), (Below.refl _ _).alloc (Nat.le_refl _) _⟩

def fitC (s : ByteArray) (rs : List Rg) (num den : Int) : Int := if profB s rs = true then (if okF num = true ∧ okF den = true then resC s (szL rs num den) else 2) else 1
theorem fitC_1 {s : ByteArray} {rs : List Rg} {num den : Int} (h : profB s rs = false) : fitC s rs num den = 1 := by unfold fitC; rw [h]; rfl
theorem fitC_2 {s : ByteArray} {rs : List Rg} {num den : Int} (h : profB s rs = true) (h2 : ¬ (okF num = true ∧ okF den = true)) : fitC s rs num den = 2 := by unfold fitC; rw [if_pos h, if_neg h2]
theorem fitC_3 {s : ByteArray} {rs : List Rg} {num den : Int} (h : profB s rs = true) (h2 : okF num = true) (h3 : okF den = true) : fitC s rs num den = resC s (szL rs num den) := by unfold fitC; rw [if_pos h, if_pos ⟨h2, h3⟩]
theorem fit_len (s : ByteArray) (rs : List Rg) (num den : Int) : (resL (szL rs num den) (fitC s rs num den)).length ≤ 64 := by
  rcases Bool.eq_false_or_eq_true (profB s rs) with h | h
  · have h2 := (prof_iff.1 h).2.1.2
    exact resL_len _ _ (by rw [szL_len]; omega)
  · rw [fitC_1 h]; simp [resL]
/-- What the program's method answers, in the reference model's words. -/
theorem resized_any (s : ByteArray) (a : Option Addr) (n c : Nat) (rs : List Rg) (num den : Int) (w : World) (hn : Hid (rs.length = n)) (h1 : 1 ≤ n) (h32 : n ≤ 32) (HI : Hid (RingsAt w (.slice a n c) rs)) (hs : s.size ≤ maxLen) (HVR : Hid (∀ i, i < rs.length → ringB (rs.getD i zR) = true)) (hnum : 1 ≤ num ∧ num ≤ 20000000) (hden : 1 ≤ den ∧ den ≤ 20000000) :
    Calls Try.prog 42 #[.agg #[.string s, .slice a n c], .int .i64 num, .int .i64 den] w (ProfU (resS s (resC s (szL rs num den))) (resL (szL rs num den) (resC s (szL rs num den))) (resC s (szL rs num den)) w) := by
  have e : szL rs num den = rs.map (szf num den) := rfl
  rw [e]
  rcases Bool.eq_false_or_eq_true (profB s (rs.map (szf num den))) with h | h
  · rw [show resC s (rs.map (szf num den)) = 0 by unfold resC; rw [if_pos h]]
    exact resized_yes s a n c rs num den w hn h1 h32 HI hs HVR hnum hden (Lib.hid h)
  · rw [show resC s (rs.map (szf num den)) = 6 by unfold resC; rw [h]; rfl]
    exact resized_no s a n c rs num den w hn h1 h32 HI hs HVR hnum hden (Lib.hid h)
set_option maxRecDepth 20000 in
set_option maxHeartbeats 4000000 in
theorem specFit_bad (s : ByteArray) (a : Option Addr) (n c : Nat) (rs : List Rg) (num den : Int) (w : World) (hn : Hid (rs.length = n)) (HI : Hid (RingsAt w (.slice a n c) rs)) (hs : s.size ≤ maxLen) (HP : Hid (profB s rs = false)) :
    Calls Try.prog 13 #[.agg #[.string s, .slice a n c], .int .i64 num, .int .i64 den] w (ProfU ⟨#[]⟩ [] 1 w) := by
  have hBA := ((Below.refl w.heap.size w).alloc (Nat.le_refl _) (.cells #[.string s, .slice a n c] 30)).alloc (by simp) (.cells #[.string ⟨#[]⟩, .slice none 0 0] 30)
  have z0 : ((w.alloc (.cells #[.string s, .slice a n c] 30)).alloc (.cells #[.string ⟨#[]⟩, .slice none 0 0] 30)).cell? ⟨w.heap.size, 0, none⟩ = some (.string s) := by go_simp
  have z1 : ((w.alloc (.cells #[.string s, .slice a n c] 30)).alloc (.cells #[.string ⟨#[]⟩, .slice none 0 0] 30)).cell? ⟨w.heap.size, 1, none⟩ = some (.slice a n c) := by go_simp
  have hbl : BlankP ((w.alloc (.cells #[.string s, .slice a n c] 30)).alloc (.cells #[.string ⟨#[]⟩, .slice none 0 0] 30)) (w.heap.size + 1) := ⟨⟨by go_simp, by go_simp⟩, by go_simp, by go_simp⟩
  have hl1 : w.heap.size + 1 < ((w.alloc (.cells #[.string s, .slice a n c] 30)).alloc (.cells #[.string ⟨#[]⟩, .slice none 0 0] 30)).heap.size := by simp
  have HBA := Lib.hid hBA
  have HIA := Lib.hid (rings_kept hBA HI.out)
  go_enter Try.func13, Try.ntmps13
  go_wp2_with fail
  clear hBA
  generalize ((w.alloc (.cells #[.string s, .slice a n c] 30)).alloc (.cells #[.string ⟨#[]⟩, .slice none 0 0] 30)) = wA at *
  refine (l05Ok_any _ s _ rs _ ⟨z0, z1⟩ HIA.out hs).mono ?_
  rintro e w1 ⟨rfl, hb⟩
  rw [HP.out]
  have q0 := (below_cell hb _ _ (by omega)).trans z0
  have q1 := (below_cell hb _ _ (by omega)).trans z1
  have HBL := Lib.hid (blankP_kept hb hl1 hbl)
  have hl2 := Nat.lt_of_lt_of_le hl1 hb.size
  have HI1 := Lib.hid (rings_kept hb HIA.out)
  have HB := Lib.hid (below_of HBA.out hb HBA.out.size)
  clear hb hbl z0 z1
  obtain ⟨⟨b0, b1⟩, f0, f1⟩ := HBL.out
  go_wp2
  try simp only [Exit.inBlock, Exit.then]
  refine bodyPost_ret_by (v := .tuple #[.agg #[.string ⟨#[]⟩, .slice none 0 0], .int .i64 1]) (by rw [results_cellP rfl]; go_simp) rfl ?_
  refine ⟨_, rfl, .inl ⟨rfl, rfl⟩, ?_⟩
  exact (HB.out.setCell (by show _ ≤ w.heap.size + 1; omega) _).setCell (by show _ ≤ w.heap.size + 1; omega) _
set_option maxRecDepth 20000 in
set_option maxHeartbeats 4000000 in
theorem specFit_range1 (s : ByteArray) (a : Option Addr) (n c : Nat) (rs : List Rg) (num den : Int) (w : World) (hn : Hid (rs.length = n)) (HI : Hid (RingsAt w (.slice a n c) rs)) (hs : s.size ≤ maxLen) (HP : Hid (profB s rs = true)) (HM1 : Hid (okF num = false)) :
    Calls Try.prog 13 #[.agg #[.string s, .slice a n c], .int .i64 num, .int .i64 den] w (ProfU ⟨#[]⟩ [] 2 w) := by
  have hBA := ((Below.refl w.heap.size w).alloc (Nat.le_refl _) (.cells #[.string s, .slice a n c] 30)).alloc (by simp) (.cells #[.string ⟨#[]⟩, .slice none 0 0] 30)
  have z0 : ((w.alloc (.cells #[.string s, .slice a n c] 30)).alloc (.cells #[.string ⟨#[]⟩, .slice none 0 0] 30)).cell? ⟨w.heap.size, 0, none⟩ = some (.string s) := by go_simp
  have z1 : ((w.alloc (.cells #[.string s, .slice a n c] 30)).alloc (.cells #[.string ⟨#[]⟩, .slice none 0 0] 30)).cell? ⟨w.heap.size, 1, none⟩ = some (.slice a n c) := by go_simp
  have hbl : BlankP ((w.alloc (.cells #[.string s, .slice a n c] 30)).alloc (.cells #[.string ⟨#[]⟩, .slice none 0 0] 30)) (w.heap.size + 1) := ⟨⟨by go_simp, by go_simp⟩, by go_simp, by go_simp⟩
  have hl1 : w.heap.size + 1 < ((w.alloc (.cells #[.string s, .slice a n c] 30)).alloc (.cells #[.string ⟨#[]⟩, .slice none 0 0] 30)).heap.size := by simp
  have HBA := Lib.hid hBA
  have HIA := Lib.hid (rings_kept hBA HI.out)
  go_enter Try.func13, Try.ntmps13
  go_wp2_with fail
  clear hBA
  generalize ((w.alloc (.cells #[.string s, .slice a n c] 30)).alloc (.cells #[.string ⟨#[]⟩, .slice none 0 0] 30)) = wA at *
  refine (l05Ok_any _ s _ rs _ ⟨z0, z1⟩ HIA.out hs).mono ?_
  rintro e w1 ⟨rfl, hb⟩
  rw [HP.out]
  have q0 := (below_cell hb _ _ (by omega)).trans z0
  have q1 := (below_cell hb _ _ (by omega)).trans z1
  have HBL := Lib.hid (blankP_kept hb hl1 hbl)
  have hl2 := Nat.lt_of_lt_of_le hl1 hb.size
  have HI1 := Lib.hid (rings_kept hb HIA.out)
  have HB := Lib.hid (below_of HBA.out hb HBA.out.size)
  clear hb hbl z0 z1
  go_wp2_with fail
  refine (l02Ok_any num _).mono ?_
  rintro e w' ⟨rfl, rfl⟩
  rw [HM1.out]
  obtain ⟨⟨b0, b1⟩, f0, f1⟩ := HBL.out
  go_wp2
  try simp only [Exit.inBlock, Exit.then]
  refine bodyPost_ret_by (v := .tuple #[.agg #[.string ⟨#[]⟩, .slice none 0 0], .int .i64 2]) (by rw [results_cellP rfl]; go_simp) rfl ?_
  refine ⟨_, rfl, .inl ⟨rfl, rfl⟩, ?_⟩
  exact (HB.out.setCell (by show _ ≤ w.heap.size + 1; omega) _).setCell (by show _ ≤ w.heap.size + 1; omega) _
set_option maxRecDepth 20000 in
set_option maxHeartbeats 4000000 in
theorem specFit_range2 (s : ByteArray) (a : Option Addr) (n c : Nat) (rs : List Rg) (num den : Int) (w : World) (hn : Hid (rs.length = n)) (HI : Hid (RingsAt w (.slice a n c) rs)) (hs : s.size ≤ maxLen) (HP : Hid (profB s rs = true)) (HM1 : Hid (okF num = true)) (HM2 : Hid (okF den = false)) :
    Calls Try.prog 13 #[.agg #[.string s, .slice a n c], .int .i64 num, .int .i64 den] w (ProfU ⟨#[]⟩ [] 2 w) := by
  have hBA := ((Below.refl w.heap.size w).alloc (Nat.le_refl _) (.cells #[.string s, .slice a n c] 30)).alloc (by simp) (.cells #[.string ⟨#[]⟩, .slice none 0 0] 30)
  have z0 : ((w.alloc (.cells #[.string s, .slice a n c] 30)).alloc (.cells #[.string ⟨#[]⟩, .slice none 0 0] 30)).cell? ⟨w.heap.size, 0, none⟩ = some (.string s) := by go_simp
  have z1 : ((w.alloc (.cells #[.string s, .slice a n c] 30)).alloc (.cells #[.string ⟨#[]⟩, .slice none 0 0] 30)).cell? ⟨w.heap.size, 1, none⟩ = some (.slice a n c) := by go_simp
  have hbl : BlankP ((w.alloc (.cells #[.string s, .slice a n c] 30)).alloc (.cells #[.string ⟨#[]⟩, .slice none 0 0] 30)) (w.heap.size + 1) := ⟨⟨by go_simp, by go_simp⟩, by go_simp, by go_simp⟩
  have hl1 : w.heap.size + 1 < ((w.alloc (.cells #[.string s, .slice a n c] 30)).alloc (.cells #[.string ⟨#[]⟩, .slice none 0 0] 30)).heap.size := by simp
  have HBA := Lib.hid hBA
  have HIA := Lib.hid (rings_kept hBA HI.out)
  go_enter Try.func13, Try.ntmps13
  go_wp2_with fail
  clear hBA
  generalize ((w.alloc (.cells #[.string s, .slice a n c] 30)).alloc (.cells #[.string ⟨#[]⟩, .slice none 0 0] 30)) = wA at *
  refine (l05Ok_any _ s _ rs _ ⟨z0, z1⟩ HIA.out hs).mono ?_
  rintro e w1 ⟨rfl, hb⟩
  rw [HP.out]
  have q0 := (below_cell hb _ _ (by omega)).trans z0
  have q1 := (below_cell hb _ _ (by omega)).trans z1
  have HBL := Lib.hid (blankP_kept hb hl1 hbl)
  have hl2 := Nat.lt_of_lt_of_le hl1 hb.size
  have HI1 := Lib.hid (rings_kept hb HIA.out)
  have HB := Lib.hid (below_of HBA.out hb HBA.out.size)
  clear hb hbl z0 z1
  go_wp2_with fail
  refine (l02Ok_any num _).mono ?_
  rintro e w' ⟨rfl, rfl⟩
  rw [HM1.out]
  go_wp2_with fail
  refine (l02Ok_any den _).mono ?_
  rintro e w' ⟨rfl, rfl⟩
  rw [HM2.out]
  obtain ⟨⟨b0, b1⟩, f0, f1⟩ := HBL.out
  go_wp2
  try simp only [Exit.inBlock, Exit.then]
  refine bodyPost_ret_by (v := .tuple #[.agg #[.string ⟨#[]⟩, .slice none 0 0], .int .i64 2]) (by rw [results_cellP rfl]; go_simp) rfl ?_
  refine ⟨_, rfl, .inl ⟨rfl, rfl⟩, ?_⟩
  exact (HB.out.setCell (by show _ ≤ w.heap.size + 1; omega) _).setCell (by show _ ≤ w.heap.size + 1; omega) _
set_option maxRecDepth 20000 in
set_option maxHeartbeats 4000000 in
theorem specFit_yes (s : ByteArray) (a : Option Addr) (n c : Nat) (rs : List Rg) (num den : Int) (w : World) (hn : Hid (rs.length = n)) (h1 : 1 ≤ n) (h32 : n ≤ 32) (HI : Hid (RingsAt w (.slice a n c) rs)) (hs : s.size ≤ maxLen) (HP : Hid (profB s rs = true)) (HM1 : Hid (okF num = true)) (HM2 : Hid (okF den = true)) (HQ : Hid (profB s (szL rs num den) = true)) :
    Calls Try.prog 13 #[.agg #[.string s, .slice a n c], .int .i64 num, .int .i64 den] w (ProfU s (szL rs num den) 0 w) := by
  have hsb1 := okF_iff.1 HM1.out
  have hsb2 := okF_iff.1 HM2.out
  have HVR := Lib.hid (fun i hi => prof_ring HP.out i hi)
  have HML := Lib.hid (show (szL rs num den).length = n by rw [szL_len]; exact hn.out)
  have hBA := ((Below.refl w.heap.size w).alloc (Nat.le_refl _) (.cells #[.string s, .slice a n c] 30)).alloc (by simp) (.cells #[.string ⟨#[]⟩, .slice none 0 0] 30)
  have z0 : ((w.alloc (.cells #[.string s, .slice a n c] 30)).alloc (.cells #[.string ⟨#[]⟩, .slice none 0 0] 30)).cell? ⟨w.heap.size, 0, none⟩ = some (.string s) := by go_simp
  have z1 : ((w.alloc (.cells #[.string s, .slice a n c] 30)).alloc (.cells #[.string ⟨#[]⟩, .slice none 0 0] 30)).cell? ⟨w.heap.size, 1, none⟩ = some (.slice a n c) := by go_simp
  have hbl : BlankP ((w.alloc (.cells #[.string s, .slice a n c] 30)).alloc (.cells #[.string ⟨#[]⟩, .slice none 0 0] 30)) (w.heap.size + 1) := ⟨⟨by go_simp, by go_simp⟩, by go_simp, by go_simp⟩
  have hl1 : w.heap.size + 1 < ((w.alloc (.cells #[.string s, .slice a n c] 30)).alloc (.cells #[.string ⟨#[]⟩, .slice none 0 0] 30)).heap.size := by simp
  have HBA := Lib.hid hBA
  have HIA := Lib.hid (rings_kept hBA HI.out)
  go_enter Try.func13, Try.ntmps13
  go_wp2_with fail
  clear hBA
  generalize ((w.alloc (.cells #[.string s, .slice a n c] 30)).alloc (.cells #[.string ⟨#[]⟩, .slice none 0 0] 30)) = wA at *
  refine (l05Ok_any _ s _ rs _ ⟨z0, z1⟩ HIA.out hs).mono ?_
  rintro e w1 ⟨rfl, hb⟩
  rw [HP.out]
  have q0 := (below_cell hb _ _ (by omega)).trans z0
  have q1 := (below_cell hb _ _ (by omega)).trans z1
  have HBL := Lib.hid (blankP_kept hb hl1 hbl)
  have hl2 := Nat.lt_of_lt_of_le hl1 hb.size
  have HI1 := Lib.hid (rings_kept hb HIA.out)
  have HB := Lib.hid (below_of HBA.out hb HBA.out.size)
  clear hb hbl z0 z1
  go_wp2_with fail
  refine (l02Ok_any num _).mono ?_
  rintro e w' ⟨rfl, rfl⟩
  rw [HM1.out]
  go_wp2_with fail
  refine (l02Ok_any den _).mono ?_
  rintro e w' ⟨rfl, rfl⟩
  rw [HM2.out]
  go_wp2_with fail
  obtain ⟨b, off, rfl, hbl, hri⟩ := rings_lieO hn.out h1 HI1.out
  refine (l07Sized_any w.heap.size b off n c s rs num den w1 hn.out h1 h32 (by omega) hbl ⟨q0, q1⟩ (fun i hi => ⟨(hri i hi).c0, (hri i hi).c1, (hri i hi).c2⟩) HVR.out (by omega) (by omega) (by omega) (by omega)).mono ?_
  rintro e w2 ⟨g, cap, rfl, hg0, hrow, hb2⟩
  have HRV := Lib.hid (show Rv w2 w1.heap.size (.slice (some ⟨g, 0, none⟩) n cap) (szL rs num den) from .inr ⟨g, cap, by rw [HML.out], hg0, by rw [HML.out]; exact hrow⟩)
  have HBL := Lib.hid (blankP_kept hb2 hl2 HBL.out)
  have HB := Lib.hid (below_of HB.out hb2 HB.out.size)
  have hl2 := Nat.lt_of_lt_of_le hl2 hb2.size
  clear hrow hb2 hri
  generalize szL rs num den = l at *
  have HRR := Lib.hid (rv_rings (by rw [HML.out]; omega) HRV.out)
  go_wp2_with fail
  refine (l07Done_any s _ l w2 HRR.out hs).mono ?_
  rintro e w3 ⟨rfl, hb3⟩
  rw [HQ.out, if_pos rfl, show resC s l = 0 from by unfold resC; rw [HQ.out]; rfl, show resS s 0 = s from rfl]
  have HBF := Lib.hid (below_of HB.out hb3 HB.out.size)
  have HRV3 := Lib.hid (rv_kept hb3 HRV.out)
  obtain ⟨⟨b0, b1⟩, f0, f1⟩ := blankP_kept hb3 hl2 HBL.out
  clear hb3
  try skip
  go_wp2
  try simp only [Exit.inBlock, Exit.then]
  refine bodyPost_ret_by (v := .tuple #[.agg #[.string s, .slice (some ⟨g, 0, none⟩) n cap], .int .i64 0]) (by rw [results_cellP rfl]; go_simp) rfl ?_
  refine ⟨_, rfl, ?_, (HBF.out.setCell (by show _ ≤ w.heap.size + 1; omega) _).setCell (by show _ ≤ w.heap.size + 1; omega) _⟩
  exact rv_set2Z (rv_base HRV3.out (show w.heap.size ≤ w1.heap.size by omega)) _ _ _ (fun k hk => by have := (rv_in HRV3.out k hk).1; omega)
set_option maxRecDepth 20000 in
set_option maxHeartbeats 4000000 in
theorem specFit_no (s : ByteArray) (a : Option Addr) (n c : Nat) (rs : List Rg) (num den : Int) (w : World) (hn : Hid (rs.length = n)) (h1 : 1 ≤ n) (h32 : n ≤ 32) (HI : Hid (RingsAt w (.slice a n c) rs)) (hs : s.size ≤ maxLen) (HP : Hid (profB s rs = true)) (HM1 : Hid (okF num = true)) (HM2 : Hid (okF den = true)) (HQ : Hid (profB s (szL rs num den) = false)) :
    Calls Try.prog 13 #[.agg #[.string s, .slice a n c], .int .i64 num, .int .i64 den] w (ProfU ⟨#[]⟩ [] 6 w) := by
  have hsb1 := okF_iff.1 HM1.out
  have hsb2 := okF_iff.1 HM2.out
  have HVR := Lib.hid (fun i hi => prof_ring HP.out i hi)
  have HML := Lib.hid (show (szL rs num den).length = n by rw [szL_len]; exact hn.out)
  have hBA := ((Below.refl w.heap.size w).alloc (Nat.le_refl _) (.cells #[.string s, .slice a n c] 30)).alloc (by simp) (.cells #[.string ⟨#[]⟩, .slice none 0 0] 30)
  have z0 : ((w.alloc (.cells #[.string s, .slice a n c] 30)).alloc (.cells #[.string ⟨#[]⟩, .slice none 0 0] 30)).cell? ⟨w.heap.size, 0, none⟩ = some (.string s) := by go_simp
  have z1 : ((w.alloc (.cells #[.string s, .slice a n c] 30)).alloc (.cells #[.string ⟨#[]⟩, .slice none 0 0] 30)).cell? ⟨w.heap.size, 1, none⟩ = some (.slice a n c) := by go_simp
  have hbl : BlankP ((w.alloc (.cells #[.string s, .slice a n c] 30)).alloc (.cells #[.string ⟨#[]⟩, .slice none 0 0] 30)) (w.heap.size + 1) := ⟨⟨by go_simp, by go_simp⟩, by go_simp, by go_simp⟩
  have hl1 : w.heap.size + 1 < ((w.alloc (.cells #[.string s, .slice a n c] 30)).alloc (.cells #[.string ⟨#[]⟩, .slice none 0 0] 30)).heap.size := by simp
  have HBA := Lib.hid hBA
  have HIA := Lib.hid (rings_kept hBA HI.out)
  go_enter Try.func13, Try.ntmps13
  go_wp2_with fail
  clear hBA
  generalize ((w.alloc (.cells #[.string s, .slice a n c] 30)).alloc (.cells #[.string ⟨#[]⟩, .slice none 0 0] 30)) = wA at *
  refine (l05Ok_any _ s _ rs _ ⟨z0, z1⟩ HIA.out hs).mono ?_
  rintro e w1 ⟨rfl, hb⟩
  rw [HP.out]
  have q0 := (below_cell hb _ _ (by omega)).trans z0
  have q1 := (below_cell hb _ _ (by omega)).trans z1
  have HBL := Lib.hid (blankP_kept hb hl1 hbl)
  have hl2 := Nat.lt_of_lt_of_le hl1 hb.size
  have HI1 := Lib.hid (rings_kept hb HIA.out)
  have HB := Lib.hid (below_of HBA.out hb HBA.out.size)
  clear hb hbl z0 z1
  go_wp2_with fail
  refine (l02Ok_any num _).mono ?_
  rintro e w' ⟨rfl, rfl⟩
  rw [HM1.out]
  go_wp2_with fail
  refine (l02Ok_any den _).mono ?_
  rintro e w' ⟨rfl, rfl⟩
  rw [HM2.out]
  go_wp2_with fail
  obtain ⟨b, off, rfl, hbl, hri⟩ := rings_lieO hn.out h1 HI1.out
  refine (l07Sized_any w.heap.size b off n c s rs num den w1 hn.out h1 h32 (by omega) hbl ⟨q0, q1⟩ (fun i hi => ⟨(hri i hi).c0, (hri i hi).c1, (hri i hi).c2⟩) HVR.out (by omega) (by omega) (by omega) (by omega)).mono ?_
  rintro e w2 ⟨g, cap, rfl, hg0, hrow, hb2⟩
  have HRV := Lib.hid (show Rv w2 w1.heap.size (.slice (some ⟨g, 0, none⟩) n cap) (szL rs num den) from .inr ⟨g, cap, by rw [HML.out], hg0, by rw [HML.out]; exact hrow⟩)
  have HBL := Lib.hid (blankP_kept hb2 hl2 HBL.out)
  have HB := Lib.hid (below_of HB.out hb2 HB.out.size)
  have hl2 := Nat.lt_of_lt_of_le hl2 hb2.size
  clear hrow hb2 hri
  generalize szL rs num den = l at *
  have HRR := Lib.hid (rv_rings (by rw [HML.out]; omega) HRV.out)
  go_wp2_with fail
  refine (l07Done_any s _ l w2 HRR.out hs).mono ?_
  rintro e w3 ⟨rfl, hb3⟩
  rw [HQ.out, show resC s l = 6 from by unfold resC; rw [HQ.out]; rfl, show resS s 6 = ⟨#[]⟩ from rfl]
  have HBF := Lib.hid (below_of HB.out hb3 HB.out.size)
  have HRV3 := Lib.hid (rv_kept hb3 HRV.out)
  obtain ⟨⟨b0, b1⟩, f0, f1⟩ := blankP_kept hb3 hl2 HBL.out
  clear hb3
  try skip
  go_wp2
  try simp only [Exit.inBlock, Exit.then]
  refine bodyPost_ret_by (v := .tuple #[.agg #[.string ⟨#[]⟩, .slice none 0 0], .int .i64 6]) (by rw [results_cellP rfl]; go_simp) rfl ?_
  refine ⟨_, rfl, .inl ⟨rfl, rfl⟩, ?_⟩
  exact (HBF.out.setCell (by show _ ≤ w.heap.size + 1; omega) _).setCell (by show _ ≤ w.heap.size + 1; omega) _
theorem specFit_main (s : ByteArray) (a : Option Addr) (n c : Nat) (rs : List Rg) (num den : Int) (w : World) (hn : Hid (rs.length = n)) (h1 : 1 ≤ n) (h32 : n ≤ 32) (HI : Hid (RingsAt w (.slice a n c) rs)) (hs : s.size ≤ maxLen) (HP : Hid (profB s rs = true)) (HM1 : Hid (okF num = true)) (HM2 : Hid (okF den = true)) :
    Calls Try.prog 13 #[.agg #[.string s, .slice a n c], .int .i64 num, .int .i64 den] w (ProfU (resS s (resC s (szL rs num den))) (resL (szL rs num den) (resC s (szL rs num den))) (resC s (szL rs num den)) w) := by
  rcases Bool.eq_false_or_eq_true (profB s (szL rs num den)) with h | h
  · rw [show resC s (szL rs num den) = 0 by unfold resC; rw [if_pos h]]
    exact specFit_yes s a n c rs num den w hn h1 h32 HI hs HP HM1 HM2 (Lib.hid h)
  · rw [show resC s (szL rs num den) = 6 by unfold resC; rw [h]; rfl]
    exact specFit_no s a n c rs num den w hn h1 h32 HI hs HP HM1 HM2 (Lib.hid h)
theorem specFit_any (s : ByteArray) (v : Value) (rs : List Rg) (num den : Int) (w : World) (h : RingsAt w v rs) (hs : s.size ≤ maxLen) :
    Calls Try.prog 13 #[.agg #[.string s, v], .int .i64 num, .int .i64 den] w (ProfU (resS s (fitC s rs num den)) (resL (szL rs num den) (fitC s rs num den)) (fitC s rs num den) w) := by
  have HI := Lib.hid h
  obtain ⟨a, c, rfl⟩ := rings_form h
  rcases Bool.eq_false_or_eq_true (profB s rs) with hp | hp
  · obtain ⟨-, ⟨n1, n2⟩, -, -⟩ := prof_iff.1 hp
    rcases Bool.eq_false_or_eq_true (okF num) with hq | hq
    · rcases Bool.eq_false_or_eq_true (okF den) with hr | hr
      · rw [fitC_3 hp hq hr]
        exact specFit_main s a rs.length c rs num den w (Lib.hid rfl) n1 n2 HI hs (Lib.hid hp) (Lib.hid hq) (Lib.hid hr)
      · rw [fitC_2 hp (fun h => by rw [hr] at h; exact absurd h.2 (by simp))]
        exact specFit_range2 s a rs.length c rs num den w (Lib.hid rfl) HI hs (Lib.hid hp) (Lib.hid hq) (Lib.hid hr)
    · rw [fitC_2 hp (fun h => by rw [hq] at h; exact absurd h.1 (by simp))]
      exact specFit_range1 s a rs.length c rs num den w (Lib.hid rfl) HI hs (Lib.hid hp) (Lib.hid hq)
  · rw [fitC_1 hp]
    exact specFit_bad s a rs.length c rs num den w (Lib.hid rfl) HI hs (Lib.hid hp)
set_option maxRecDepth 20000 in
set_option maxHeartbeats 4000000 in
theorem implFit_bad (s : ByteArray) (a : Option Addr) (n c : Nat) (rs : List Rg) (num den : Int) (w : World) (hn : Hid (rs.length = n)) (HI : Hid (RingsAt w (.slice a n c) rs)) (hs : s.size ≤ maxLen) (HP : Hid (profB s rs = false)) :
    Calls Try.prog 15 #[.agg #[.string s, .slice a n c], .int .i64 num, .int .i64 den] w (ProfU ⟨#[]⟩ [] 1 w) := by
  have hBA := ((Below.refl w.heap.size w).alloc (Nat.le_refl _) (.cells #[.string s, .slice a n c] 30)).alloc (by simp) (.cells #[.string ⟨#[]⟩, .slice none 0 0] 30)
  have z0 : ((w.alloc (.cells #[.string s, .slice a n c] 30)).alloc (.cells #[.string ⟨#[]⟩, .slice none 0 0] 30)).cell? ⟨w.heap.size, 0, none⟩ = some (.string s) := by go_simp
  have z1 : ((w.alloc (.cells #[.string s, .slice a n c] 30)).alloc (.cells #[.string ⟨#[]⟩, .slice none 0 0] 30)).cell? ⟨w.heap.size, 1, none⟩ = some (.slice a n c) := by go_simp
  have hbl : BlankP ((w.alloc (.cells #[.string s, .slice a n c] 30)).alloc (.cells #[.string ⟨#[]⟩, .slice none 0 0] 30)) (w.heap.size + 1) := ⟨⟨by go_simp, by go_simp⟩, by go_simp, by go_simp⟩
  have hl1 : w.heap.size + 1 < ((w.alloc (.cells #[.string s, .slice a n c] 30)).alloc (.cells #[.string ⟨#[]⟩, .slice none 0 0] 30)).heap.size := by simp
  have HBA := Lib.hid hBA
  have HIA := Lib.hid (rings_kept hBA HI.out)
  go_enter Try.func15, Try.ntmps15
  go_wp2_with fail
  clear hBA
  generalize ((w.alloc (.cells #[.string s, .slice a n c] 30)).alloc (.cells #[.string ⟨#[]⟩, .slice none 0 0] 30)) = wA at *
  refine (implValidP_any s _ rs _ HIA.out hs).mono ?_
  rintro e w1 ⟨rfl, hb⟩
  rw [HP.out]
  have q0 := (below_cell hb _ _ (by omega)).trans z0
  have q1 := (below_cell hb _ _ (by omega)).trans z1
  have HBL := Lib.hid (blankP_kept hb hl1 hbl)
  have hl2 := Nat.lt_of_lt_of_le hl1 hb.size
  have HI1 := Lib.hid (rings_kept hb HIA.out)
  have HB := Lib.hid (below_of HBA.out hb HBA.out.size)
  clear hb hbl z0 z1
  obtain ⟨⟨b0, b1⟩, f0, f1⟩ := HBL.out
  go_wp2
  try simp only [Exit.inBlock, Exit.then]
  refine bodyPost_ret_by (v := .tuple #[.agg #[.string ⟨#[]⟩, .slice none 0 0], .int .i64 1]) (by rw [results_cellP rfl]; go_simp) rfl ?_
  refine ⟨_, rfl, .inl ⟨rfl, rfl⟩, ?_⟩
  exact (HB.out.setCell (by show _ ≤ w.heap.size + 1; omega) _).setCell (by show _ ≤ w.heap.size + 1; omega) _
set_option maxRecDepth 20000 in
set_option maxHeartbeats 4000000 in
theorem implFit_range1 (s : ByteArray) (a : Option Addr) (n c : Nat) (rs : List Rg) (num den : Int) (w : World) (hn : Hid (rs.length = n)) (HI : Hid (RingsAt w (.slice a n c) rs)) (hs : s.size ≤ maxLen) (HP : Hid (profB s rs = true)) (HM1 : Hid (okF num = false)) :
    Calls Try.prog 15 #[.agg #[.string s, .slice a n c], .int .i64 num, .int .i64 den] w (ProfU ⟨#[]⟩ [] 2 w) := by
  have hBA := ((Below.refl w.heap.size w).alloc (Nat.le_refl _) (.cells #[.string s, .slice a n c] 30)).alloc (by simp) (.cells #[.string ⟨#[]⟩, .slice none 0 0] 30)
  have z0 : ((w.alloc (.cells #[.string s, .slice a n c] 30)).alloc (.cells #[.string ⟨#[]⟩, .slice none 0 0] 30)).cell? ⟨w.heap.size, 0, none⟩ = some (.string s) := by go_simp
  have z1 : ((w.alloc (.cells #[.string s, .slice a n c] 30)).alloc (.cells #[.string ⟨#[]⟩, .slice none 0 0] 30)).cell? ⟨w.heap.size, 1, none⟩ = some (.slice a n c) := by go_simp
  have hbl : BlankP ((w.alloc (.cells #[.string s, .slice a n c] 30)).alloc (.cells #[.string ⟨#[]⟩, .slice none 0 0] 30)) (w.heap.size + 1) := ⟨⟨by go_simp, by go_simp⟩, by go_simp, by go_simp⟩
  have hl1 : w.heap.size + 1 < ((w.alloc (.cells #[.string s, .slice a n c] 30)).alloc (.cells #[.string ⟨#[]⟩, .slice none 0 0] 30)).heap.size := by simp
  have HBA := Lib.hid hBA
  have HIA := Lib.hid (rings_kept hBA HI.out)
  go_enter Try.func15, Try.ntmps15
  go_wp2_with fail
  clear hBA
  generalize ((w.alloc (.cells #[.string s, .slice a n c] 30)).alloc (.cells #[.string ⟨#[]⟩, .slice none 0 0] 30)) = wA at *
  refine (implValidP_any s _ rs _ HIA.out hs).mono ?_
  rintro e w1 ⟨rfl, hb⟩
  rw [HP.out]
  have q0 := (below_cell hb _ _ (by omega)).trans z0
  have q1 := (below_cell hb _ _ (by omega)).trans z1
  have HBL := Lib.hid (blankP_kept hb hl1 hbl)
  have hl2 := Nat.lt_of_lt_of_le hl1 hb.size
  have HI1 := Lib.hid (rings_kept hb HIA.out)
  have HB := Lib.hid (below_of HBA.out hb HBA.out.size)
  clear hb hbl z0 z1
  go_wp2_with fail
  refine (implIsFrequency_any num _).mono ?_
  rintro e w5 ⟨rfl, hal⟩
  rw [HM1.out]
  have HBL := Lib.hid (blankP_kept hal hl2 HBL.out)
  have HB := Lib.hid (below_of HB.out hal HB.out.size)
  have q0 := (below_cell hal _ _ (show w.heap.size < _ by omega)).trans q0
  have q1 := (below_cell hal _ _ (show w.heap.size < _ by omega)).trans q1
  have hl2 := Nat.lt_of_lt_of_le hl2 hal.size
  have HI1 := Lib.hid (rings_kept hal HI1.out)
  clear hal
  obtain ⟨⟨b0, b1⟩, f0, f1⟩ := HBL.out
  go_wp2
  try simp only [Exit.inBlock, Exit.then]
  refine bodyPost_ret_by (v := .tuple #[.agg #[.string ⟨#[]⟩, .slice none 0 0], .int .i64 2]) (by rw [results_cellP rfl]; go_simp) rfl ?_
  refine ⟨_, rfl, .inl ⟨rfl, rfl⟩, ?_⟩
  exact (HB.out.setCell (by show _ ≤ w.heap.size + 1; omega) _).setCell (by show _ ≤ w.heap.size + 1; omega) _
set_option maxRecDepth 20000 in
set_option maxHeartbeats 4000000 in
theorem implFit_range2 (s : ByteArray) (a : Option Addr) (n c : Nat) (rs : List Rg) (num den : Int) (w : World) (hn : Hid (rs.length = n)) (HI : Hid (RingsAt w (.slice a n c) rs)) (hs : s.size ≤ maxLen) (HP : Hid (profB s rs = true)) (HM1 : Hid (okF num = true)) (HM2 : Hid (okF den = false)) :
    Calls Try.prog 15 #[.agg #[.string s, .slice a n c], .int .i64 num, .int .i64 den] w (ProfU ⟨#[]⟩ [] 2 w) := by
  have hBA := ((Below.refl w.heap.size w).alloc (Nat.le_refl _) (.cells #[.string s, .slice a n c] 30)).alloc (by simp) (.cells #[.string ⟨#[]⟩, .slice none 0 0] 30)
  have z0 : ((w.alloc (.cells #[.string s, .slice a n c] 30)).alloc (.cells #[.string ⟨#[]⟩, .slice none 0 0] 30)).cell? ⟨w.heap.size, 0, none⟩ = some (.string s) := by go_simp
  have z1 : ((w.alloc (.cells #[.string s, .slice a n c] 30)).alloc (.cells #[.string ⟨#[]⟩, .slice none 0 0] 30)).cell? ⟨w.heap.size, 1, none⟩ = some (.slice a n c) := by go_simp
  have hbl : BlankP ((w.alloc (.cells #[.string s, .slice a n c] 30)).alloc (.cells #[.string ⟨#[]⟩, .slice none 0 0] 30)) (w.heap.size + 1) := ⟨⟨by go_simp, by go_simp⟩, by go_simp, by go_simp⟩
  have hl1 : w.heap.size + 1 < ((w.alloc (.cells #[.string s, .slice a n c] 30)).alloc (.cells #[.string ⟨#[]⟩, .slice none 0 0] 30)).heap.size := by simp
  have HBA := Lib.hid hBA
  have HIA := Lib.hid (rings_kept hBA HI.out)
  go_enter Try.func15, Try.ntmps15
  go_wp2_with fail
  clear hBA
  generalize ((w.alloc (.cells #[.string s, .slice a n c] 30)).alloc (.cells #[.string ⟨#[]⟩, .slice none 0 0] 30)) = wA at *
  refine (implValidP_any s _ rs _ HIA.out hs).mono ?_
  rintro e w1 ⟨rfl, hb⟩
  rw [HP.out]
  have q0 := (below_cell hb _ _ (by omega)).trans z0
  have q1 := (below_cell hb _ _ (by omega)).trans z1
  have HBL := Lib.hid (blankP_kept hb hl1 hbl)
  have hl2 := Nat.lt_of_lt_of_le hl1 hb.size
  have HI1 := Lib.hid (rings_kept hb HIA.out)
  have HB := Lib.hid (below_of HBA.out hb HBA.out.size)
  clear hb hbl z0 z1
  go_wp2_with fail
  refine (implIsFrequency_any num _).mono ?_
  rintro e w5 ⟨rfl, hal⟩
  rw [HM1.out]
  have HBL := Lib.hid (blankP_kept hal hl2 HBL.out)
  have HB := Lib.hid (below_of HB.out hal HB.out.size)
  have q0 := (below_cell hal _ _ (show w.heap.size < _ by omega)).trans q0
  have q1 := (below_cell hal _ _ (show w.heap.size < _ by omega)).trans q1
  have hl2 := Nat.lt_of_lt_of_le hl2 hal.size
  have HI1 := Lib.hid (rings_kept hal HI1.out)
  clear hal
  go_wp2_with fail
  refine (implIsFrequency_any den _).mono ?_
  rintro e w6 ⟨rfl, hal⟩
  rw [HM2.out]
  have HBL := Lib.hid (blankP_kept hal hl2 HBL.out)
  have HB := Lib.hid (below_of HB.out hal HB.out.size)
  have q0 := (below_cell hal _ _ (show w.heap.size < _ by omega)).trans q0
  have q1 := (below_cell hal _ _ (show w.heap.size < _ by omega)).trans q1
  have hl2 := Nat.lt_of_lt_of_le hl2 hal.size
  have HI1 := Lib.hid (rings_kept hal HI1.out)
  clear hal
  obtain ⟨⟨b0, b1⟩, f0, f1⟩ := HBL.out
  go_wp2
  try simp only [Exit.inBlock, Exit.then]
  refine bodyPost_ret_by (v := .tuple #[.agg #[.string ⟨#[]⟩, .slice none 0 0], .int .i64 2]) (by rw [results_cellP rfl]; go_simp) rfl ?_
  refine ⟨_, rfl, .inl ⟨rfl, rfl⟩, ?_⟩
  exact (HB.out.setCell (by show _ ≤ w.heap.size + 1; omega) _).setCell (by show _ ≤ w.heap.size + 1; omega) _
set_option maxRecDepth 20000 in
set_option maxHeartbeats 4000000 in
theorem implFit_main (s : ByteArray) (a : Option Addr) (n c : Nat) (rs : List Rg) (num den : Int) (w : World) (hn : Hid (rs.length = n)) (h1 : 1 ≤ n) (h32 : n ≤ 32) (HI : Hid (RingsAt w (.slice a n c) rs)) (hs : s.size ≤ maxLen) (HP : Hid (profB s rs = true)) (HM1 : Hid (okF num = true)) (HM2 : Hid (okF den = true)) :
    Calls Try.prog 15 #[.agg #[.string s, .slice a n c], .int .i64 num, .int .i64 den] w (ProfU (resS s (resC s (szL rs num den))) (resL (szL rs num den) (resC s (szL rs num den))) (resC s (szL rs num den)) w) := by
  have hsb1 := okF_iff.1 HM1.out
  have hsb2 := okF_iff.1 HM2.out
  have HVR := Lib.hid (fun i hi => prof_ring HP.out i hi)
  have hBA := ((Below.refl w.heap.size w).alloc (Nat.le_refl _) (.cells #[.string s, .slice a n c] 30)).alloc (by simp) (.cells #[.string ⟨#[]⟩, .slice none 0 0] 30)
  have z0 : ((w.alloc (.cells #[.string s, .slice a n c] 30)).alloc (.cells #[.string ⟨#[]⟩, .slice none 0 0] 30)).cell? ⟨w.heap.size, 0, none⟩ = some (.string s) := by go_simp
  have z1 : ((w.alloc (.cells #[.string s, .slice a n c] 30)).alloc (.cells #[.string ⟨#[]⟩, .slice none 0 0] 30)).cell? ⟨w.heap.size, 1, none⟩ = some (.slice a n c) := by go_simp
  have hbl : BlankP ((w.alloc (.cells #[.string s, .slice a n c] 30)).alloc (.cells #[.string ⟨#[]⟩, .slice none 0 0] 30)) (w.heap.size + 1) := ⟨⟨by go_simp, by go_simp⟩, by go_simp, by go_simp⟩
  have hl1 : w.heap.size + 1 < ((w.alloc (.cells #[.string s, .slice a n c] 30)).alloc (.cells #[.string ⟨#[]⟩, .slice none 0 0] 30)).heap.size := by simp
  have HBA := Lib.hid hBA
  have HIA := Lib.hid (rings_kept hBA HI.out)
  go_enter Try.func15, Try.ntmps15
  go_wp2_with fail
  clear hBA
  generalize ((w.alloc (.cells #[.string s, .slice a n c] 30)).alloc (.cells #[.string ⟨#[]⟩, .slice none 0 0] 30)) = wA at *
  refine (implValidP_any s _ rs _ HIA.out hs).mono ?_
  rintro e w1 ⟨rfl, hb⟩
  rw [HP.out]
  have q0 := (below_cell hb _ _ (by omega)).trans z0
  have q1 := (below_cell hb _ _ (by omega)).trans z1
  have HBL := Lib.hid (blankP_kept hb hl1 hbl)
  have hl2 := Nat.lt_of_lt_of_le hl1 hb.size
  have HI1 := Lib.hid (rings_kept hb HIA.out)
  have HB := Lib.hid (below_of HBA.out hb HBA.out.size)
  clear hb hbl z0 z1
  go_wp2_with fail
  refine (implIsFrequency_any num _).mono ?_
  rintro e w5 ⟨rfl, hal⟩
  rw [HM1.out]
  have HBL := Lib.hid (blankP_kept hal hl2 HBL.out)
  have HB := Lib.hid (below_of HB.out hal HB.out.size)
  have q0 := (below_cell hal _ _ (show w.heap.size < _ by omega)).trans q0
  have q1 := (below_cell hal _ _ (show w.heap.size < _ by omega)).trans q1
  have hl2 := Nat.lt_of_lt_of_le hl2 hal.size
  have HI1 := Lib.hid (rings_kept hal HI1.out)
  clear hal
  go_wp2_with fail
  refine (implIsFrequency_any den _).mono ?_
  rintro e w6 ⟨rfl, hal⟩
  rw [HM2.out]
  have HBL := Lib.hid (blankP_kept hal hl2 HBL.out)
  have HB := Lib.hid (below_of HB.out hal HB.out.size)
  have q0 := (below_cell hal _ _ (show w.heap.size < _ by omega)).trans q0
  have q1 := (below_cell hal _ _ (show w.heap.size < _ by omega)).trans q1
  have hl2 := Nat.lt_of_lt_of_le hl2 hal.size
  have HI1 := Lib.hid (rings_kept hal HI1.out)
  clear hal
  go_wp2_with fail
  refine (resized_any s a n c rs num den _ hn h1 h32 HI1 hs HVR (by omega) (by omega)).mono ?_
  rintro e w3 ⟨v3, rfl, hrv, hb3⟩
  obtain ⟨a3, c3, rfl⟩ := rv_form hrv
  have HIN := Lib.hid (rv_in hrv)
  have HRV := Lib.hid (rv_base hrv (show w.heap.size ≤ _ from HB.out.size))
  have HBF := Lib.hid (below_of HB.out hb3 HB.out.size)
  obtain ⟨⟨b0, b1⟩, f0, f1⟩ := blankP_kept hb3 hl2 HBL.out
  clear hb3 hrv
  generalize resS s (resC s (szL rs num den)) = S3 at *
  generalize resL (szL rs num den) (resC s (szL rs num den)) = L3 at *
  generalize resC s (szL rs num den) = C3 at *
  go_wp2
  try simp only [Exit.inBlock, Exit.then]
  refine bodyPost_ret_by (v := .tuple #[.agg #[.string S3, .slice a3 L3.length c3], .int .i64 C3]) (by rw [results_cellP rfl]; go_simp) rfl ?_
  refine ⟨_, rfl, ?_, (HBF.out.setCell (by show _ ≤ w.heap.size + 1; omega) _).setCell (by show _ ≤ w.heap.size + 1; omega) _⟩
  exact rv_set2Z HRV.out _ _ _ (fun k hk => by have := (HIN.out k hk).1; omega)
theorem implFit_any (s : ByteArray) (v : Value) (rs : List Rg) (num den : Int) (w : World) (h : RingsAt w v rs) (hs : s.size ≤ maxLen) :
    Calls Try.prog 15 #[.agg #[.string s, v], .int .i64 num, .int .i64 den] w (ProfU (resS s (fitC s rs num den)) (resL (szL rs num den) (fitC s rs num den)) (fitC s rs num den) w) := by
  have HI := Lib.hid h
  obtain ⟨a, c, rfl⟩ := rings_form h
  rcases Bool.eq_false_or_eq_true (profB s rs) with hp | hp
  · obtain ⟨-, ⟨n1, n2⟩, -, -⟩ := prof_iff.1 hp
    rcases Bool.eq_false_or_eq_true (okF num) with hq | hq
    · rcases Bool.eq_false_or_eq_true (okF den) with hr | hr
      · rw [fitC_3 hp hq hr]
        exact implFit_main s a rs.length c rs num den w (Lib.hid rfl) n1 n2 HI hs (Lib.hid hp) (Lib.hid hq) (Lib.hid hr)
      · rw [fitC_2 hp (fun h => by rw [hr] at h; exact absurd h.2 (by simp))]
        exact implFit_range2 s a rs.length c rs num den w (Lib.hid rfl) HI hs (Lib.hid hp) (Lib.hid hq) (Lib.hid hr)
    · rw [fitC_2 hp (fun h => by rw [hq] at h; exact absurd h.1 (by simp))]
      exact implFit_range1 s a rs.length c rs num den w (Lib.hid rfl) HI hs (Lib.hid hp) (Lib.hid hq)
  · rw [fitC_1 hp]
    exact implFit_bad s a rs.length c rs num den w (Lib.hid rfl) HI hs (Lib.hid hp)
end Go.Proofs.Ytndmakimkghihab
