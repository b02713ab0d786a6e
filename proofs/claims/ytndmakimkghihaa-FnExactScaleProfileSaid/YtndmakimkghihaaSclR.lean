/- A profile of another size: both programs' answers. -/
import Derived.Test.YtndmakimkghihaaSclSpec
import Derived.Test.YtndmakimkghihaaSizI
set_option linter.unusedVariables false
namespace Go.Proofs.Ytndmakimkghihaa
open Go.ChangeShapes Go.WideShapes Go.ChangeAt Go.RowKit

theorem rv_set2Z {w : World} {B : Nat} {v : Value} {zs : List Rg} (h : Rv w B v zs) (b : Nat) (x y : Value) (hne : ∀ k, v.ownBlock = some k → k ≠ b) : Rv ((w.setCell ⟨b, 0, none⟩ x).setCell ⟨b, 1, none⟩ y) B v zs := by
  have e : ∀ (w : World) (k : Nat) (z : Value), w.grownBy (w.setCell ⟨b, k, none⟩ z) (some b) := fun w k z => gb_set _ _ (gb_refl w (some b))
  have hne2 : v.ownBlock = none ∨ v.ownBlock ≠ some b := by
    cases hv : v.ownBlock with
    | none => exact .inl rfl
    | some k => exact .inr fun h => hne k hv (Option.some.inj h)
  exact rv_grown (e _ _ _) (rv_grown (e _ _ _) h hne2) hne2
def scB (a b : Int) : Bool := inB a 1 1000 && inB b 1 1000
theorem sc_iff {a b : Int} : scB a b = true ↔ (1 ≤ a ∧ a ≤ 1000) ∧ (1 ≤ b ∧ b ≤ 1000) := by simp [scB, inB_iff]
theorem l07Scale_any (a b : Int) (w : World) : Calls Try.prog 106 #[.int .i64 a, .int .i64 b] w fun e w' => e = .returned (.bool (scB a b)) ∧ w = w' := by
  rcases Bool.eq_false_or_eq_true (inB a 1 1000) with h | h
  · have HR := Lib.hid (show scB a b = inB b 1 1000 by unfold scB; rw [h]; rfl)
    go_enter Try.func106, Try.ntmps106
    go_wp2_with fail
    refine (l00In_any a 1 1000 _).mono ?_
    rintro e w' ⟨rfl, rfl⟩
    rw [h]
    go_wp2_with (go_at_call 89; refine (l00In_any b 1 1000 _).mono ?_; rintro e w' ⟨rfl, rfl⟩)
    go_ret
    exact ⟨ret_bool HR.out.symm, rfl⟩
  · have HR := Lib.hid (show scB a b = false by unfold scB; rw [h]; rfl)
    go_enter Try.func106, Try.ntmps106
    go_wp2_with fail
    refine (l00In_any a 1 1000 _).mono ?_
    rintro e w' ⟨rfl, rfl⟩
    rw [h]
    go_wp2
    go_ret
    exact ⟨ret_bool HR.out.symm, rfl⟩
theorem areScales_any (a b : Int) (w : World) (g : Nat) (h : ∀ j, j < 2 → w.cell? ⟨g, 0 + j, none⟩ = some (.int .i64 ([a, b].getD j 0))) : Calls Try.prog 110 #[.slice (some ⟨g, 0, none⟩) 2 2] w fun e w' => e = .returned (.bool (scB a b)) ∧ w = w' := by
  have HS := Lib.hid (show allIn 1 1000 [a, b] = scB a b by simp [allIn, scB])
  have HW := Lib.hid (within_i64 1 1000 [a, b] g 0 2 2 w rfl (by omega) h)
  go_enter Try.func110, Try.ntmps110
  go_wp2_with fail
  refine HW.out.mono ?_
  rintro e w' ⟨rfl, rfl⟩
  rw [HS.out]
  go_wp2
  go_ret
  exact ⟨rfl, rfl⟩

def sclC (s : ByteArray) (rs : List Rg) (num den : Int) : Int := if profB s rs = true then (if scB num den = true then resC s (szL rs num den) else 2) else 1
theorem sclC_1 {s : ByteArray} {rs : List Rg} {num den : Int} (h : profB s rs = false) : sclC s rs num den = 1 := by unfold sclC; rw [h]; rfl
theorem sclC_2 {s : ByteArray} {rs : List Rg} {num den : Int} (h : profB s rs = true) (h2 : scB num den = false) : sclC s rs num den = 2 := by unfold sclC; rw [if_pos h, h2]; rfl
theorem sclC_3 {s : ByteArray} {rs : List Rg} {num den : Int} (h : profB s rs = true) (h2 : scB num den = true) : sclC s rs num den = resC s (szL rs num den) := by unfold sclC; rw [if_pos h, if_pos h2]
theorem scl_len (s : ByteArray) (rs : List Rg) (num den : Int) : (resL (szL rs num den) (sclC s rs num den)).length ≤ 64 := by
  rcases Bool.eq_false_or_eq_true (profB s rs) with h | h
  · have h2 := (prof_iff.1 h).2.1.2
    exact resL_len _ _ (by rw [szL_len]; omega)
  · rw [sclC_1 h]; simp [resL]
/-- What the program's method answers, in the reference model's words. -/
theorem resized_any (s : ByteArray) (a : Option Addr) (n c : Nat) (rs : List Rg) (num den : Int) (w : World) (hn : Hid (rs.length = n)) (h1 : 1 ≤ n) (h32 : n ≤ 32) (HI : Hid (RingsAt w (.slice a n c) rs)) (hs : s.size ≤ maxLen) (HVR : Hid (∀ i, i < rs.length → ringB (rs.getD i zR) = true)) (hnum : 1 ≤ num ∧ num ≤ 20000000) (hden : 1 ≤ den ∧ den ≤ 20000000) :
    Calls Try.prog 111 #[.agg #[.string s, .slice a n c], .int .i64 num, .int .i64 den] w (ProfU (resS s (resC s (szL rs num den))) (resL (szL rs num den) (resC s (szL rs num den))) (resC s (szL rs num den)) w) := by
  have e : szL rs num den = rs.map (szf num den) := rfl
  rw [e]
  rcases Bool.eq_false_or_eq_true (profB s (rs.map (szf num den))) with h | h
  · rw [show resC s (rs.map (szf num den)) = 0 by unfold resC; rw [if_pos h]]
    exact resized_yes s a n c rs num den w hn h1 h32 HI hs HVR hnum hden (Lib.hid h)
  · rw [show resC s (rs.map (szf num den)) = 6 by unfold resC; rw [h]; rfl]
    exact resized_no s a n c rs num den w hn h1 h32 HI hs HVR hnum hden (Lib.hid h)
set_option maxRecDepth 20000 in
set_option maxHeartbeats 4000000 in
theorem specScl_bad (s : ByteArray) (a : Option Addr) (n c : Nat) (rs : List Rg) (num den : Int) (w : World) (hn : Hid (rs.length = n)) (HI : Hid (RingsAt w (.slice a n c) rs)) (hs : s.size ≤ maxLen) (HP : Hid (profB s rs = false)) :
    Calls Try.prog 50 #[.agg #[.string s, .slice a n c], .int .i64 num, .int .i64 den] w (ProfU ⟨#[]⟩ [] 1 w) := by
  have hBA := ((Below.refl w.heap.size w).alloc (Nat.le_refl _) (.cells #[.string s, .slice a n c] 48)).alloc (by simp) (.cells #[.string ⟨#[]⟩, .slice none 0 0] 48)
  have z0 : ((w.alloc (.cells #[.string s, .slice a n c] 48)).alloc (.cells #[.string ⟨#[]⟩, .slice none 0 0] 48)).cell? ⟨w.heap.size, 0, none⟩ = some (.string s) := by go_simp
  have z1 : ((w.alloc (.cells #[.string s, .slice a n c] 48)).alloc (.cells #[.string ⟨#[]⟩, .slice none 0 0] 48)).cell? ⟨w.heap.size, 1, none⟩ = some (.slice a n c) := by go_simp
  have hbl : BlankP ((w.alloc (.cells #[.string s, .slice a n c] 48)).alloc (.cells #[.string ⟨#[]⟩, .slice none 0 0] 48)) (w.heap.size + 1) := ⟨⟨by go_simp, by go_simp⟩, by go_simp, by go_simp⟩
  have hl1 : w.heap.size + 1 < ((w.alloc (.cells #[.string s, .slice a n c] 48)).alloc (.cells #[.string ⟨#[]⟩, .slice none 0 0] 48)).heap.size := by simp
  have HBA := Lib.hid hBA
  have HIA := Lib.hid (rings_kept hBA HI.out)
  go_enter Try.func50, Try.ntmps50
  go_wp2_with fail
  clear hBA
  generalize ((w.alloc (.cells #[.string s, .slice a n c] 48)).alloc (.cells #[.string ⟨#[]⟩, .slice none 0 0] 48)) = wA at *
  refine (l05Ok_any _ s _ rs _ ⟨z0, z1⟩ HIA.out hs).mono ?_
  rintro e w1 ⟨rfl, hb⟩
  rw [HP.out]
  have q0 := (below_cell hb _ _ (by omega)).trans z0
  have q1 := (below_cell hb _ _ (by omega)).trans z1
  have HBL := Lib.hid (blankP_kept hb hl1 hbl)
  have hl2 := Nat.lt_of_lt_of_le hl1 hb.size
  have HI1 := Lib.hid (rings_kept hb HIA.out)
  have HB := Lib.hid (below_of HBA.out hb HBA.out.size)
  clear hb hbl z0 z1
  obtain ⟨⟨b0, b1⟩, f0, f1⟩ := HBL.out
  go_wp2
  try simp only [Exit.inBlock, Exit.then]
  refine bodyPost_ret_by (v := .tuple #[.agg #[.string ⟨#[]⟩, .slice none 0 0], .int .i64 1]) (by rw [results_cellP rfl]; go_simp) rfl ?_
  refine ⟨_, rfl, .inl ⟨rfl, rfl⟩, ?_⟩
  exact (HB.out.setCell (by show _ ≤ w.heap.size + 1; omega) _).setCell (by show _ ≤ w.heap.size + 1; omega) _
set_option maxRecDepth 20000 in
set_option maxHeartbeats 4000000 in
theorem specScl_range (s : ByteArray) (a : Option Addr) (n c : Nat) (rs : List Rg) (num den : Int) (w : World) (hn : Hid (rs.length = n)) (HI : Hid (RingsAt w (.slice a n c) rs)) (hs : s.size ≤ maxLen) (HP : Hid (profB s rs = true)) (HM : Hid (scB num den = false)) :
    Calls Try.prog 50 #[.agg #[.string s, .slice a n c], .int .i64 num, .int .i64 den] w (ProfU ⟨#[]⟩ [] 2 w) := by
  have hBA := ((Below.refl w.heap.size w).alloc (Nat.le_refl _) (.cells #[.string s, .slice a n c] 48)).alloc (by simp) (.cells #[.string ⟨#[]⟩, .slice none 0 0] 48)
  have z0 : ((w.alloc (.cells #[.string s, .slice a n c] 48)).alloc (.cells #[.string ⟨#[]⟩, .slice none 0 0] 48)).cell? ⟨w.heap.size, 0, none⟩ = some (.string s) := by go_simp
  have z1 : ((w.alloc (.cells #[.string s, .slice a n c] 48)).alloc (.cells #[.string ⟨#[]⟩, .slice none 0 0] 48)).cell? ⟨w.heap.size, 1, none⟩ = some (.slice a n c) := by go_simp
  have hbl : BlankP ((w.alloc (.cells #[.string s, .slice a n c] 48)).alloc (.cells #[.string ⟨#[]⟩, .slice none 0 0] 48)) (w.heap.size + 1) := ⟨⟨by go_simp, by go_simp⟩, by go_simp, by go_simp⟩
  have hl1 : w.heap.size + 1 < ((w.alloc (.cells #[.string s, .slice a n c] 48)).alloc (.cells #[.string ⟨#[]⟩, .slice none 0 0] 48)).heap.size := by simp
  have HBA := Lib.hid hBA
  have HIA := Lib.hid (rings_kept hBA HI.out)
  go_enter Try.func50, Try.ntmps50
  go_wp2_with fail
  clear hBA
  generalize ((w.alloc (.cells #[.string s, .slice a n c] 48)).alloc (.cells #[.string ⟨#[]⟩, .slice none 0 0] 48)) = wA at *
  refine (l05Ok_any _ s _ rs _ ⟨z0, z1⟩ HIA.out hs).mono ?_
  rintro e w1 ⟨rfl, hb⟩
  rw [HP.out]
  have q0 := (below_cell hb _ _ (by omega)).trans z0
  have q1 := (below_cell hb _ _ (by omega)).trans z1
  have HBL := Lib.hid (blankP_kept hb hl1 hbl)
  have hl2 := Nat.lt_of_lt_of_le hl1 hb.size
  have HI1 := Lib.hid (rings_kept hb HIA.out)
  have HB := Lib.hid (below_of HBA.out hb HBA.out.size)
  clear hb hbl z0 z1
  go_wp2_with fail
  refine (l07Scale_any num den _).mono ?_
  rintro e w' ⟨rfl, rfl⟩
  rw [HM.out]
  obtain ⟨⟨b0, b1⟩, f0, f1⟩ := HBL.out
  go_wp2
  try simp only [Exit.inBlock, Exit.then]
  refine bodyPost_ret_by (v := .tuple #[.agg #[.string ⟨#[]⟩, .slice none 0 0], .int .i64 2]) (by rw [results_cellP rfl]; go_simp) rfl ?_
  refine ⟨_, rfl, .inl ⟨rfl, rfl⟩, ?_⟩
  exact (HB.out.setCell (by show _ ≤ w.heap.size + 1; omega) _).setCell (by show _ ≤ w.heap.size + 1; omega) _
set_option maxRecDepth 20000 in
set_option maxHeartbeats 4000000 in
theorem specScl_yes (s : ByteArray) (a : Option Addr) (n c : Nat) (rs : List Rg) (num den : Int) (w : World) (hn : Hid (rs.length = n)) (h1 : 1 ≤ n) (h32 : n ≤ 32) (HI : Hid (RingsAt w (.slice a n c) rs)) (hs : s.size ≤ maxLen) (HP : Hid (profB s rs = true)) (HM : Hid (scB num den = true)) (HQ : Hid (profB s (szL rs num den) = true)) :
    Calls Try.prog 50 #[.agg #[.string s, .slice a n c], .int .i64 num, .int .i64 den] w (ProfU s (szL rs num den) 0 w) := by
  have hsb := sc_iff.1 HM.out
  have HVR := Lib.hid (fun i hi => prof_ring HP.out i hi)
  have HML := Lib.hid (show (szL rs num den).length = n by rw [szL_len]; exact hn.out)
  have hBA := ((Below.refl w.heap.size w).alloc (Nat.le_refl _) (.cells #[.string s, .slice a n c] 48)).alloc (by simp) (.cells #[.string ⟨#[]⟩, .slice none 0 0] 48)
  have z0 : ((w.alloc (.cells #[.string s, .slice a n c] 48)).alloc (.cells #[.string ⟨#[]⟩, .slice none 0 0] 48)).cell? ⟨w.heap.size, 0, none⟩ = some (.string s) := by go_simp
  have z1 : ((w.alloc (.cells #[.string s, .slice a n c] 48)).alloc (.cells #[.string ⟨#[]⟩, .slice none 0 0] 48)).cell? ⟨w.heap.size, 1, none⟩ = some (.slice a n c) := by go_simp
  have hbl : BlankP ((w.alloc (.cells #[.string s, .slice a n c] 48)).alloc (.cells #[.string ⟨#[]⟩, .slice none 0 0] 48)) (w.heap.size + 1) := ⟨⟨by go_simp, by go_simp⟩, by go_simp, by go_simp⟩
  have hl1 : w.heap.size + 1 < ((w.alloc (.cells #[.string s, .slice a n c] 48)).alloc (.cells #[.string ⟨#[]⟩, .slice none 0 0] 48)).heap.size := by simp
  have HBA := Lib.hid hBA
  have HIA := Lib.hid (rings_kept hBA HI.out)
  go_enter Try.func50, Try.ntmps50
  go_wp2_with fail
  clear hBA
  generalize ((w.alloc (.cells #[.string s, .slice a n c] 48)).alloc (.cells #[.string ⟨#[]⟩, .slice none 0 0] 48)) = wA at *
  refine (l05Ok_any _ s _ rs _ ⟨z0, z1⟩ HIA.out hs).mono ?_
  rintro e w1 ⟨rfl, hb⟩
  rw [HP.out]
  have q0 := (below_cell hb _ _ (by omega)).trans z0
  have q1 := (below_cell hb _ _ (by omega)).trans z1
  have HBL := Lib.hid (blankP_kept hb hl1 hbl)
  have hl2 := Nat.lt_of_lt_of_le hl1 hb.size
  have HI1 := Lib.hid (rings_kept hb HIA.out)
  have HB := Lib.hid (below_of HBA.out hb HBA.out.size)
  clear hb hbl z0 z1
  go_wp2_with fail
  refine (l07Scale_any num den _).mono ?_
  rintro e w' ⟨rfl, rfl⟩
  rw [HM.out]
  go_wp2_with fail
  obtain ⟨b, off, rfl, hbl, hri⟩ := rings_lieO hn.out h1 HI1.out
  refine (l07Sized_any w.heap.size b off n c s rs num den w1 hn.out h1 h32 (by omega) hbl ⟨q0, q1⟩ (fun i hi => ⟨(hri i hi).c0, (hri i hi).c1, (hri i hi).c2⟩) HVR.out (by omega) (by omega) (by omega) (by omega)).mono ?_
  rintro e w2 ⟨g, cap, rfl, hg0, hrow, hb2⟩
  have HRV := Lib.hid (show Rv w2 w1.heap.size (.slice (some ⟨g, 0, none⟩) n cap) (szL rs num den) from .inr ⟨g, cap, by rw [HML.out], hg0, by rw [HML.out]; exact hrow⟩)
  have HBL := Lib.hid (blankP_kept hb2 hl2 HBL.out)
  have HB := Lib.hid (below_of HB.out hb2 HB.out.size)
  have hl2 := Nat.lt_of_lt_of_le hl2 hb2.size
  clear hrow hb2 hri
  generalize szL rs num den = l at *
  have HRR := Lib.hid (rv_rings (by rw [HML.out]; omega) HRV.out)
  go_wp2_with fail
  refine (l07Done_any s _ l w2 HRR.out hs).mono ?_
  rintro e w3 ⟨rfl, hb3⟩
  rw [HQ.out, if_pos rfl, show resC s l = 0 from by unfold resC; rw [HQ.out]; rfl, show resS s 0 = s from rfl]
  have HBF := Lib.hid (below_of HB.out hb3 HB.out.size)
  have HRV3 := Lib.hid (rv_kept hb3 HRV.out)
  obtain ⟨⟨b0, b1⟩, f0, f1⟩ := blankP_kept hb3 hl2 HBL.out
  clear hb3
  try skip
  go_wp2
  try simp only [Exit.inBlock, Exit.then]
  refine bodyPost_ret_by (v := .tuple #[.agg #[.string s, .slice (some ⟨g, 0, none⟩) n cap], .int .i64 0]) (by rw [results_cellP rfl]; go_simp) rfl ?_
  refine ⟨_, rfl, ?_, (HBF.out.setCell (by show _ ≤ w.heap.size + 1; omega) _).setCell (by show _ ≤ w.heap.size + 1; omega) _⟩
  exact rv_set2Z (rv_base HRV3.out (show w.heap.size ≤ w1.heap.size by omega)) _ _ _ (fun k hk => by have := (rv_in HRV3.out k hk).1; omega)
set_option maxRecDepth 20000 in
set_option maxHeartbeats 4000000 in
theorem specScl_no (s : ByteArray) (a : Option Addr) (n c : Nat) (rs : List Rg) (num den : Int) (w : World) (hn : Hid (rs.length = n)) (h1 : 1 ≤ n) (h32 : n ≤ 32) (HI : Hid (RingsAt w (.slice a n c) rs)) (hs : s.size ≤ maxLen) (HP : Hid (profB s rs = true)) (HM : Hid (scB num den = true)) (HQ : Hid (profB s (szL rs num den) = false)) :
    Calls Try.prog 50 #[.agg #[.string s, .slice a n c], .int .i64 num, .int .i64 den] w (ProfU ⟨#[]⟩ [] 6 w) := by
  have hsb := sc_iff.1 HM.out
  have HVR := Lib.hid (fun i hi => prof_ring HP.out i hi)
  have HML := Lib.hid (show (szL rs num den).length = n by rw [szL_len]; exact hn.out)
  have hBA := ((Below.refl w.heap.size w).alloc (Nat.le_refl _) (.cells #[.string s, .slice a n c] 48)).alloc (by simp) (.cells #[.string ⟨#[]⟩, .slice none 0 0] 48)
  have z0 : ((w.alloc (.cells #[.string s, .slice a n c] 48)).alloc (.cells #[.string ⟨#[]⟩, .slice none 0 0] 48)).cell? ⟨w.heap.size, 0, none⟩ = some (.string s) := by go_simp
  have z1 : ((w.alloc (.cells #[.string s, .slice a n c] 48)).alloc (.cells #[.string ⟨#[]⟩, .slice none 0 0] 48)).cell? ⟨w.heap.size, 1, none⟩ = some (.slice a n c) := by go_simp
  have hbl : BlankP ((w.alloc (.cells #[.string s, .slice a n c] 48)).alloc (.cells #[.string ⟨#[]⟩, .slice none 0 0] 48)) (w.heap.size + 1) := ⟨⟨by go_simp, by go_simp⟩, by go_simp, by go_simp⟩
  have hl1 : w.heap.size + 1 < ((w.alloc (.cells #[.string s, .slice a n c] 48)).alloc (.cells #[.string ⟨#[]⟩, .slice none 0 0] 48)).heap.size := by simp
  have HBA := Lib.hid hBA
  have HIA := Lib.hid (rings_kept hBA HI.out)
  go_enter Try.func50, Try.ntmps50
  go_wp2_with fail
  clear hBA
  generalize ((w.alloc (.cells #[.string s, .slice a n c] 48)).alloc (.cells #[.string ⟨#[]⟩, .slice none 0 0] 48)) = wA at *
  refine (l05Ok_any _ s _ rs _ ⟨z0, z1⟩ HIA.out hs).mono ?_
  rintro e w1 ⟨rfl, hb⟩
  rw [HP.out]
  have q0 := (below_cell hb _ _ (by omega)).trans z0
  have q1 := (below_cell hb _ _ (by omega)).trans z1
  have HBL := Lib.hid (blankP_kept hb hl1 hbl)
  have hl2 := Nat.lt_of_lt_of_le hl1 hb.size
  have HI1 := Lib.hid (rings_kept hb HIA.out)
  have HB := Lib.hid (below_of HBA.out hb HBA.out.size)
  clear hb hbl z0 z1
  go_wp2_with fail
  refine (l07Scale_any num den _).mono ?_
  rintro e w' ⟨rfl, rfl⟩
  rw [HM.out]
  go_wp2_with fail
  obtain ⟨b, off, rfl, hbl, hri⟩ := rings_lieO hn.out h1 HI1.out
  refine (l07Sized_any w.heap.size b off n c s rs num den w1 hn.out h1 h32 (by omega) hbl ⟨q0, q1⟩ (fun i hi => ⟨(hri i hi).c0, (hri i hi).c1, (hri i hi).c2⟩) HVR.out (by omega) (by omega) (by omega) (by omega)).mono ?_
  rintro e w2 ⟨g, cap, rfl, hg0, hrow, hb2⟩
  have HRV := Lib.hid (show Rv w2 w1.heap.size (.slice (some ⟨g, 0, none⟩) n cap) (szL rs num den) from .inr ⟨g, cap, by rw [HML.out], hg0, by rw [HML.out]; exact hrow⟩)
  have HBL := Lib.hid (blankP_kept hb2 hl2 HBL.out)
  have HB := Lib.hid (below_of HB.out hb2 HB.out.size)
  have hl2 := Nat.lt_of_lt_of_le hl2 hb2.size
  clear hrow hb2 hri
  generalize szL rs num den = l at *
  have HRR := Lib.hid (rv_rings (by rw [HML.out]; omega) HRV.out)
  go_wp2_with fail
  refine (l07Done_any s _ l w2 HRR.out hs).mono ?_
  rintro e w3 ⟨rfl, hb3⟩
  rw [HQ.out, show resC s l = 6 from by unfold resC; rw [HQ.out]; rfl, show resS s 6 = ⟨#[]⟩ from rfl]
  have HBF := Lib.hid (below_of HB.out hb3 HB.out.size)
  have HRV3 := Lib.hid (rv_kept hb3 HRV.out)
  obtain ⟨⟨b0, b1⟩, f0, f1⟩ := blankP_kept hb3 hl2 HBL.out
  clear hb3
  try skip
  go_wp2
  try simp only [Exit.inBlock, Exit.then]
  refine bodyPost_ret_by (v := .tuple #[.agg #[.string ⟨#[]⟩, .slice none 0 0], .int .i64 6]) (by rw [results_cellP rfl]; go_simp) rfl ?_
  refine ⟨_, rfl, .inl ⟨rfl, rfl⟩, ?_⟩
  exact (HBF.out.setCell (by show _ ≤ w.heap.size + 1; omega) _).setCell (by show _ ≤ w.heap.size + 1; omega) _
theorem specScl_main (s : ByteArray) (a : Option Addr) (n c : Nat) (rs : List Rg) (num den : Int) (w : World) (hn : Hid (rs.length = n)) (h1 : 1 ≤ n) (h32 : n ≤ 32) (HI : Hid (RingsAt w (.slice a n c) rs)) (hs : s.size ≤ maxLen) (HP : Hid (profB s rs = true)) (HM : Hid (scB num den = true)) :
    Calls Try.prog 50 #[.agg #[.string s, .slice a n c], .int .i64 num, .int .i64 den] w (ProfU (resS s (resC s (szL rs num den))) (resL (szL rs num den) (resC s (szL rs num den))) (resC s (szL rs num den)) w) := by
  rcases Bool.eq_false_or_eq_true (profB s (szL rs num den)) with h | h
  · rw [show resC s (szL rs num den) = 0 by unfold resC; rw [if_pos h]]
    exact specScl_yes s a n c rs num den w hn h1 h32 HI hs HP HM (Lib.hid h)
  · rw [show resC s (szL rs num den) = 6 by unfold resC; rw [h]; rfl]
    exact specScl_no s a n c rs num den w hn h1 h32 HI hs HP HM (Lib.hid h)
theorem specScl_any (s : ByteArray) (v : Value) (rs : List Rg) (num den : Int) (w : World) (h : RingsAt w v rs) (hs : s.size ≤ maxLen) :
    Calls Try.prog 50 #[.agg #[.string s, v], .int .i64 num, .int .i64 den] w (ProfU (resS s (sclC s rs num den)) (resL (szL rs num den) (sclC s rs num den)) (sclC s rs num den) w) := by
  have HI := Lib.hid h
  obtain ⟨a, c, rfl⟩ := rings_form h
  rcases Bool.eq_false_or_eq_true (profB s rs) with hp | hp
  · obtain ⟨-, ⟨n1, n2⟩, -, -⟩ := prof_iff.1 hp
    rcases Bool.eq_false_or_eq_true (scB num den) with hq | hq
    · rw [sclC_3 hp hq]
      exact specScl_main s a rs.length c rs num den w (Lib.hid rfl) n1 n2 HI hs (Lib.hid hp) (Lib.hid hq)
    · rw [sclC_2 hp hq]
      exact specScl_range s a rs.length c rs num den w (Lib.hid rfl) HI hs (Lib.hid hp) (Lib.hid hq)
  · rw [sclC_1 hp]
    exact specScl_bad s a rs.length c rs num den w (Lib.hid rfl) HI hs (Lib.hid hp)
set_option maxRecDepth 20000 in
set_option maxHeartbeats 4000000 in
theorem implScl_bad (s : ByteArray) (a : Option Addr) (n c : Nat) (rs : List Rg) (num den : Int) (w : World) (hn : Hid (rs.length = n)) (HI : Hid (RingsAt w (.slice a n c) rs)) (hs : s.size ≤ maxLen) (HP : Hid (profB s rs = false)) :
    Calls Try.prog 51 #[.agg #[.string s, .slice a n c], .int .i64 num, .int .i64 den] w (ProfU ⟨#[]⟩ [] 1 w) := by
  have hBA := ((Below.refl w.heap.size w).alloc (Nat.le_refl _) (.cells #[.string s, .slice a n c] 48)).alloc (by simp) (.cells #[.string ⟨#[]⟩, .slice none 0 0] 48)
  have z0 : ((w.alloc (.cells #[.string s, .slice a n c] 48)).alloc (.cells #[.string ⟨#[]⟩, .slice none 0 0] 48)).cell? ⟨w.heap.size, 0, none⟩ = some (.string s) := by go_simp
  have z1 : ((w.alloc (.cells #[.string s, .slice a n c] 48)).alloc (.cells #[.string ⟨#[]⟩, .slice none 0 0] 48)).cell? ⟨w.heap.size, 1, none⟩ = some (.slice a n c) := by go_simp
  have hbl : BlankP ((w.alloc (.cells #[.string s, .slice a n c] 48)).alloc (.cells #[.string ⟨#[]⟩, .slice none 0 0] 48)) (w.heap.size + 1) := ⟨⟨by go_simp, by go_simp⟩, by go_simp, by go_simp⟩
  have hl1 : w.heap.size + 1 < ((w.alloc (.cells #[.string s, .slice a n c] 48)).alloc (.cells #[.string ⟨#[]⟩, .slice none 0 0] 48)).heap.size := by simp
  have HBA := Lib.hid hBA
  have HIA := Lib.hid (rings_kept hBA HI.out)
  go_enter Try.func51, Try.ntmps51
  go_wp2_with fail
  clear hBA
  generalize ((w.alloc (.cells #[.string s, .slice a n c] 48)).alloc (.cells #[.string ⟨#[]⟩, .slice none 0 0] 48)) = wA at *
  refine (implValidP_any s _ rs _ HIA.out hs).mono ?_
  rintro e w1 ⟨rfl, hb⟩
  rw [HP.out]
  have q0 := (below_cell hb _ _ (by omega)).trans z0
  have q1 := (below_cell hb _ _ (by omega)).trans z1
  have HBL := Lib.hid (blankP_kept hb hl1 hbl)
  have hl2 := Nat.lt_of_lt_of_le hl1 hb.size
  have HI1 := Lib.hid (rings_kept hb HIA.out)
  have HB := Lib.hid (below_of HBA.out hb HBA.out.size)
  clear hb hbl z0 z1
  obtain ⟨⟨b0, b1⟩, f0, f1⟩ := HBL.out
  go_wp2
  try simp only [Exit.inBlock, Exit.then]
  refine bodyPost_ret_by (v := .tuple #[.agg #[.string ⟨#[]⟩, .slice none 0 0], .int .i64 1]) (by rw [results_cellP rfl]; go_simp) rfl ?_
  refine ⟨_, rfl, .inl ⟨rfl, rfl⟩, ?_⟩
  exact (HB.out.setCell (by show _ ≤ w.heap.size + 1; omega) _).setCell (by show _ ≤ w.heap.size + 1; omega) _
set_option maxRecDepth 20000 in
set_option maxHeartbeats 4000000 in
theorem implScl_range (s : ByteArray) (a : Option Addr) (n c : Nat) (rs : List Rg) (num den : Int) (w : World) (hn : Hid (rs.length = n)) (HI : Hid (RingsAt w (.slice a n c) rs)) (hs : s.size ≤ maxLen) (HP : Hid (profB s rs = true)) (HM : Hid (scB num den = false)) :
    Calls Try.prog 51 #[.agg #[.string s, .slice a n c], .int .i64 num, .int .i64 den] w (ProfU ⟨#[]⟩ [] 2 w) := by
  have hBA := ((Below.refl w.heap.size w).alloc (Nat.le_refl _) (.cells #[.string s, .slice a n c] 48)).alloc (by simp) (.cells #[.string ⟨#[]⟩, .slice none 0 0] 48)
  have z0 : ((w.alloc (.cells #[.string s, .slice a n c] 48)).alloc (.cells #[.string ⟨#[]⟩, .slice none 0 0] 48)).cell? ⟨w.heap.size, 0, none⟩ = some (.string s) := by go_simp
  have z1 : ((w.alloc (.cells #[.string s, .slice a n c] 48)).alloc (.cells #[.string ⟨#[]⟩, .slice none 0 0] 48)).cell? ⟨w.heap.size, 1, none⟩ = some (.slice a n c) := by go_simp
  have hbl : BlankP ((w.alloc (.cells #[.string s, .slice a n c] 48)).alloc (.cells #[.string ⟨#[]⟩, .slice none 0 0] 48)) (w.heap.size + 1) := ⟨⟨by go_simp, by go_simp⟩, by go_simp, by go_simp⟩
  have hl1 : w.heap.size + 1 < ((w.alloc (.cells #[.string s, .slice a n c] 48)).alloc (.cells #[.string ⟨#[]⟩, .slice none 0 0] 48)).heap.size := by simp
  have HBA := Lib.hid hBA
  have HIA := Lib.hid (rings_kept hBA HI.out)
  go_enter Try.func51, Try.ntmps51
  go_wp2_with fail
  clear hBA
  generalize ((w.alloc (.cells #[.string s, .slice a n c] 48)).alloc (.cells #[.string ⟨#[]⟩, .slice none 0 0] 48)) = wA at *
  refine (implValidP_any s _ rs _ HIA.out hs).mono ?_
  rintro e w1 ⟨rfl, hb⟩
  rw [HP.out]
  have q0 := (below_cell hb _ _ (by omega)).trans z0
  have q1 := (below_cell hb _ _ (by omega)).trans z1
  have HBL := Lib.hid (blankP_kept hb hl1 hbl)
  have hl2 := Nat.lt_of_lt_of_le hl1 hb.size
  have HI1 := Lib.hid (rings_kept hb HIA.out)
  have HB := Lib.hid (below_of HBA.out hb HBA.out.size)
  clear hb hbl z0 z1
  have hal := below_al w1 (.cells #[.int .i64 num, .int .i64 den] 2)
  have HSC := Lib.hid (areScales_any num den (w1.alloc (.cells #[.int .i64 num, .int .i64 den] 2)) w1.heap.size (fun j hj => by
    match j, hj with
    | 0, _ => go_simp
    | 1, _ => go_simp))
  have HBL := Lib.hid (blankP_kept hal hl2 HBL.out)
  have HB := Lib.hid (below_of HB.out hal HB.out.size)
  have q0 := (below_cell hal _ _ (show w.heap.size < _ by omega)).trans q0
  have q1 := (below_cell hal _ _ (show w.heap.size < _ by omega)).trans q1
  have hl2 := Nat.lt_of_lt_of_le hl2 hal.size
  have HI1 := Lib.hid (rings_kept hal HI1.out)
  clear hal
  go_wp2_with fail
  generalize w1.alloc (.cells #[.int .i64 num, .int .i64 den] 2) = wB at *
  refine HSC.out.mono ?_
  rintro e w' ⟨rfl, rfl⟩
  rw [HM.out]
  obtain ⟨⟨b0, b1⟩, f0, f1⟩ := HBL.out
  go_wp2
  try simp only [Exit.inBlock, Exit.then]
  refine bodyPost_ret_by (v := .tuple #[.agg #[.string ⟨#[]⟩, .slice none 0 0], .int .i64 2]) (by rw [results_cellP rfl]; go_simp) rfl ?_
  refine ⟨_, rfl, .inl ⟨rfl, rfl⟩, ?_⟩
  exact (HB.out.setCell (by show _ ≤ w.heap.size + 1; omega) _).setCell (by show _ ≤ w.heap.size + 1; omega) _
set_option maxRecDepth 20000 in
set_option maxHeartbeats 4000000 in
theorem implScl_main (s : ByteArray) (a : Option Addr) (n c : Nat) (rs : List Rg) (num den : Int) (w : World) (hn : Hid (rs.length = n)) (h1 : 1 ≤ n) (h32 : n ≤ 32) (HI : Hid (RingsAt w (.slice a n c) rs)) (hs : s.size ≤ maxLen) (HP : Hid (profB s rs = true)) (HM : Hid (scB num den = true)) :
    Calls Try.prog 51 #[.agg #[.string s, .slice a n c], .int .i64 num, .int .i64 den] w (ProfU (resS s (resC s (szL rs num den))) (resL (szL rs num den) (resC s (szL rs num den))) (resC s (szL rs num den)) w) := by
  have hsb := sc_iff.1 HM.out
  have HVR := Lib.hid (fun i hi => prof_ring HP.out i hi)
  have hBA := ((Below.refl w.heap.size w).alloc (Nat.le_refl _) (.cells #[.string s, .slice a n c] 48)).alloc (by simp) (.cells #[.string ⟨#[]⟩, .slice none 0 0] 48)
  have z0 : ((w.alloc (.cells #[.string s, .slice a n c] 48)).alloc (.cells #[.string ⟨#[]⟩, .slice none 0 0] 48)).cell? ⟨w.heap.size, 0, none⟩ = some (.string s) := by go_simp
  have z1 : ((w.alloc (.cells #[.string s, .slice a n c] 48)).alloc (.cells #[.string ⟨#[]⟩, .slice none 0 0] 48)).cell? ⟨w.heap.size, 1, none⟩ = some (.slice a n c) := by go_simp
  have hbl : BlankP ((w.alloc (.cells #[.string s, .slice a n c] 48)).alloc (.cells #[.string ⟨#[]⟩, .slice none 0 0] 48)) (w.heap.size + 1) := ⟨⟨by go_simp, by go_simp⟩, by go_simp, by go_simp⟩
  have hl1 : w.heap.size + 1 < ((w.alloc (.cells #[.string s, .slice a n c] 48)).alloc (.cells #[.string ⟨#[]⟩, .slice none 0 0] 48)).heap.size := by simp
  have HBA := Lib.hid hBA
  have HIA := Lib.hid (rings_kept hBA HI.out)
  go_enter Try.func51, Try.ntmps51
  go_wp2_with fail
  clear hBA
  generalize ((w.alloc (.cells #[.string s, .slice a n c] 48)).alloc (.cells #[.string ⟨#[]⟩, .slice none 0 0] 48)) = wA at *
  refine (implValidP_any s _ rs _ HIA.out hs).mono ?_
  rintro e w1 ⟨rfl, hb⟩
  rw [HP.out]
  have q0 := (below_cell hb _ _ (by omega)).trans z0
  have q1 := (below_cell hb _ _ (by omega)).trans z1
  have HBL := Lib.hid (blankP_kept hb hl1 hbl)
  have hl2 := Nat.lt_of_lt_of_le hl1 hb.size
  have HI1 := Lib.hid (rings_kept hb HIA.out)
  have HB := Lib.hid (below_of HBA.out hb HBA.out.size)
  clear hb hbl z0 z1
  have hal := below_al w1 (.cells #[.int .i64 num, .int .i64 den] 2)
  have HSC := Lib.hid (areScales_any num den (w1.alloc (.cells #[.int .i64 num, .int .i64 den] 2)) w1.heap.size (fun j hj => by
    match j, hj with
    | 0, _ => go_simp
    | 1, _ => go_simp))
  have HBL := Lib.hid (blankP_kept hal hl2 HBL.out)
  have HB := Lib.hid (below_of HB.out hal HB.out.size)
  have q0 := (below_cell hal _ _ (show w.heap.size < _ by omega)).trans q0
  have q1 := (below_cell hal _ _ (show w.heap.size < _ by omega)).trans q1
  have hl2 := Nat.lt_of_lt_of_le hl2 hal.size
  have HI1 := Lib.hid (rings_kept hal HI1.out)
  clear hal
  go_wp2_with fail
  generalize w1.alloc (.cells #[.int .i64 num, .int .i64 den] 2) = wB at *
  refine HSC.out.mono ?_
  rintro e w' ⟨rfl, rfl⟩
  rw [HM.out]
  go_wp2_with fail
  refine (resized_any s a n c rs num den _ hn h1 h32 HI1 hs HVR (by omega) (by omega)).mono ?_
  rintro e w3 ⟨v3, rfl, hrv, hb3⟩
  obtain ⟨a3, c3, rfl⟩ := rv_form hrv
  have HIN := Lib.hid (rv_in hrv)
  have HRV := Lib.hid (rv_base hrv (show w.heap.size ≤ _ from HB.out.size))
  have HBF := Lib.hid (below_of HB.out hb3 HB.out.size)
  obtain ⟨⟨b0, b1⟩, f0, f1⟩ := blankP_kept hb3 hl2 HBL.out
  clear hb3 hrv
  generalize resS s (resC s (szL rs num den)) = S3 at *
  generalize resL (szL rs num den) (resC s (szL rs num den)) = L3 at *
  generalize resC s (szL rs num den) = C3 at *
  go_wp2
  try simp only [Exit.inBlock, Exit.then]
  refine bodyPost_ret_by (v := .tuple #[.agg #[.string S3, .slice a3 L3.length c3], .int .i64 C3]) (by rw [results_cellP rfl]; go_simp) rfl ?_
  refine ⟨_, rfl, ?_, (HBF.out.setCell (by show _ ≤ w.heap.size + 1; omega) _).setCell (by show _ ≤ w.heap.size + 1; omega) _⟩
  exact rv_set2Z HRV.out _ _ _ (fun k hk => by have := (HIN.out k hk).1; omega)
theorem implScl_any (s : ByteArray) (v : Value) (rs : List Rg) (num den : Int) (w : World) (h : RingsAt w v rs) (hs : s.size ≤ maxLen) :
    Calls Try.prog 51 #[.agg #[.string s, v], .int .i64 num, .int .i64 den] w (ProfU (resS s (sclC s rs num den)) (resL (szL rs num den) (sclC s rs num den)) (sclC s rs num den) w) := by
  have HI := Lib.hid h
  obtain ⟨a, c, rfl⟩ := rings_form h
  rcases Bool.eq_false_or_eq_true (profB s rs) with hp | hp
  · obtain ⟨-, ⟨n1, n2⟩, -, -⟩ := prof_iff.1 hp
    rcases Bool.eq_false_or_eq_true (scB num den) with hq | hq
    · rw [sclC_3 hp hq]
      exact implScl_main s a rs.length c rs num den w (Lib.hid rfl) n1 n2 HI hs (Lib.hid hp) (Lib.hid hq)
    · rw [sclC_2 hp hq]
      exact implScl_range s a rs.length c rs num den w (Lib.hid rfl) HI hs (Lib.hid hp) (Lib.hid hq)
  · rw [sclC_1 hp]
    exact implScl_bad s a rs.length c rs num den w (Lib.hid rfl) HI hs (Lib.hid hp)
end Go.Proofs.Ytndmakimkghihaa
