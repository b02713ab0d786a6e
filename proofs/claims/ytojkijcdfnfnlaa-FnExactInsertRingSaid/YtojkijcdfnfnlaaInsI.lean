/- InsertRing: the program's walk. -/
import Derived.Test.YtojkijcdfnfnlaaInsS
set_option linter.unusedVariables false
namespace Go.Proofs.Ytojkijcdfnfnlaa
open Go.ChangeShapes Go.WideShapes Go.ChangeAt Go.RowKit

theorem rowAt_al {w : World} {g : Nat} {X : List Value} (h : RowAt w g X) (o : Obj) : RowAt (w.alloc o) g X := (heap_alloc_old w o (rowAt_lt h)).trans h
theorem rowAt_new (w : World) (x y z : Int) : RowAt (w.alloc (.cells #[.int .i64 x, .int .i64 y, .int .i64 z] 25)) w.heap.size (i64s (flat [(x, y, z)])) := heap_alloc_new w _
theorem rowAt_below {w w' : World} {g : Nat} {X : List Value} (hb : Below w.heap.size w w') (h : RowAt w g X) : RowAt w' g X := (hb.block g (rowAt_lt h)).trans h
theorem q5_below {w w' : World} {b b2 : Nat} {u v x y z : Value} (hS : w.cell? ⟨b, 0, none⟩ = some u ∧ w.cell? ⟨b, 1, none⟩ = some v ∧ w.cell? ⟨b2, 0, none⟩ = some x ∧ w.cell? ⟨b2, 1, none⟩ = some y ∧ w.cell? ⟨b2, 2, none⟩ = some z) (hz : b < w.heap.size) (hz2 : b2 < w.heap.size) (hb : Below w.heap.size w w') :
    w'.cell? ⟨b, 0, none⟩ = some u ∧ w'.cell? ⟨b, 1, none⟩ = some v ∧ w'.cell? ⟨b2, 0, none⟩ = some x ∧ w'.cell? ⟨b2, 1, none⟩ = some y ∧ w'.cell? ⟨b2, 2, none⟩ = some z :=
  ⟨(below_cell hb _ _ hz).trans hS.1, (below_cell hb _ _ hz).trans hS.2.1, (below_cell hb _ _ hz2).trans hS.2.2.1, (below_cell hb _ _ hz2).trans hS.2.2.2.1, (below_cell hb _ _ hz2).trans hS.2.2.2.2⟩
theorem q5_gb {w w' : World} {b b2 : Nat} {u v x y z : Value} {row : Option Nat} (hS : w.cell? ⟨b, 0, none⟩ = some u ∧ w.cell? ⟨b, 1, none⟩ = some v ∧ w.cell? ⟨b2, 0, none⟩ = some x ∧ w.cell? ⟨b2, 1, none⟩ = some y ∧ w.cell? ⟨b2, 2, none⟩ = some z) (hz : b < w.heap.size) (hz2 : b2 < w.heap.size) (hb : w.grownBy w' row) (h1 : some b ≠ row) (h2 : some b2 ≠ row) :
    w'.cell? ⟨b, 0, none⟩ = some u ∧ w'.cell? ⟨b, 1, none⟩ = some v ∧ w'.cell? ⟨b2, 0, none⟩ = some x ∧ w'.cell? ⟨b2, 1, none⟩ = some y ∧ w'.cell? ⟨b2, 2, none⟩ = some z :=
  ⟨(gb_cell hb _ _ hz h1).trans hS.1, (gb_cell hb _ _ hz h1).trans hS.2.1, (gb_cell hb _ _ hz2 h2).trans hS.2.2.1, (gb_cell hb _ _ hz2 h2).trans hS.2.2.2.1, (gb_cell hb _ _ hz2 h2).trans hS.2.2.2.2⟩
theorem q5_set2 {w : World} {b b2 b3 : Nat} {u v x y z p q : Value} (hS : w.cell? ⟨b, 0, none⟩ = some u ∧ w.cell? ⟨b, 1, none⟩ = some v ∧ w.cell? ⟨b2, 0, none⟩ = some x ∧ w.cell? ⟨b2, 1, none⟩ = some y ∧ w.cell? ⟨b2, 2, none⟩ = some z) (h1 : b ≠ b3) (h2 : b2 ≠ b3) :
    ((w.setCell ⟨b3, 0, none⟩ p).setCell ⟨b3, 1, none⟩ q).cell? ⟨b, 0, none⟩ = some u ∧ ((w.setCell ⟨b3, 0, none⟩ p).setCell ⟨b3, 1, none⟩ q).cell? ⟨b, 1, none⟩ = some v ∧ ((w.setCell ⟨b3, 0, none⟩ p).setCell ⟨b3, 1, none⟩ q).cell? ⟨b2, 0, none⟩ = some x ∧ ((w.setCell ⟨b3, 0, none⟩ p).setCell ⟨b3, 1, none⟩ q).cell? ⟨b2, 1, none⟩ = some y ∧ ((w.setCell ⟨b3, 0, none⟩ p).setCell ⟨b3, 1, none⟩ q).cell? ⟨b2, 2, none⟩ = some z := by
  have e : ∀ (w : World) (c k j : Nat) (z : Value), c ≠ b3 → (w.setCell ⟨b3, k, none⟩ z).cell? ⟨c, j, none⟩ = w.cell? ⟨c, j, none⟩ := fun w c k j z h => World.cell?_of_block (Below.heap_setCell _ _ _ _ h)
  refine ⟨?_, ?_, ?_, ?_, ?_⟩
  · rw [e _ _ _ _ _ h1, e _ _ _ _ _ h1]; exact hS.1
  · rw [e _ _ _ _ _ h1, e _ _ _ _ _ h1]; exact hS.2.1
  · rw [e _ _ _ _ _ h2, e _ _ _ _ _ h2]; exact hS.2.2.1
  · rw [e _ _ _ _ _ h2, e _ _ _ _ _ h2]; exact hS.2.2.2.1
  · rw [e _ _ _ _ _ h2, e _ _ _ _ _ h2]; exact hS.2.2.2.2
set_option maxRecDepth 20000 in
set_option maxHeartbeats 4000000 in
theorem implInsert_bad (s : ByteArray) (a : Option Addr) (n c : Nat) (rs : List Rg) (x y z : Int) (w : World) (k : Int) (HP : Hid (profB s rs = false)) (HI : Hid (RingsAt w (.slice a n c) rs)) (hs : s.size ≤ maxLen) :
    Calls Try.prog 37 #[.agg #[.string s, .slice a n c], .int .i64 k, .agg #[.int .i64 x, .int .i64 y, .int .i64 z]] w (ProfU ⟨#[]⟩ [] 1 w) := by
  have hBA := (((Below.refl w.heap.size w).alloc (Nat.le_refl _) (.cells #[.string s, .slice a n c] 35)).alloc (by simp) (.cells #[.int .i64 x, .int .i64 y, .int .i64 z] 25)).alloc (by simp; omega) (.cells #[.string ⟨#[]⟩, .slice none 0 0] 35)
  have z0 : (((w.alloc (.cells #[.string s, .slice a n c] 35)).alloc (.cells #[.int .i64 x, .int .i64 y, .int .i64 z] 25)).alloc (.cells #[.string ⟨#[]⟩, .slice none 0 0] 35)).cell? ⟨w.heap.size, 0, none⟩ = some (.string s) := by go_simp
  have z1 : (((w.alloc (.cells #[.string s, .slice a n c] 35)).alloc (.cells #[.int .i64 x, .int .i64 y, .int .i64 z] 25)).alloc (.cells #[.string ⟨#[]⟩, .slice none 0 0] 35)).cell? ⟨w.heap.size, 1, none⟩ = some (.slice a n c) := by go_simp
  have y0 : (((w.alloc (.cells #[.string s, .slice a n c] 35)).alloc (.cells #[.int .i64 x, .int .i64 y, .int .i64 z] 25)).alloc (.cells #[.string ⟨#[]⟩, .slice none 0 0] 35)).cell? ⟨w.heap.size + 1, 0, none⟩ = some (.int .i64 x) := by go_simp
  have y1 : (((w.alloc (.cells #[.string s, .slice a n c] 35)).alloc (.cells #[.int .i64 x, .int .i64 y, .int .i64 z] 25)).alloc (.cells #[.string ⟨#[]⟩, .slice none 0 0] 35)).cell? ⟨w.heap.size + 1, 1, none⟩ = some (.int .i64 y) := by go_simp
  have y2 : (((w.alloc (.cells #[.string s, .slice a n c] 35)).alloc (.cells #[.int .i64 x, .int .i64 y, .int .i64 z] 25)).alloc (.cells #[.string ⟨#[]⟩, .slice none 0 0] 35)).cell? ⟨w.heap.size + 1, 2, none⟩ = some (.int .i64 z) := by go_simp
  have hbl : BlankP (((w.alloc (.cells #[.string s, .slice a n c] 35)).alloc (.cells #[.int .i64 x, .int .i64 y, .int .i64 z] 25)).alloc (.cells #[.string ⟨#[]⟩, .slice none 0 0] 35)) (w.heap.size + 1 + 1) := ⟨⟨by go_simp, by go_simp⟩, by go_simp, by go_simp⟩
  have hl1 : w.heap.size + 1 + 1 < (((w.alloc (.cells #[.string s, .slice a n c] 35)).alloc (.cells #[.int .i64 x, .int .i64 y, .int .i64 z] 25)).alloc (.cells #[.string ⟨#[]⟩, .slice none 0 0] 35)).heap.size := by simp
  have HBA := Lib.hid hBA
  have HIA := Lib.hid (rings_kept hBA HI.out)
  go_enter Try.func37, Try.ntmps37
  go_wp2_with fail
  clear hBA
  generalize (((w.alloc (.cells #[.string s, .slice a n c] 35)).alloc (.cells #[.int .i64 x, .int .i64 y, .int .i64 z] 25)).alloc (.cells #[.string ⟨#[]⟩, .slice none 0 0] 35)) = wA at *
  refine (implValidP_any s _ rs _ HIA.out hs).mono ?_
  rintro e w1 ⟨rfl, hb⟩
  rw [HP.out]
  have q0 := (below_cell hb _ _ (by omega)).trans z0
  have q1 := (below_cell hb _ _ (by omega)).trans z1
  have x0 := (below_cell hb _ _ (show w.heap.size + 1 < wA.heap.size by omega)).trans y0
  have x1 := (below_cell hb _ _ (show w.heap.size + 1 < wA.heap.size by omega)).trans y1
  have x2 := (below_cell hb _ _ (show w.heap.size + 1 < wA.heap.size by omega)).trans y2
  have HBL := Lib.hid (blankP_kept hb hl1 hbl)
  have hl2 := Nat.lt_of_lt_of_le hl1 hb.size
  have HI1 := Lib.hid (rings_kept hb HIA.out)
  have HB := Lib.hid (below_of HBA.out hb HBA.out.size)
  clear hb hbl z0 z1 y0 y1 y2
  obtain ⟨⟨b0, b1⟩, f0, f1⟩ := HBL.out
  go_wp2
  try simp only [Exit.inBlock, Exit.then]
  refine bodyPost_ret_by (v := .tuple #[.agg #[.string ⟨#[]⟩, .slice none 0 0], .int .i64 1]) (by rw [results_cellP rfl]; go_simp) rfl ?_
  refine ⟨_, rfl, .inl ⟨rfl, rfl⟩, ?_⟩
  exact (HB.out.setCell (by show _ ≤ w.heap.size + 1 + 1; omega) _).setCell (by show _ ≤ w.heap.size + 1 + 1; omega) _
set_option maxRecDepth 20000 in
set_option maxHeartbeats 4000000 in
theorem implInsert_ring (s : ByteArray) (a : Option Addr) (n c : Nat) (rs : List Rg) (x y z : Int) (w : World) (k : Int) (HP : Hid (profB s rs = true)) (HR : Hid (ringB (x, y, z) = false)) (HI : Hid (RingsAt w (.slice a n c) rs)) (hs : s.size ≤ maxLen) :
    Calls Try.prog 37 #[.agg #[.string s, .slice a n c], .int .i64 k, .agg #[.int .i64 x, .int .i64 y, .int .i64 z]] w (ProfU ⟨#[]⟩ [] 1 w) := by
  have hBA := (((Below.refl w.heap.size w).alloc (Nat.le_refl _) (.cells #[.string s, .slice a n c] 35)).alloc (by simp) (.cells #[.int .i64 x, .int .i64 y, .int .i64 z] 25)).alloc (by simp; omega) (.cells #[.string ⟨#[]⟩, .slice none 0 0] 35)
  have z0 : (((w.alloc (.cells #[.string s, .slice a n c] 35)).alloc (.cells #[.int .i64 x, .int .i64 y, .int .i64 z] 25)).alloc (.cells #[.string ⟨#[]⟩, .slice none 0 0] 35)).cell? ⟨w.heap.size, 0, none⟩ = some (.string s) := by go_simp
  have z1 : (((w.alloc (.cells #[.string s, .slice a n c] 35)).alloc (.cells #[.int .i64 x, .int .i64 y, .int .i64 z] 25)).alloc (.cells #[.string ⟨#[]⟩, .slice none 0 0] 35)).cell? ⟨w.heap.size, 1, none⟩ = some (.slice a n c) := by go_simp
  have y0 : (((w.alloc (.cells #[.string s, .slice a n c] 35)).alloc (.cells #[.int .i64 x, .int .i64 y, .int .i64 z] 25)).alloc (.cells #[.string ⟨#[]⟩, .slice none 0 0] 35)).cell? ⟨w.heap.size + 1, 0, none⟩ = some (.int .i64 x) := by go_simp
  have y1 : (((w.alloc (.cells #[.string s, .slice a n c] 35)).alloc (.cells #[.int .i64 x, .int .i64 y, .int .i64 z] 25)).alloc (.cells #[.string ⟨#[]⟩, .slice none 0 0] 35)).cell? ⟨w.heap.size + 1, 1, none⟩ = some (.int .i64 y) := by go_simp
  have y2 : (((w.alloc (.cells #[.string s, .slice a n c] 35)).alloc (.cells #[.int .i64 x, .int .i64 y, .int .i64 z] 25)).alloc (.cells #[.string ⟨#[]⟩, .slice none 0 0] 35)).cell? ⟨w.heap.size + 1, 2, none⟩ = some (.int .i64 z) := by go_simp
  have hbl : BlankP (((w.alloc (.cells #[.string s, .slice a n c] 35)).alloc (.cells #[.int .i64 x, .int .i64 y, .int .i64 z] 25)).alloc (.cells #[.string ⟨#[]⟩, .slice none 0 0] 35)) (w.heap.size + 1 + 1) := ⟨⟨by go_simp, by go_simp⟩, by go_simp, by go_simp⟩
  have hl1 : w.heap.size + 1 + 1 < (((w.alloc (.cells #[.string s, .slice a n c] 35)).alloc (.cells #[.int .i64 x, .int .i64 y, .int .i64 z] 25)).alloc (.cells #[.string ⟨#[]⟩, .slice none 0 0] 35)).heap.size := by simp
  have HBA := Lib.hid hBA
  have HIA := Lib.hid (rings_kept hBA HI.out)
  go_enter Try.func37, Try.ntmps37
  go_wp2_with fail
  clear hBA
  generalize (((w.alloc (.cells #[.string s, .slice a n c] 35)).alloc (.cells #[.int .i64 x, .int .i64 y, .int .i64 z] 25)).alloc (.cells #[.string ⟨#[]⟩, .slice none 0 0] 35)) = wA at *
  refine (implValidP_any s _ rs _ HIA.out hs).mono ?_
  rintro e w1 ⟨rfl, hb⟩
  rw [HP.out]
  have q0 := (below_cell hb _ _ (by omega)).trans z0
  have q1 := (below_cell hb _ _ (by omega)).trans z1
  have x0 := (below_cell hb _ _ (show w.heap.size + 1 < wA.heap.size by omega)).trans y0
  have x1 := (below_cell hb _ _ (show w.heap.size + 1 < wA.heap.size by omega)).trans y1
  have x2 := (below_cell hb _ _ (show w.heap.size + 1 < wA.heap.size by omega)).trans y2
  have HBL := Lib.hid (blankP_kept hb hl1 hbl)
  have hl2 := Nat.lt_of_lt_of_le hl1 hb.size
  have HI1 := Lib.hid (rings_kept hb HIA.out)
  have HB := Lib.hid (below_of HBA.out hb HBA.out.size)
  clear hb hbl z0 z1 y0 y1 y2
  go_wp2_with fail
  refine (implValidRing_any x y z _).mono ?_
  rintro e wD ⟨rfl, hb⟩
  rw [HR.out]
  have HB2 := Lib.hid (below_of HB.out hb HB.out.size)
  have HBL2 := Lib.hid (blankP_kept hb hl2 HBL.out)
  have HI2 := Lib.hid (rings_kept hb HI1.out)
  have r0 := (below_cell hb _ _ (show w.heap.size < w1.heap.size by omega)).trans q0
  have r1 := (below_cell hb _ _ (show w.heap.size < w1.heap.size by omega)).trans q1
  have u0 := (below_cell hb _ _ (show w.heap.size + 1 < w1.heap.size by omega)).trans x0
  have u1 := (below_cell hb _ _ (show w.heap.size + 1 < w1.heap.size by omega)).trans x1
  have u2 := (below_cell hb _ _ (show w.heap.size + 1 < w1.heap.size by omega)).trans x2
  have hl3 := Nat.lt_of_lt_of_le hl2 hb.size
  clear hb q0 q1 x0 x1 x2 hl2
  obtain ⟨⟨b0, b1⟩, f0, f1⟩ := HBL2.out
  go_wp2
  try simp only [Exit.inBlock, Exit.then]
  refine bodyPost_ret_by (v := .tuple #[.agg #[.string ⟨#[]⟩, .slice none 0 0], .int .i64 1]) (by rw [results_cellP rfl]; go_simp) rfl ?_
  refine ⟨_, rfl, .inl ⟨rfl, rfl⟩, ?_⟩
  exact (HB2.out.setCell (by show _ ≤ w.heap.size + 1 + 1; omega) _).setCell (by show _ ≤ w.heap.size + 1 + 1; omega) _
set_option maxRecDepth 20000 in
set_option maxHeartbeats 4000000 in
theorem implInsert_range (s : ByteArray) (a : Option Addr) (n c : Nat) (rs : List Rg) (x y z : Int) (w : World) (k : Int) (HP : Hid (profB s rs = true)) (HR : Hid (ringB (x, y, z) = true)) (HK : Hid (inB k 0 n = false)) (HI : Hid (RingsAt w (.slice a n c) rs)) (hs : s.size ≤ maxLen) :
    Calls Try.prog 37 #[.agg #[.string s, .slice a n c], .int .i64 k, .agg #[.int .i64 x, .int .i64 y, .int .i64 z]] w (ProfU ⟨#[]⟩ [] 2 w) := by
  have hBA := (((Below.refl w.heap.size w).alloc (Nat.le_refl _) (.cells #[.string s, .slice a n c] 35)).alloc (by simp) (.cells #[.int .i64 x, .int .i64 y, .int .i64 z] 25)).alloc (by simp; omega) (.cells #[.string ⟨#[]⟩, .slice none 0 0] 35)
  have z0 : (((w.alloc (.cells #[.string s, .slice a n c] 35)).alloc (.cells #[.int .i64 x, .int .i64 y, .int .i64 z] 25)).alloc (.cells #[.string ⟨#[]⟩, .slice none 0 0] 35)).cell? ⟨w.heap.size, 0, none⟩ = some (.string s) := by go_simp
  have z1 : (((w.alloc (.cells #[.string s, .slice a n c] 35)).alloc (.cells #[.int .i64 x, .int .i64 y, .int .i64 z] 25)).alloc (.cells #[.string ⟨#[]⟩, .slice none 0 0] 35)).cell? ⟨w.heap.size, 1, none⟩ = some (.slice a n c) := by go_simp
  have y0 : (((w.alloc (.cells #[.string s, .slice a n c] 35)).alloc (.cells #[.int .i64 x, .int .i64 y, .int .i64 z] 25)).alloc (.cells #[.string ⟨#[]⟩, .slice none 0 0] 35)).cell? ⟨w.heap.size + 1, 0, none⟩ = some (.int .i64 x) := by go_simp
  have y1 : (((w.alloc (.cells #[.string s, .slice a n c] 35)).alloc (.cells #[.int .i64 x, .int .i64 y, .int .i64 z] 25)).alloc (.cells #[.string ⟨#[]⟩, .slice none 0 0] 35)).cell? ⟨w.heap.size + 1, 1, none⟩ = some (.int .i64 y) := by go_simp
  have y2 : (((w.alloc (.cells #[.string s, .slice a n c] 35)).alloc (.cells #[.int .i64 x, .int .i64 y, .int .i64 z] 25)).alloc (.cells #[.string ⟨#[]⟩, .slice none 0 0] 35)).cell? ⟨w.heap.size + 1, 2, none⟩ = some (.int .i64 z) := by go_simp
  have hbl : BlankP (((w.alloc (.cells #[.string s, .slice a n c] 35)).alloc (.cells #[.int .i64 x, .int .i64 y, .int .i64 z] 25)).alloc (.cells #[.string ⟨#[]⟩, .slice none 0 0] 35)) (w.heap.size + 1 + 1) := ⟨⟨by go_simp, by go_simp⟩, by go_simp, by go_simp⟩
  have hl1 : w.heap.size + 1 + 1 < (((w.alloc (.cells #[.string s, .slice a n c] 35)).alloc (.cells #[.int .i64 x, .int .i64 y, .int .i64 z] 25)).alloc (.cells #[.string ⟨#[]⟩, .slice none 0 0] 35)).heap.size := by simp
  have HBA := Lib.hid hBA
  have HIA := Lib.hid (rings_kept hBA HI.out)
  go_enter Try.func37, Try.ntmps37
  go_wp2_with fail
  clear hBA
  generalize (((w.alloc (.cells #[.string s, .slice a n c] 35)).alloc (.cells #[.int .i64 x, .int .i64 y, .int .i64 z] 25)).alloc (.cells #[.string ⟨#[]⟩, .slice none 0 0] 35)) = wA at *
  refine (implValidP_any s _ rs _ HIA.out hs).mono ?_
  rintro e w1 ⟨rfl, hb⟩
  rw [HP.out]
  have q0 := (below_cell hb _ _ (by omega)).trans z0
  have q1 := (below_cell hb _ _ (by omega)).trans z1
  have x0 := (below_cell hb _ _ (show w.heap.size + 1 < wA.heap.size by omega)).trans y0
  have x1 := (below_cell hb _ _ (show w.heap.size + 1 < wA.heap.size by omega)).trans y1
  have x2 := (below_cell hb _ _ (show w.heap.size + 1 < wA.heap.size by omega)).trans y2
  have HBL := Lib.hid (blankP_kept hb hl1 hbl)
  have hl2 := Nat.lt_of_lt_of_le hl1 hb.size
  have HI1 := Lib.hid (rings_kept hb HIA.out)
  have HB := Lib.hid (below_of HBA.out hb HBA.out.size)
  clear hb hbl z0 z1 y0 y1 y2
  go_wp2_with fail
  refine (implValidRing_any x y z _).mono ?_
  rintro e wD ⟨rfl, hb⟩
  rw [HR.out]
  have HB2 := Lib.hid (below_of HB.out hb HB.out.size)
  have HBL2 := Lib.hid (blankP_kept hb hl2 HBL.out)
  have HI2 := Lib.hid (rings_kept hb HI1.out)
  have r0 := (below_cell hb _ _ (show w.heap.size < w1.heap.size by omega)).trans q0
  have r1 := (below_cell hb _ _ (show w.heap.size < w1.heap.size by omega)).trans q1
  have u0 := (below_cell hb _ _ (show w.heap.size + 1 < w1.heap.size by omega)).trans x0
  have u1 := (below_cell hb _ _ (show w.heap.size + 1 < w1.heap.size by omega)).trans x1
  have u2 := (below_cell hb _ _ (show w.heap.size + 1 < w1.heap.size by omega)).trans x2
  have hl3 := Nat.lt_of_lt_of_le hl2 hb.size
  clear hb q0 q1 x0 x1 x2 hl2
  go_wp2_with fail
  refine (within_i64 _ _ [k] _ 0 1 1 _ rfl (by omega) (cell_int _ _ _ _ (by simp))).mono ?_
  rintro e w3 ⟨rfl, rfl⟩
  rw [all_one, HK.out]
  have hal := below_al wD (.cells #[.int .i64 k] 2)
  have HB4 := Lib.hid (HB2.out.alloc HB2.out.size (.cells #[.int .i64 k] 2))
  have HBL4 := Lib.hid (blankP_kept hal hl3 HBL2.out)
  have HI4 := Lib.hid (rings_kept hal HI2.out)
  have t0 := (below_cell hal _ _ (show w.heap.size < wD.heap.size by omega)).trans r0
  have t1 := (below_cell hal _ _ (show w.heap.size < wD.heap.size by omega)).trans r1
  have t2 := (below_cell hal _ _ (show w.heap.size + 1 < wD.heap.size by omega)).trans u0
  have t3 := (below_cell hal _ _ (show w.heap.size + 1 < wD.heap.size by omega)).trans u1
  have t4 := (below_cell hal _ _ (show w.heap.size + 1 < wD.heap.size by omega)).trans u2
  have hl4 := Nat.lt_of_lt_of_le hl3 hal.size
  clear hal r0 r1 u0 u1 u2
  generalize wD.alloc (.cells #[.int .i64 k] 2) = wB at *
  obtain ⟨⟨b0, b1⟩, f0, f1⟩ := HBL4.out
  go_wp2
  try simp only [Exit.inBlock, Exit.then]
  refine bodyPost_ret_by (v := .tuple #[.agg #[.string ⟨#[]⟩, .slice none 0 0], .int .i64 2]) (by rw [results_cellP rfl]; go_simp) rfl ?_
  refine ⟨_, rfl, .inl ⟨rfl, rfl⟩, ?_⟩
  exact (HB4.out.setCell (by show _ ≤ w.heap.size + 1 + 1; omega) _).setCell (by show _ ≤ w.heap.size + 1 + 1; omega) _
set_option maxRecDepth 20000 in
set_option maxHeartbeats 4000000 in
theorem implInsert_full (s : ByteArray) (a : Option Addr) (n c : Nat) (rs : List Rg) (x y z : Int) (w : World) (k : Int) (hn : n = 32) (HP : Hid (profB s rs = true)) (HR : Hid (ringB (x, y, z) = true)) (HK : Hid (inB k 0 n = true)) (HI : Hid (RingsAt w (.slice a n c) rs)) (hs : s.size ≤ maxLen) :
    Calls Try.prog 37 #[.agg #[.string s, .slice a n c], .int .i64 k, .agg #[.int .i64 x, .int .i64 y, .int .i64 z]] w (ProfU ⟨#[]⟩ [] 5 w) := by
  have h32 : ((n : Int) == 32) = true := by rw [hn]; rfl
  clear hn
  have hBA := (((Below.refl w.heap.size w).alloc (Nat.le_refl _) (.cells #[.string s, .slice a n c] 35)).alloc (by simp) (.cells #[.int .i64 x, .int .i64 y, .int .i64 z] 25)).alloc (by simp; omega) (.cells #[.string ⟨#[]⟩, .slice none 0 0] 35)
  have z0 : (((w.alloc (.cells #[.string s, .slice a n c] 35)).alloc (.cells #[.int .i64 x, .int .i64 y, .int .i64 z] 25)).alloc (.cells #[.string ⟨#[]⟩, .slice none 0 0] 35)).cell? ⟨w.heap.size, 0, none⟩ = some (.string s) := by go_simp
  have z1 : (((w.alloc (.cells #[.string s, .slice a n c] 35)).alloc (.cells #[.int .i64 x, .int .i64 y, .int .i64 z] 25)).alloc (.cells #[.string ⟨#[]⟩, .slice none 0 0] 35)).cell? ⟨w.heap.size, 1, none⟩ = some (.slice a n c) := by go_simp
  have y0 : (((w.alloc (.cells #[.string s, .slice a n c] 35)).alloc (.cells #[.int .i64 x, .int .i64 y, .int .i64 z] 25)).alloc (.cells #[.string ⟨#[]⟩, .slice none 0 0] 35)).cell? ⟨w.heap.size + 1, 0, none⟩ = some (.int .i64 x) := by go_simp
  have y1 : (((w.alloc (.cells #[.string s, .slice a n c] 35)).alloc (.cells #[.int .i64 x, .int .i64 y, .int .i64 z] 25)).alloc (.cells #[.string ⟨#[]⟩, .slice none 0 0] 35)).cell? ⟨w.heap.size + 1, 1, none⟩ = some (.int .i64 y) := by go_simp
  have y2 : (((w.alloc (.cells #[.string s, .slice a n c] 35)).alloc (.cells #[.int .i64 x, .int .i64 y, .int .i64 z] 25)).alloc (.cells #[.string ⟨#[]⟩, .slice none 0 0] 35)).cell? ⟨w.heap.size + 1, 2, none⟩ = some (.int .i64 z) := by go_simp
  have hbl : BlankP (((w.alloc (.cells #[.string s, .slice a n c] 35)).alloc (.cells #[.int .i64 x, .int .i64 y, .int .i64 z] 25)).alloc (.cells #[.string ⟨#[]⟩, .slice none 0 0] 35)) (w.heap.size + 1 + 1) := ⟨⟨by go_simp, by go_simp⟩, by go_simp, by go_simp⟩
  have hl1 : w.heap.size + 1 + 1 < (((w.alloc (.cells #[.string s, .slice a n c] 35)).alloc (.cells #[.int .i64 x, .int .i64 y, .int .i64 z] 25)).alloc (.cells #[.string ⟨#[]⟩, .slice none 0 0] 35)).heap.size := by simp
  have HBA := Lib.hid hBA
  have HIA := Lib.hid (rings_kept hBA HI.out)
  go_enter Try.func37, Try.ntmps37
  go_wp2_with fail
  clear hBA
  generalize (((w.alloc (.cells #[.string s, .slice a n c] 35)).alloc (.cells #[.int .i64 x, .int .i64 y, .int .i64 z] 25)).alloc (.cells #[.string ⟨#[]⟩, .slice none 0 0] 35)) = wA at *
  refine (implValidP_any s _ rs _ HIA.out hs).mono ?_
  rintro e w1 ⟨rfl, hb⟩
  rw [HP.out]
  have q0 := (below_cell hb _ _ (by omega)).trans z0
  have q1 := (below_cell hb _ _ (by omega)).trans z1
  have x0 := (below_cell hb _ _ (show w.heap.size + 1 < wA.heap.size by omega)).trans y0
  have x1 := (below_cell hb _ _ (show w.heap.size + 1 < wA.heap.size by omega)).trans y1
  have x2 := (below_cell hb _ _ (show w.heap.size + 1 < wA.heap.size by omega)).trans y2
  have HBL := Lib.hid (blankP_kept hb hl1 hbl)
  have hl2 := Nat.lt_of_lt_of_le hl1 hb.size
  have HI1 := Lib.hid (rings_kept hb HIA.out)
  have HB := Lib.hid (below_of HBA.out hb HBA.out.size)
  clear hb hbl z0 z1 y0 y1 y2
  go_wp2_with fail
  refine (implValidRing_any x y z _).mono ?_
  rintro e wD ⟨rfl, hb⟩
  rw [HR.out]
  have HB2 := Lib.hid (below_of HB.out hb HB.out.size)
  have HBL2 := Lib.hid (blankP_kept hb hl2 HBL.out)
  have HI2 := Lib.hid (rings_kept hb HI1.out)
  have r0 := (below_cell hb _ _ (show w.heap.size < w1.heap.size by omega)).trans q0
  have r1 := (below_cell hb _ _ (show w.heap.size < w1.heap.size by omega)).trans q1
  have u0 := (below_cell hb _ _ (show w.heap.size + 1 < w1.heap.size by omega)).trans x0
  have u1 := (below_cell hb _ _ (show w.heap.size + 1 < w1.heap.size by omega)).trans x1
  have u2 := (below_cell hb _ _ (show w.heap.size + 1 < w1.heap.size by omega)).trans x2
  have hl3 := Nat.lt_of_lt_of_le hl2 hb.size
  clear hb q0 q1 x0 x1 x2 hl2
  go_wp2_with fail
  refine (within_i64 _ _ [k] _ 0 1 1 _ rfl (by omega) (cell_int _ _ _ _ (by simp))).mono ?_
  rintro e w3 ⟨rfl, rfl⟩
  rw [all_one, HK.out]
  have hal := below_al wD (.cells #[.int .i64 k] 2)
  have HB4 := Lib.hid (HB2.out.alloc HB2.out.size (.cells #[.int .i64 k] 2))
  have HBL4 := Lib.hid (blankP_kept hal hl3 HBL2.out)
  have HI4 := Lib.hid (rings_kept hal HI2.out)
  have t0 := (below_cell hal _ _ (show w.heap.size < wD.heap.size by omega)).trans r0
  have t1 := (below_cell hal _ _ (show w.heap.size < wD.heap.size by omega)).trans r1
  have t2 := (below_cell hal _ _ (show w.heap.size + 1 < wD.heap.size by omega)).trans u0
  have t3 := (below_cell hal _ _ (show w.heap.size + 1 < wD.heap.size by omega)).trans u1
  have t4 := (below_cell hal _ _ (show w.heap.size + 1 < wD.heap.size by omega)).trans u2
  have hl4 := Nat.lt_of_lt_of_le hl3 hal.size
  clear hal r0 r1 u0 u1 u2
  generalize wD.alloc (.cells #[.int .i64 k] 2) = wB at *
  obtain ⟨⟨b0, b1⟩, f0, f1⟩ := HBL4.out
  go_wp2
  try simp only [Exit.inBlock, Exit.then]
  refine bodyPost_ret_by (v := .tuple #[.agg #[.string ⟨#[]⟩, .slice none 0 0], .int .i64 5]) (by rw [results_cellP rfl]; go_simp) rfl ?_
  refine ⟨_, rfl, .inl ⟨rfl, rfl⟩, ?_⟩
  exact (HB4.out.setCell (by show _ ≤ w.heap.size + 1 + 1; omega) _).setCell (by show _ ≤ w.heap.size + 1 + 1; omega) _
set_option maxRecDepth 20000 in
set_option maxHeartbeats 4000000 in
theorem implInsert_yes (s : ByteArray) (a : Option Addr) (n c : Nat) (rs : List Rg) (x y z : Int) (w : World) (k : Nat) (hn : Hid (rs.length = n)) (h1 : 1 ≤ n) (h32 : n < 32) (hk : k ≤ n) (HP : Hid (profB s rs = true)) (HR : Hid (ringB (x, y, z) = true)) (HK : Hid (inB (k : Int) 0 n = true)) (HQ : Hid (profB s (insR rs k (x, y, z)) = true)) (HI : Hid (RingsAt w (.slice a n c) rs)) (hs : s.size ≤ maxLen) :
    Calls Try.prog 37 #[.agg #[.string s, .slice a n c], .int .i64 (k : Int), .agg #[.int .i64 x, .int .i64 y, .int .i64 z]] w (ProfU s (insR rs k (x, y, z)) 0 w) := by
  have hne32 : ((n : Int) == 32) = false := by simp; omega
  have hBA := (((Below.refl w.heap.size w).alloc (Nat.le_refl _) (.cells #[.string s, .slice a n c] 35)).alloc (by simp) (.cells #[.int .i64 x, .int .i64 y, .int .i64 z] 25)).alloc (by simp; omega) (.cells #[.string ⟨#[]⟩, .slice none 0 0] 35)
  have z0 : (((w.alloc (.cells #[.string s, .slice a n c] 35)).alloc (.cells #[.int .i64 x, .int .i64 y, .int .i64 z] 25)).alloc (.cells #[.string ⟨#[]⟩, .slice none 0 0] 35)).cell? ⟨w.heap.size, 0, none⟩ = some (.string s) := by go_simp
  have z1 : (((w.alloc (.cells #[.string s, .slice a n c] 35)).alloc (.cells #[.int .i64 x, .int .i64 y, .int .i64 z] 25)).alloc (.cells #[.string ⟨#[]⟩, .slice none 0 0] 35)).cell? ⟨w.heap.size, 1, none⟩ = some (.slice a n c) := by go_simp
  have y0 : (((w.alloc (.cells #[.string s, .slice a n c] 35)).alloc (.cells #[.int .i64 x, .int .i64 y, .int .i64 z] 25)).alloc (.cells #[.string ⟨#[]⟩, .slice none 0 0] 35)).cell? ⟨w.heap.size + 1, 0, none⟩ = some (.int .i64 x) := by go_simp
  have y1 : (((w.alloc (.cells #[.string s, .slice a n c] 35)).alloc (.cells #[.int .i64 x, .int .i64 y, .int .i64 z] 25)).alloc (.cells #[.string ⟨#[]⟩, .slice none 0 0] 35)).cell? ⟨w.heap.size + 1, 1, none⟩ = some (.int .i64 y) := by go_simp
  have y2 : (((w.alloc (.cells #[.string s, .slice a n c] 35)).alloc (.cells #[.int .i64 x, .int .i64 y, .int .i64 z] 25)).alloc (.cells #[.string ⟨#[]⟩, .slice none 0 0] 35)).cell? ⟨w.heap.size + 1, 2, none⟩ = some (.int .i64 z) := by go_simp
  have hbl : BlankP (((w.alloc (.cells #[.string s, .slice a n c] 35)).alloc (.cells #[.int .i64 x, .int .i64 y, .int .i64 z] 25)).alloc (.cells #[.string ⟨#[]⟩, .slice none 0 0] 35)) (w.heap.size + 1 + 1) := ⟨⟨by go_simp, by go_simp⟩, by go_simp, by go_simp⟩
  have hl1 : w.heap.size + 1 + 1 < (((w.alloc (.cells #[.string s, .slice a n c] 35)).alloc (.cells #[.int .i64 x, .int .i64 y, .int .i64 z] 25)).alloc (.cells #[.string ⟨#[]⟩, .slice none 0 0] 35)).heap.size := by simp
  have HBA := Lib.hid hBA
  have HIA := Lib.hid (rings_kept hBA HI.out)
  go_enter Try.func37, Try.ntmps37
  go_wp2_with fail
  clear hBA
  generalize (((w.alloc (.cells #[.string s, .slice a n c] 35)).alloc (.cells #[.int .i64 x, .int .i64 y, .int .i64 z] 25)).alloc (.cells #[.string ⟨#[]⟩, .slice none 0 0] 35)) = wA at *
  refine (implValidP_any s _ rs _ HIA.out hs).mono ?_
  rintro e w1 ⟨rfl, hb⟩
  rw [HP.out]
  have q0 := (below_cell hb _ _ (by omega)).trans z0
  have q1 := (below_cell hb _ _ (by omega)).trans z1
  have x0 := (below_cell hb _ _ (show w.heap.size + 1 < wA.heap.size by omega)).trans y0
  have x1 := (below_cell hb _ _ (show w.heap.size + 1 < wA.heap.size by omega)).trans y1
  have x2 := (below_cell hb _ _ (show w.heap.size + 1 < wA.heap.size by omega)).trans y2
  have HBL := Lib.hid (blankP_kept hb hl1 hbl)
  have hl2 := Nat.lt_of_lt_of_le hl1 hb.size
  have HI1 := Lib.hid (rings_kept hb HIA.out)
  have HB := Lib.hid (below_of HBA.out hb HBA.out.size)
  clear hb hbl z0 z1 y0 y1 y2
  go_wp2_with fail
  refine (implValidRing_any x y z _).mono ?_
  rintro e wD ⟨rfl, hb⟩
  rw [HR.out]
  have HB2 := Lib.hid (below_of HB.out hb HB.out.size)
  have HBL2 := Lib.hid (blankP_kept hb hl2 HBL.out)
  have HI2 := Lib.hid (rings_kept hb HI1.out)
  have r0 := (below_cell hb _ _ (show w.heap.size < w1.heap.size by omega)).trans q0
  have r1 := (below_cell hb _ _ (show w.heap.size < w1.heap.size by omega)).trans q1
  have u0 := (below_cell hb _ _ (show w.heap.size + 1 < w1.heap.size by omega)).trans x0
  have u1 := (below_cell hb _ _ (show w.heap.size + 1 < w1.heap.size by omega)).trans x1
  have u2 := (below_cell hb _ _ (show w.heap.size + 1 < w1.heap.size by omega)).trans x2
  have hl3 := Nat.lt_of_lt_of_le hl2 hb.size
  clear hb q0 q1 x0 x1 x2 hl2
  go_wp2_with fail
  refine (within_i64 _ _ [(k : Int)] _ 0 1 1 _ rfl (by omega) (cell_int _ _ _ _ (by simp))).mono ?_
  rintro e w3 ⟨rfl, rfl⟩
  rw [all_one, HK.out]
  have hal := below_al wD (.cells #[.int .i64 (k : Int)] 2)
  have HB4 := Lib.hid (HB2.out.alloc HB2.out.size (.cells #[.int .i64 (k : Int)] 2))
  have HBL4 := Lib.hid (blankP_kept hal hl3 HBL2.out)
  have HI4 := Lib.hid (rings_kept hal HI2.out)
  have t0 := (below_cell hal _ _ (show w.heap.size < wD.heap.size by omega)).trans r0
  have t1 := (below_cell hal _ _ (show w.heap.size < wD.heap.size by omega)).trans r1
  have t2 := (below_cell hal _ _ (show w.heap.size + 1 < wD.heap.size by omega)).trans u0
  have t3 := (below_cell hal _ _ (show w.heap.size + 1 < wD.heap.size by omega)).trans u1
  have t4 := (below_cell hal _ _ (show w.heap.size + 1 < wD.heap.size by omega)).trans u2
  have hl4 := Nat.lt_of_lt_of_le hl3 hal.size
  clear hal r0 r1 u0 u1 u2
  generalize wD.alloc (.cells #[.int .i64 (k : Int)] 2) = wB at *
  have HSL := Lib.hid (show (insR rs k (x, y, z)).length = n + 1 by rw [insR_len _ _ _ (by rw [hn.out]; omega), hn.out])
  have hzB : w.heap.size < wB.heap.size := by omega
  have hzB2 : w.heap.size + 1 < wB.heap.size := by omega
  go_wp2
  go_region_held3 (fun w' => w'.cell? ⟨w.heap.size, 0, none⟩ = some (.string s) ∧ w'.cell? ⟨w.heap.size, 1, none⟩ = some (.slice a n c) ∧ w'.cell? ⟨w.heap.size + 1, 0, none⟩ = some (.int .i64 x) ∧ w'.cell? ⟨w.heap.size + 1, 1, none⟩ = some (.int .i64 y) ∧ w'.cell? ⟨w.heap.size + 1, 2, none⟩ = some (.int .i64 z))
    (first | exact ⟨t0, t1, t2, t3, t4⟩ | exact hk7 | exact q5_set2 hk7 (by omega) (by omega) | exact hk6 | exact hk5 | exact q5_below hk5 (Nat.lt_of_lt_of_le hzB hsz5) (Nat.lt_of_lt_of_le hzB2 hsz5) (below_al _ _) | exact q5_below (w := wB.drew) ⟨t0, t1, t2, t3, t4⟩ hzB hzB2 (below_al _ _))
    (first
      | (go_at_call 65; refine (ringsCopy_any s _ rs _ (by first | exact rings_kept (w := wB) (w' := wB.drew) ⟨rfl, rfl, rfl, Nat.le_refl _, fun _ _ => rfl⟩ HI4.out | exact rings_kept (below_al wB.drew _) (rings_kept (w := wB) (w' := wB.drew) ⟨rfl, rfl, rfl, Nat.le_refl _, fun _ _ => rfl⟩ HI4.out)) (by rw [hn.out]; exact h1) (by rw [hn.out]; omega) n hn).mono ?_; rintro e w5 ⟨g, rfl, hg0, hrow, hb5⟩; have hgB : wB.heap.size ≤ g := (by first | exact hg0 | exact Nat.le_trans (Nat.le_of_lt (alloc_lt2 wB.drew _)) hg0); have hsz5 : wB.heap.size ≤ w5.heap.size := (by first | exact hb5.size | exact Nat.le_trans (Nat.le_of_lt (alloc_lt2 wB.drew _)) hb5.size); have hbB5 : Below wB.heap.size wB w5 := (by first | exact ⟨hb5.os, hb5.tape, hb5.output, hb5.size, hb5.block⟩ | exact ((show Below wB.heap.size wB wB.drew from ⟨rfl, rfl, rfl, Nat.le_refl _, fun _ _ => rfl⟩).alloc (Nat.le_refl _) (.cells #[.int .i64 x, .int .i64 y, .int .i64 z] 25)).trans (hb5.mono (Nat.le_of_lt (alloc_lt2 wB.drew _)))); have hk5 := q5_below ⟨t0, t1, t2, t3, t4⟩ hzB hzB2 hbB5)
      | (go_at_call 64; refine (insertR_any rs (x, y, z) n k g _ g _ hn.out (by omega) hk (by first | exact hrow | exact rowAt_al hrow _) (by first | exact rowAt_new w5 x y z | exact rowAt_below hb5 (rowAt_new wB.drew x y z)) (by first | exact Nat.ne_of_gt (rowAt_lt hrow) | exact Nat.ne_of_lt (Nat.lt_of_lt_of_le (alloc_lt2 wB.drew _) hg0)) (Nat.le_refl _)).mono ?_; rintro e w6 ⟨rfl, hX, hg6⟩; have hbB6 : Below wB.heap.size wB w6 := (by first | exact hbB5.trans (gb_below hg6 hsz5 (fun q hq => by simp only [Option.some.injEq] at hq; omega)) | exact (hbB5.alloc hsz5 _).trans (gb_below hg6 (Nat.le_trans hsz5 (Nat.le_of_lt (alloc_lt2 w5 _))) (fun q hq => by simp only [Option.some.injEq] at hq; omega))); have hk6 := q5_below ⟨t0, t1, t2, t3, t4⟩ hzB hzB2 hbB6; have HRR := Lib.hid (rings_of_row (cap := n + 1) hX (List.take_of_length_le (by rw [i64s_length, flat_len, HSL.out]; exact Nat.le_refl _)) HSL.out (by omega)))
      | (go_at_call 63; refine (withRings_any s a n c _ (insR rs k (x, y, z)) w6 HRR.out hs).mono ?_; rintro e w7 ⟨rfl, hb7⟩; rw [HQ.out, show resC s (insR rs k (x, y, z)) = 0 from by unfold resC; rw [HQ.out]; rfl, show resS s 0 = s from rfl]; have hbB7 : Below wB.heap.size wB w7 := (by exact hbB6.trans (hb7.mono hbB6.size)); have hk7 := q5_below ⟨t0, t1, t2, t3, t4⟩ hzB hzB2 hbB7; have hbk7 : BlankP w7 (w.heap.size + 1 + 1) := (by exact blankP_kept hbB7 hl4 HBL4.out); obtain ⟨⟨b0, b1⟩, f0, f1⟩ := hbk7))
  all_goals
    have HBF := Lib.hid (below_of HB4.out hbB7 HB4.out.size)
    have HOWN := Lib.hid (show OwnRings w7 w.heap.size (.slice (some ⟨g, 0, none⟩) (n + 1) (n + 1)) (insR rs k (x, y, z)) from by
      refine ⟨g, n + 1, by rw [HSL.out], by omega, Nat.lt_of_lt_of_le (rowAt_lt hX) hb7.size, ?_⟩
      rw [HSL.out]
      exact row_keepR hb7 (rowAt_own hX (by rw [i64s_length, flat_len, HSL.out]) (List.take_of_length_le (by rw [i64s_length, flat_len, HSL.out]; exact Nat.le_refl _)) (Nat.le_refl _) (by unfold maxLen; omega) (by omega)))
    clear hg6 hb7 hX hk5 hk6 hk7 hbB5 hbB6 hbB7 hb5 hrow t0 t1 t2 t3 t4
    go_wp2
    try simp only [Exit.inBlock, Exit.then]
    refine bodyPost_ret_by (v := .tuple #[.agg #[.string s, .slice (some ⟨g, 0, none⟩) (n + 1) (n + 1)], .int .i64 0]) (by rw [results_cellP rfl]; go_simp) rfl ?_
    refine ⟨_, rfl, ?_, ?_⟩
    · exact rv_own (ownR_set2 HOWN.out (w.heap.size + 1 + 1) _ _ (fun g' o n' c' e => by simp only [Value.slice.injEq, Option.some.injEq, Addr.mk.injEq] at e; omega))
    · exact (HBF.out.setCell (by show _ ≤ w.heap.size + 1 + 1; omega) _).setCell (by show _ ≤ w.heap.size + 1 + 1; omega) _
set_option maxRecDepth 20000 in
set_option maxHeartbeats 4000000 in
theorem implInsert_no (s : ByteArray) (a : Option Addr) (n c : Nat) (rs : List Rg) (x y z : Int) (w : World) (k : Nat) (hn : Hid (rs.length = n)) (h1 : 1 ≤ n) (h32 : n < 32) (hk : k ≤ n) (HP : Hid (profB s rs = true)) (HR : Hid (ringB (x, y, z) = true)) (HK : Hid (inB (k : Int) 0 n = true)) (HQ : Hid (profB s (insR rs k (x, y, z)) = false)) (HI : Hid (RingsAt w (.slice a n c) rs)) (hs : s.size ≤ maxLen) :
    Calls Try.prog 37 #[.agg #[.string s, .slice a n c], .int .i64 (k : Int), .agg #[.int .i64 x, .int .i64 y, .int .i64 z]] w (ProfU ⟨#[]⟩ [] 6 w) := by
  have hne32 : ((n : Int) == 32) = false := by simp; omega
  have hBA := (((Below.refl w.heap.size w).alloc (Nat.le_refl _) (.cells #[.string s, .slice a n c] 35)).alloc (by simp) (.cells #[.int .i64 x, .int .i64 y, .int .i64 z] 25)).alloc (by simp; omega) (.cells #[.string ⟨#[]⟩, .slice none 0 0] 35)
  have z0 : (((w.alloc (.cells #[.string s, .slice a n c] 35)).alloc (.cells #[.int .i64 x, .int .i64 y, .int .i64 z] 25)).alloc (.cells #[.string ⟨#[]⟩, .slice none 0 0] 35)).cell? ⟨w.heap.size, 0, none⟩ = some (.string s) := by go_simp
  have z1 : (((w.alloc (.cells #[.string s, .slice a n c] 35)).alloc (.cells #[.int .i64 x, .int .i64 y, .int .i64 z] 25)).alloc (.cells #[.string ⟨#[]⟩, .slice none 0 0] 35)).cell? ⟨w.heap.size, 1, none⟩ = some (.slice a n c) := by go_simp
  have y0 : (((w.alloc (.cells #[.string s, .slice a n c] 35)).alloc (.cells #[.int .i64 x, .int .i64 y, .int .i64 z] 25)).alloc (.cells #[.string ⟨#[]⟩, .slice none 0 0] 35)).cell? ⟨w.heap.size + 1, 0, none⟩ = some (.int .i64 x) := by go_simp
  have y1 : (((w.alloc (.cells #[.string s, .slice a n c] 35)).alloc (.cells #[.int .i64 x, .int .i64 y, .int .i64 z] 25)).alloc (.cells #[.string ⟨#[]⟩, .slice none 0 0] 35)).cell? ⟨w.heap.size + 1, 1, none⟩ = some (.int .i64 y) := by go_simp
  have y2 : (((w.alloc (.cells #[.string s, .slice a n c] 35)).alloc (.cells #[.int .i64 x, .int .i64 y, .int .i64 z] 25)).alloc (.cells #[.string ⟨#[]⟩, .slice none 0 0] 35)).cell? ⟨w.heap.size + 1, 2, none⟩ = some (.int .i64 z) := by go_simp
  have hbl : BlankP (((w.alloc (.cells #[.string s, .slice a n c] 35)).alloc (.cells #[.int .i64 x, .int .i64 y, .int .i64 z] 25)).alloc (.cells #[.string ⟨#[]⟩, .slice none 0 0] 35)) (w.heap.size + 1 + 1) := ⟨⟨by go_simp, by go_simp⟩, by go_simp, by go_simp⟩
  have hl1 : w.heap.size + 1 + 1 < (((w.alloc (.cells #[.string s, .slice a n c] 35)).alloc (.cells #[.int .i64 x, .int .i64 y, .int .i64 z] 25)).alloc (.cells #[.string ⟨#[]⟩, .slice none 0 0] 35)).heap.size := by simp
  have HBA := Lib.hid hBA
  have HIA := Lib.hid (rings_kept hBA HI.out)
  go_enter Try.func37, Try.ntmps37
  go_wp2_with fail
  clear hBA
  generalize (((w.alloc (.cells #[.string s, .slice a n c] 35)).alloc (.cells #[.int .i64 x, .int .i64 y, .int .i64 z] 25)).alloc (.cells #[.string ⟨#[]⟩, .slice none 0 0] 35)) = wA at *
  refine (implValidP_any s _ rs _ HIA.out hs).mono ?_
  rintro e w1 ⟨rfl, hb⟩
  rw [HP.out]
  have q0 := (below_cell hb _ _ (by omega)).trans z0
  have q1 := (below_cell hb _ _ (by omega)).trans z1
  have x0 := (below_cell hb _ _ (show w.heap.size + 1 < wA.heap.size by omega)).trans y0
  have x1 := (below_cell hb _ _ (show w.heap.size + 1 < wA.heap.size by omega)).trans y1
  have x2 := (below_cell hb _ _ (show w.heap.size + 1 < wA.heap.size by omega)).trans y2
  have HBL := Lib.hid (blankP_kept hb hl1 hbl)
  have hl2 := Nat.lt_of_lt_of_le hl1 hb.size
  have HI1 := Lib.hid (rings_kept hb HIA.out)
  have HB := Lib.hid (below_of HBA.out hb HBA.out.size)
  clear hb hbl z0 z1 y0 y1 y2
  go_wp2_with fail
  refine (implValidRing_any x y z _).mono ?_
  rintro e wD ⟨rfl, hb⟩
  rw [HR.out]
  have HB2 := Lib.hid (below_of HB.out hb HB.out.size)
  have HBL2 := Lib.hid (blankP_kept hb hl2 HBL.out)
  have HI2 := Lib.hid (rings_kept hb HI1.out)
  have r0 := (below_cell hb _ _ (show w.heap.size < w1.heap.size by omega)).trans q0
  have r1 := (below_cell hb _ _ (show w.heap.size < w1.heap.size by omega)).trans q1
  have u0 := (below_cell hb _ _ (show w.heap.size + 1 < w1.heap.size by omega)).trans x0
  have u1 := (below_cell hb _ _ (show w.heap.size + 1 < w1.heap.size by omega)).trans x1
  have u2 := (below_cell hb _ _ (show w.heap.size + 1 < w1.heap.size by omega)).trans x2
  have hl3 := Nat.lt_of_lt_of_le hl2 hb.size
  clear hb q0 q1 x0 x1 x2 hl2
  go_wp2_with fail
  refine (within_i64 _ _ [(k : Int)] _ 0 1 1 _ rfl (by omega) (cell_int _ _ _ _ (by simp))).mono ?_
  rintro e w3 ⟨rfl, rfl⟩
  rw [all_one, HK.out]
  have hal := below_al wD (.cells #[.int .i64 (k : Int)] 2)
  have HB4 := Lib.hid (HB2.out.alloc HB2.out.size (.cells #[.int .i64 (k : Int)] 2))
  have HBL4 := Lib.hid (blankP_kept hal hl3 HBL2.out)
  have HI4 := Lib.hid (rings_kept hal HI2.out)
  have t0 := (below_cell hal _ _ (show w.heap.size < wD.heap.size by omega)).trans r0
  have t1 := (below_cell hal _ _ (show w.heap.size < wD.heap.size by omega)).trans r1
  have t2 := (below_cell hal _ _ (show w.heap.size + 1 < wD.heap.size by omega)).trans u0
  have t3 := (below_cell hal _ _ (show w.heap.size + 1 < wD.heap.size by omega)).trans u1
  have t4 := (below_cell hal _ _ (show w.heap.size + 1 < wD.heap.size by omega)).trans u2
  have hl4 := Nat.lt_of_lt_of_le hl3 hal.size
  clear hal r0 r1 u0 u1 u2
  generalize wD.alloc (.cells #[.int .i64 (k : Int)] 2) = wB at *
  have HSL := Lib.hid (show (insR rs k (x, y, z)).length = n + 1 by rw [insR_len _ _ _ (by rw [hn.out]; omega), hn.out])
  have hzB : w.heap.size < wB.heap.size := by omega
  have hzB2 : w.heap.size + 1 < wB.heap.size := by omega
  go_wp2
  go_region_held3 (fun w' => w'.cell? ⟨w.heap.size, 0, none⟩ = some (.string s) ∧ w'.cell? ⟨w.heap.size, 1, none⟩ = some (.slice a n c) ∧ w'.cell? ⟨w.heap.size + 1, 0, none⟩ = some (.int .i64 x) ∧ w'.cell? ⟨w.heap.size + 1, 1, none⟩ = some (.int .i64 y) ∧ w'.cell? ⟨w.heap.size + 1, 2, none⟩ = some (.int .i64 z))
    (first | exact ⟨t0, t1, t2, t3, t4⟩ | exact hk7 | exact q5_set2 hk7 (by omega) (by omega) | exact hk6 | exact hk5 | exact q5_below hk5 (Nat.lt_of_lt_of_le hzB hsz5) (Nat.lt_of_lt_of_le hzB2 hsz5) (below_al _ _) | exact q5_below (w := wB.drew) ⟨t0, t1, t2, t3, t4⟩ hzB hzB2 (below_al _ _))
    (first
      | (go_at_call 65; refine (ringsCopy_any s _ rs _ (by first | exact rings_kept (w := wB) (w' := wB.drew) ⟨rfl, rfl, rfl, Nat.le_refl _, fun _ _ => rfl⟩ HI4.out | exact rings_kept (below_al wB.drew _) (rings_kept (w := wB) (w' := wB.drew) ⟨rfl, rfl, rfl, Nat.le_refl _, fun _ _ => rfl⟩ HI4.out)) (by rw [hn.out]; exact h1) (by rw [hn.out]; omega) n hn).mono ?_; rintro e w5 ⟨g, rfl, hg0, hrow, hb5⟩; have hgB : wB.heap.size ≤ g := (by first | exact hg0 | exact Nat.le_trans (Nat.le_of_lt (alloc_lt2 wB.drew _)) hg0); have hsz5 : wB.heap.size ≤ w5.heap.size := (by first | exact hb5.size | exact Nat.le_trans (Nat.le_of_lt (alloc_lt2 wB.drew _)) hb5.size); have hbB5 : Below wB.heap.size wB w5 := (by first | exact ⟨hb5.os, hb5.tape, hb5.output, hb5.size, hb5.block⟩ | exact ((show Below wB.heap.size wB wB.drew from ⟨rfl, rfl, rfl, Nat.le_refl _, fun _ _ => rfl⟩).alloc (Nat.le_refl _) (.cells #[.int .i64 x, .int .i64 y, .int .i64 z] 25)).trans (hb5.mono (Nat.le_of_lt (alloc_lt2 wB.drew _)))); have hk5 := q5_below ⟨t0, t1, t2, t3, t4⟩ hzB hzB2 hbB5)
      | (go_at_call 64; refine (insertR_any rs (x, y, z) n k g _ g _ hn.out (by omega) hk (by first | exact hrow | exact rowAt_al hrow _) (by first | exact rowAt_new w5 x y z | exact rowAt_below hb5 (rowAt_new wB.drew x y z)) (by first | exact Nat.ne_of_gt (rowAt_lt hrow) | exact Nat.ne_of_lt (Nat.lt_of_lt_of_le (alloc_lt2 wB.drew _) hg0)) (Nat.le_refl _)).mono ?_; rintro e w6 ⟨rfl, hX, hg6⟩; have hbB6 : Below wB.heap.size wB w6 := (by first | exact hbB5.trans (gb_below hg6 hsz5 (fun q hq => by simp only [Option.some.injEq] at hq; omega)) | exact (hbB5.alloc hsz5 _).trans (gb_below hg6 (Nat.le_trans hsz5 (Nat.le_of_lt (alloc_lt2 w5 _))) (fun q hq => by simp only [Option.some.injEq] at hq; omega))); have hk6 := q5_below ⟨t0, t1, t2, t3, t4⟩ hzB hzB2 hbB6; have HRR := Lib.hid (rings_of_row (cap := n + 1) hX (List.take_of_length_le (by rw [i64s_length, flat_len, HSL.out]; exact Nat.le_refl _)) HSL.out (by omega)))
      | (go_at_call 63; refine (withRings_any s a n c _ (insR rs k (x, y, z)) w6 HRR.out hs).mono ?_; rintro e w7 ⟨rfl, hb7⟩; rw [HQ.out, show resC s (insR rs k (x, y, z)) = 6 from by unfold resC; rw [HQ.out]; rfl, show resS s 6 = ⟨#[]⟩ from rfl]; have hbB7 : Below wB.heap.size wB w7 := (by exact hbB6.trans (hb7.mono hbB6.size)); have hk7 := q5_below ⟨t0, t1, t2, t3, t4⟩ hzB hzB2 hbB7; have hbk7 : BlankP w7 (w.heap.size + 1 + 1) := (by exact blankP_kept hbB7 hl4 HBL4.out); obtain ⟨⟨b0, b1⟩, f0, f1⟩ := hbk7))
  all_goals
    have HBF := Lib.hid (below_of HB4.out hbB7 HB4.out.size)
    clear hg6 hb7 hX hk5 hk6 hk7 hbB5 hbB6 hbB7 hb5 hrow t0 t1 t2 t3 t4
    go_wp2
    try simp only [Exit.inBlock, Exit.then]
    refine bodyPost_ret_by (v := .tuple #[.agg #[.string ⟨#[]⟩, .slice none 0 0], .int .i64 6]) (by rw [results_cellP rfl]; go_simp) rfl ?_
    refine ⟨_, rfl, .inl ⟨rfl, rfl⟩, ?_⟩
    exact (HBF.out.setCell (by show _ ≤ w.heap.size + 1 + 1; omega) _).setCell (by show _ ≤ w.heap.size + 1 + 1; omega) _
theorem implInsert_any (s : ByteArray) (v : Value) (rs : List Rg) (k : Int) (x y z : Int) (w : World) (h : RingsAt w v rs) (hs : s.size ≤ maxLen) :
    Calls Try.prog 37 #[.agg #[.string s, v], .int .i64 k, .agg #[.int .i64 x, .int .i64 y, .int .i64 z]] w (ProfU (resS s (insC s rs k (x, y, z))) (resL (insR rs k.toNat (x, y, z)) (insC s rs k (x, y, z))) (insC s rs k (x, y, z)) w) := by
  have HI := Lib.hid h
  obtain ⟨a, c, rfl⟩ := rings_form h
  rcases Bool.eq_false_or_eq_true (profB s rs) with hp | hp
  · obtain ⟨-, ⟨n1, n2⟩, -, -⟩ := prof_iff.1 hp
    rcases Bool.eq_false_or_eq_true (ringB (x, y, z)) with hr | hr
    · rcases Bool.eq_false_or_eq_true (inB k 0 rs.length) with hk | hk
      · by_cases h32 : rs.length = 32
        · rw [insC_5 hp hr hk h32]
          exact implInsert_full s a rs.length c rs x y z w k h32 (Lib.hid hp) (Lib.hid hr) (Lib.hid hk) HI hs
        · rw [insC_0 hp hr hk h32]
          have hb := inB_iff.1 hk
          obtain ⟨q, rfl⟩ := Int.eq_ofNat_of_zero_le hb.1
          rw [Int.toNat_natCast]
          rcases Bool.eq_false_or_eq_true (profB s (insR rs q (x, y, z))) with hq | hq
          · rw [show resC s (insR rs q (x, y, z)) = 0 by unfold resC; rw [if_pos hq]]
            exact implInsert_yes s a rs.length c rs x y z w q (Lib.hid rfl) n1 (by omega) (by omega) (Lib.hid hp) (Lib.hid hr) (Lib.hid hk) (Lib.hid hq) HI hs
          · rw [show resC s (insR rs q (x, y, z)) = 6 by unfold resC; rw [hq]; rfl]
            exact implInsert_no s a rs.length c rs x y z w q (Lib.hid rfl) n1 (by omega) (by omega) (Lib.hid hp) (Lib.hid hr) (Lib.hid hk) (Lib.hid hq) HI hs
      · rw [insC_2 hp hr hk]
        exact implInsert_range s a rs.length c rs x y z w k (Lib.hid hp) (Lib.hid hr) (Lib.hid hk) HI hs
    · rw [insC_1r hp hr]
      exact implInsert_ring s a rs.length c rs x y z w k (Lib.hid hp) (Lib.hid hr) HI hs
  · rw [insC_1 hp]
    exact implInsert_bad s a rs.length c rs x y z w k (Lib.hid hp) HI hs
end Go.Proofs.Ytojkijcdfnfnlaa
