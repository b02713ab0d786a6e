/- A smoothed profile: the program's walk. -/
import Derived.Test.YtgnnpimfcbkloabSmoS
import Derived.Test.YtgnnpimfcbkloabRenI
set_option linter.unusedVariables false
namespace Go.Proofs.Ytgnnpimfcbkloab
open Go.ChangeShapes Go.WideShapes Go.ChangeAt Go.RowKit

set_option maxRecDepth 20000 in
set_option maxHeartbeats 4000000 in
theorem smoothed_any (x0 x1 x2 y0 y1 y2 z0 z1 z2 : Int) (w : World) (hx0 : 0 ≤ x0 ∧ x0 ≤ 150000) (hx1 : 0 ≤ x1 ∧ x1 ≤ 150000) (hy0 : 0 ≤ y0 ∧ y0 ≤ 150000) (hy1 : 0 ≤ y1 ∧ y1 ≤ 150000) (hz0 : 0 ≤ z0 ∧ z0 ≤ 150000) (hz1 : 0 ≤ z1 ∧ z1 ≤ 150000) :
    Calls Try.prog 90 #[.agg #[.int .i64 y0, .int .i64 y1, .int .i64 y2, .int .i64 x0, .int .i64 x1, .int .i64 x2, .int .i64 z0, .int .i64 z1, .int .i64 z2]] w fun e w' => e = .returned (.agg #[.int .i64 (meanV x0 y0 z0), .int .i64 (meanV x1 y1 z1), .int .i64 y2]) ∧ Below w.heap.size w w' := by
  have HN1 := Lib.hid (fun w => nearest_any (x0 + 2 * y0 + z0) 4 w (by omega) (by omega))
  have HN2 := Lib.hid (fun w => nearest_any (x1 + 2 * y1 + z1) 4 w (by omega) (by omega))
  have HE1 := Lib.hid (show meanV x0 y0 z0 = nq (x0 + 2 * y0 + z0) 4 from rfl)
  have HE2 := Lib.hid (show meanV x1 y1 z1 = nq (x1 + 2 * y1 + z1) 4 from rfl)
  obtain ⟨m1, hm1⟩ : ∃ m, meanV x0 y0 z0 = m := ⟨_, rfl⟩
  obtain ⟨m2, hm2⟩ : ∃ m, meanV x1 y1 z1 = m := ⟨_, rfl⟩
  rw [hm1, hm2]
  rw [← HE1.out, hm1] at HN1
  rw [← HE2.out, hm2] at HN2
  clear hm1 hm2
  have u1 : IntKind.i64.wrap (2 * y0) = 2 * y0 := IntWalk.i64_in _ (by omega)
  have u2 : IntKind.i64.wrap (x0 + 2 * y0) = x0 + 2 * y0 := IntWalk.i64_in _ (by omega)
  have u3 : IntKind.i64.wrap (x0 + 2 * y0 + z0) = x0 + 2 * y0 + z0 := IntWalk.i64_in _ (by omega)
  have u4 : IntKind.i64.wrap (2 * y1) = 2 * y1 := IntWalk.i64_in _ (by omega)
  have u5 : IntKind.i64.wrap (x1 + 2 * y1) = x1 + 2 * y1 := IntWalk.i64_in _ (by omega)
  have u6 : IntKind.i64.wrap (x1 + 2 * y1 + z1) = x1 + 2 * y1 + z1 := IntWalk.i64_in _ (by omega)
  have c0 : ((w.alloc (.cells #[.int .i64 y0, .int .i64 y1, .int .i64 y2, .int .i64 x0, .int .i64 x1, .int .i64 x2, .int .i64 z0, .int .i64 z1, .int .i64 z2] 99)).alloc (.cells #[.int .i64 0, .int .i64 0, .int .i64 0] 54)).cell? ⟨w.heap.size, 0, none⟩ = some (.int .i64 y0) := by go_simp
  have c1 : ((w.alloc (.cells #[.int .i64 y0, .int .i64 y1, .int .i64 y2, .int .i64 x0, .int .i64 x1, .int .i64 x2, .int .i64 z0, .int .i64 z1, .int .i64 z2] 99)).alloc (.cells #[.int .i64 0, .int .i64 0, .int .i64 0] 54)).cell? ⟨w.heap.size, 1, none⟩ = some (.int .i64 y1) := by go_simp
  have c2 : ((w.alloc (.cells #[.int .i64 y0, .int .i64 y1, .int .i64 y2, .int .i64 x0, .int .i64 x1, .int .i64 x2, .int .i64 z0, .int .i64 z1, .int .i64 z2] 99)).alloc (.cells #[.int .i64 0, .int .i64 0, .int .i64 0] 54)).cell? ⟨w.heap.size, 2, none⟩ = some (.int .i64 y2) := by go_simp
  have c3 : ((w.alloc (.cells #[.int .i64 y0, .int .i64 y1, .int .i64 y2, .int .i64 x0, .int .i64 x1, .int .i64 x2, .int .i64 z0, .int .i64 z1, .int .i64 z2] 99)).alloc (.cells #[.int .i64 0, .int .i64 0, .int .i64 0] 54)).cell? ⟨w.heap.size, 3, none⟩ = some (.int .i64 x0) := by go_simp
  have c4 : ((w.alloc (.cells #[.int .i64 y0, .int .i64 y1, .int .i64 y2, .int .i64 x0, .int .i64 x1, .int .i64 x2, .int .i64 z0, .int .i64 z1, .int .i64 z2] 99)).alloc (.cells #[.int .i64 0, .int .i64 0, .int .i64 0] 54)).cell? ⟨w.heap.size, 4, none⟩ = some (.int .i64 x1) := by go_simp
  have c5 : ((w.alloc (.cells #[.int .i64 y0, .int .i64 y1, .int .i64 y2, .int .i64 x0, .int .i64 x1, .int .i64 x2, .int .i64 z0, .int .i64 z1, .int .i64 z2] 99)).alloc (.cells #[.int .i64 0, .int .i64 0, .int .i64 0] 54)).cell? ⟨w.heap.size, 5, none⟩ = some (.int .i64 x2) := by go_simp
  have c6 : ((w.alloc (.cells #[.int .i64 y0, .int .i64 y1, .int .i64 y2, .int .i64 x0, .int .i64 x1, .int .i64 x2, .int .i64 z0, .int .i64 z1, .int .i64 z2] 99)).alloc (.cells #[.int .i64 0, .int .i64 0, .int .i64 0] 54)).cell? ⟨w.heap.size, 6, none⟩ = some (.int .i64 z0) := by go_simp
  have c7 : ((w.alloc (.cells #[.int .i64 y0, .int .i64 y1, .int .i64 y2, .int .i64 x0, .int .i64 x1, .int .i64 x2, .int .i64 z0, .int .i64 z1, .int .i64 z2] 99)).alloc (.cells #[.int .i64 0, .int .i64 0, .int .i64 0] 54)).cell? ⟨w.heap.size, 7, none⟩ = some (.int .i64 z1) := by go_simp
  have c8 : ((w.alloc (.cells #[.int .i64 y0, .int .i64 y1, .int .i64 y2, .int .i64 x0, .int .i64 x1, .int .i64 x2, .int .i64 z0, .int .i64 z1, .int .i64 z2] 99)).alloc (.cells #[.int .i64 0, .int .i64 0, .int .i64 0] 54)).cell? ⟨w.heap.size, 8, none⟩ = some (.int .i64 z2) := by go_simp
  have r0 : ((w.alloc (.cells #[.int .i64 y0, .int .i64 y1, .int .i64 y2, .int .i64 x0, .int .i64 x1, .int .i64 x2, .int .i64 z0, .int .i64 z1, .int .i64 z2] 99)).alloc (.cells #[.int .i64 0, .int .i64 0, .int .i64 0] 54)).cell? ⟨w.heap.size + 1, 0, none⟩ = some (.int .i64 0) := by go_simp
  have r1 : ((w.alloc (.cells #[.int .i64 y0, .int .i64 y1, .int .i64 y2, .int .i64 x0, .int .i64 x1, .int .i64 x2, .int .i64 z0, .int .i64 z1, .int .i64 z2] 99)).alloc (.cells #[.int .i64 0, .int .i64 0, .int .i64 0] 54)).cell? ⟨w.heap.size + 1, 1, none⟩ = some (.int .i64 0) := by go_simp
  have r2 : ((w.alloc (.cells #[.int .i64 y0, .int .i64 y1, .int .i64 y2, .int .i64 x0, .int .i64 x1, .int .i64 x2, .int .i64 z0, .int .i64 z1, .int .i64 z2] 99)).alloc (.cells #[.int .i64 0, .int .i64 0, .int .i64 0] 54)).cell? ⟨w.heap.size + 1, 2, none⟩ = some (.int .i64 0) := by go_simp
  have fc0 : ((w.alloc (.cells #[.int .i64 y0, .int .i64 y1, .int .i64 y2, .int .i64 x0, .int .i64 x1, .int .i64 x2, .int .i64 z0, .int .i64 z1, .int .i64 z2] 99)).alloc (.cells #[.int .i64 0, .int .i64 0, .int .i64 0] 54)).frozen? ⟨w.heap.size, 0, none⟩ = false := by go_simp
  have fc1 : ((w.alloc (.cells #[.int .i64 y0, .int .i64 y1, .int .i64 y2, .int .i64 x0, .int .i64 x1, .int .i64 x2, .int .i64 z0, .int .i64 z1, .int .i64 z2] 99)).alloc (.cells #[.int .i64 0, .int .i64 0, .int .i64 0] 54)).frozen? ⟨w.heap.size, 1, none⟩ = false := by go_simp
  have fr0 : ((w.alloc (.cells #[.int .i64 y0, .int .i64 y1, .int .i64 y2, .int .i64 x0, .int .i64 x1, .int .i64 x2, .int .i64 z0, .int .i64 z1, .int .i64 z2] 99)).alloc (.cells #[.int .i64 0, .int .i64 0, .int .i64 0] 54)).frozen? ⟨w.heap.size + 1, 0, none⟩ = false := by go_simp
  have fr1 : ((w.alloc (.cells #[.int .i64 y0, .int .i64 y1, .int .i64 y2, .int .i64 x0, .int .i64 x1, .int .i64 x2, .int .i64 z0, .int .i64 z1, .int .i64 z2] 99)).alloc (.cells #[.int .i64 0, .int .i64 0, .int .i64 0] 54)).frozen? ⟨w.heap.size + 1, 1, none⟩ = false := by go_simp
  have fr2 : ((w.alloc (.cells #[.int .i64 y0, .int .i64 y1, .int .i64 y2, .int .i64 x0, .int .i64 x1, .int .i64 x2, .int .i64 z0, .int .i64 z1, .int .i64 z2] 99)).alloc (.cells #[.int .i64 0, .int .i64 0, .int .i64 0] 54)).frozen? ⟨w.heap.size + 1, 2, none⟩ = false := by go_simp
  have hl : w.heap.size + 1 < ((w.alloc (.cells #[.int .i64 y0, .int .i64 y1, .int .i64 y2, .int .i64 x0, .int .i64 x1, .int .i64 x2, .int .i64 z0, .int .i64 z1, .int .i64 z2] 99)).alloc (.cells #[.int .i64 0, .int .i64 0, .int .i64 0] 54)).heap.size := by simp
  have HB := Lib.hid (show Below w.heap.size w ((w.alloc (.cells #[.int .i64 y0, .int .i64 y1, .int .i64 y2, .int .i64 x0, .int .i64 x1, .int .i64 x2, .int .i64 z0, .int .i64 z1, .int .i64 z2] 99)).alloc (.cells #[.int .i64 0, .int .i64 0, .int .i64 0] 54)) from (below_al _ _).alloc (by simp) _)
  clear hx0 hx1 hy0 hy1 hz0 hz1 HE1 HE2
  go_enter Try.func90, Try.ntmps90
  go_wp2_with fail
  generalize ((w.alloc (.cells #[.int .i64 y0, .int .i64 y1, .int .i64 y2, .int .i64 x0, .int .i64 x1, .int .i64 x2, .int .i64 z0, .int .i64 z1, .int .i64 z2] 99)).alloc (.cells #[.int .i64 0, .int .i64 0, .int .i64 0] 54)) = wA at *
  refine (HN1.out _).mono ?_
  rintro e w1 ⟨rfl, hb⟩
  replace c0 := (below_cell hb _ _ (show w.heap.size < _ by omega)).trans c0
  replace c1 := (below_cell hb _ _ (show w.heap.size < _ by omega)).trans c1
  replace c2 := (below_cell hb _ _ (show w.heap.size < _ by omega)).trans c2
  replace c3 := (below_cell hb _ _ (show w.heap.size < _ by omega)).trans c3
  replace c4 := (below_cell hb _ _ (show w.heap.size < _ by omega)).trans c4
  replace c5 := (below_cell hb _ _ (show w.heap.size < _ by omega)).trans c5
  replace c6 := (below_cell hb _ _ (show w.heap.size < _ by omega)).trans c6
  replace c7 := (below_cell hb _ _ (show w.heap.size < _ by omega)).trans c7
  replace c8 := (below_cell hb _ _ (show w.heap.size < _ by omega)).trans c8
  replace r0 := (below_cell hb _ _ hl).trans r0
  replace r1 := (below_cell hb _ _ hl).trans r1
  replace r2 := (below_cell hb _ _ hl).trans r2
  replace fc0 := (below_frozen hb w.heap.size 0 (by omega)).trans fc0
  replace fc1 := (below_frozen hb w.heap.size 1 (by omega)).trans fc1
  replace fr0 := (below_frozen hb (w.heap.size + 1) 0 hl).trans fr0
  replace fr1 := (below_frozen hb (w.heap.size + 1) 1 hl).trans fr1
  replace fr2 := (below_frozen hb (w.heap.size + 1) 2 hl).trans fr2
  replace HB := Lib.hid (below_of HB.out hb HB.out.size)
  replace hl := Nat.lt_of_lt_of_le hl hb.size
  clear hb
  have HS0 := Lib.hid (show (w1.setCell ⟨w.heap.size, 0, none⟩ (.int .i64 m1)).cell? ⟨w.heap.size, 0, none⟩ = some (.int .i64 m1) from World.cell?_setCell_same' _ _ _ (by rw [c0]; rfl))
  have HS1 := Lib.hid (show (w1.setCell ⟨w.heap.size, 0, none⟩ (.int .i64 m1)).cell? ⟨w.heap.size, 1, none⟩ = some (.int .i64 y1) from (World.cell?_setCell_other w1 _ _ _ (by simp)).trans c1)
  have HS2 := Lib.hid (show (w1.setCell ⟨w.heap.size, 0, none⟩ (.int .i64 m1)).cell? ⟨w.heap.size, 2, none⟩ = some (.int .i64 y2) from (World.cell?_setCell_other w1 _ _ _ (by simp)).trans c2)
  have HT0 := Lib.hid (show (w1.setCell ⟨w.heap.size, 0, none⟩ (.int .i64 m1)).cell? ⟨w.heap.size + 1, 0, none⟩ = some (.int .i64 0) from (World.cell?_setCell_far _ _ _ _ (by simp only; omega)).trans r0)
  have HT1 := Lib.hid (show (w1.setCell ⟨w.heap.size, 0, none⟩ (.int .i64 m1)).cell? ⟨w.heap.size + 1, 1, none⟩ = some (.int .i64 0) from (World.cell?_setCell_far _ _ _ _ (by simp only; omega)).trans r1)
  have HT2 := Lib.hid (show (w1.setCell ⟨w.heap.size, 0, none⟩ (.int .i64 m1)).cell? ⟨w.heap.size + 1, 2, none⟩ = some (.int .i64 0) from (World.cell?_setCell_far _ _ _ _ (by simp only; omega)).trans r2)
  have HF1 := Lib.hid (show (w1.setCell ⟨w.heap.size, 0, none⟩ (.int .i64 m1)).frozen? ⟨w.heap.size, 1, none⟩ = false from by go_simp)
  have HG0 := Lib.hid (show (w1.setCell ⟨w.heap.size, 0, none⟩ (.int .i64 m1)).frozen? ⟨w.heap.size + 1, 0, none⟩ = false from by go_simp)
  have HG1 := Lib.hid (show (w1.setCell ⟨w.heap.size, 0, none⟩ (.int .i64 m1)).frozen? ⟨w.heap.size + 1, 1, none⟩ = false from by go_simp)
  have HG2 := Lib.hid (show (w1.setCell ⟨w.heap.size, 0, none⟩ (.int .i64 m1)).frozen? ⟨w.heap.size + 1, 2, none⟩ = false from by go_simp)
  have HLS := Lib.hid (show w.heap.size + 1 < (w1.setCell ⟨w.heap.size, 0, none⟩ (.int .i64 m1)).heap.size by simpa using hl)
  have HBS := Lib.hid (show Below w.heap.size w (w1.setCell ⟨w.heap.size, 0, none⟩ (.int .i64 m1)) from HB.out.setCell (by show _ ≤ w.heap.size; omega) _)
  go_wp2_with fail
  clear c0 c1 c2 c3 c4 c5 c6 c7 c8 r0 r1 r2 fc0 fc1 fr0 fr1 fr2 hl
  generalize w1.setCell ⟨w.heap.size, 0, none⟩ (.int .i64 m1) = wS at *
  refine (HN2.out _).mono ?_
  rintro e w2 ⟨rfl, hb⟩
  have hl := HLS.out
  have c0 := (below_cell hb _ _ (show w.heap.size < _ by omega)).trans HS0.out
  have c1 := (below_cell hb _ _ (show w.heap.size < _ by omega)).trans HS1.out
  have c2 := (below_cell hb _ _ (show w.heap.size < _ by omega)).trans HS2.out
  have r0 := (below_cell hb _ _ hl).trans HT0.out
  have r1 := (below_cell hb _ _ hl).trans HT1.out
  have r2 := (below_cell hb _ _ hl).trans HT2.out
  have fc1 := (below_frozen hb w.heap.size 1 (by omega)).trans HF1.out
  have fr0 := (below_frozen hb (w.heap.size + 1) 0 hl).trans HG0.out
  have fr1 := (below_frozen hb (w.heap.size + 1) 1 hl).trans HG1.out
  have fr2 := (below_frozen hb (w.heap.size + 1) 2 hl).trans HG2.out
  have HB2 := Lib.hid (below_of HBS.out hb HBS.out.size)
  clear hb
  go_wp2
  try simp only [Exit.inBlock, Exit.then]
  refine bodyPost_ret_by (v := .agg #[.int .i64 m1, .int .i64 m2, .int .i64 y2]) (by rw [results_cell1o rfl]; go_simp) rfl ?_
  exact ⟨rfl, (((HB2.out.setCell (by show _ ≤ w.heap.size; omega) _).setCell (by show _ ≤ w.heap.size + 1; omega) _).setCell (by show _ ≤ w.heap.size + 1; omega) _).setCell (by show _ ≤ w.heap.size + 1; omega) _⟩
set_option maxRecDepth 20000 in
set_option maxHeartbeats 4000000 in
theorem implSmo_bad (s : ByteArray) (a : Option Addr) (n c : Nat) (rs : List Rg) (w : World) (hn : Hid (rs.length = n)) (HI : Hid (RingsAt w (.slice a n c) rs)) (hs : s.size ≤ maxLen) (HP : Hid (profB s rs = false)) :
    Calls Try.prog 31 #[.agg #[.string s, .slice a n c]] w (ProfU ⟨#[]⟩ [] 1 w) := by
  have hBA := ((Below.refl w.heap.size w).alloc (Nat.le_refl _) (.cells #[.string s, .slice a n c] 31)).alloc (by simp) (.cells #[.string ⟨#[]⟩, .slice none 0 0] 31)
  have z0 : ((w.alloc (.cells #[.string s, .slice a n c] 31)).alloc (.cells #[.string ⟨#[]⟩, .slice none 0 0] 31)).cell? ⟨w.heap.size, 0, none⟩ = some (.string s) := by go_simp
  have z1 : ((w.alloc (.cells #[.string s, .slice a n c] 31)).alloc (.cells #[.string ⟨#[]⟩, .slice none 0 0] 31)).cell? ⟨w.heap.size, 1, none⟩ = some (.slice a n c) := by go_simp
  have zf : ((w.alloc (.cells #[.string s, .slice a n c] 31)).alloc (.cells #[.string ⟨#[]⟩, .slice none 0 0] 31)).frozen? ⟨w.heap.size, 0, none⟩ = false := by go_simp
  have hbl : BlankP ((w.alloc (.cells #[.string s, .slice a n c] 31)).alloc (.cells #[.string ⟨#[]⟩, .slice none 0 0] 31)) (w.heap.size + 1) := ⟨⟨by go_simp, by go_simp⟩, by go_simp, by go_simp⟩
  have hl1 : w.heap.size + 1 < ((w.alloc (.cells #[.string s, .slice a n c] 31)).alloc (.cells #[.string ⟨#[]⟩, .slice none 0 0] 31)).heap.size := by simp
  have HBA := Lib.hid hBA
  have HIA := Lib.hid (rings_kept hBA HI.out)
  go_enter Try.func31, Try.ntmps31
  go_wp2_with fail
  clear hBA
  generalize ((w.alloc (.cells #[.string s, .slice a n c] 31)).alloc (.cells #[.string ⟨#[]⟩, .slice none 0 0] 31)) = wA at *
  refine (implValidP_any s _ rs _ HIA.out hs).mono ?_
  rintro e w1 ⟨rfl, hb⟩
  rw [HP.out]
  have q0 := (below_cell hb _ _ (by omega)).trans z0
  have q1 := (below_cell hb _ _ (by omega)).trans z1
  have qf := (below_frozen hb w.heap.size 0 (by omega)).trans zf
  have HBL := Lib.hid (blankP_kept hb hl1 hbl)
  have hl2 := Nat.lt_of_lt_of_le hl1 hb.size
  have HI1 := Lib.hid (rings_kept hb HIA.out)
  have HB := Lib.hid (below_of HBA.out hb HBA.out.size)
  clear hb hbl z0 z1 zf
  obtain ⟨⟨b0, b1⟩, f0, f1⟩ := HBL.out
  go_wp2
  try simp only [Exit.inBlock, Exit.then]
  refine bodyPost_ret_by (v := .tuple #[.agg #[.string ⟨#[]⟩, .slice none 0 0], .int .i64 1]) (by rw [results_cellP rfl]; go_simp) rfl ?_
  refine ⟨_, rfl, .inl ⟨rfl, rfl⟩, ?_⟩
  exact (HB.out.setCell (by show _ ≤ w.heap.size + 1; omega) _).setCell (by show _ ≤ w.heap.size + 1; omega) _
set_option maxRecDepth 20000 in
set_option maxHeartbeats 4000000 in
theorem implSmo_main (s : ByteArray) (a : Option Addr) (n c : Nat) (rs : List Rg) (w : World) (hn : Hid (rs.length = n)) (h1 : 1 ≤ n) (h32 : n ≤ 32) (HI : Hid (RingsAt w (.slice a n c) rs)) (hs : s.size ≤ maxLen) (HP : Hid (profB s rs = true)) :
    Calls Try.prog 31 #[.agg #[.string s, .slice a n c]] w (ProfU (resS s (resC s (smoL rs))) (resL (smoL rs) (resC s (smoL rs))) (resC s (smoL rs)) w) := by
  have hBA := ((Below.refl w.heap.size w).alloc (Nat.le_refl _) (.cells #[.string s, .slice a n c] 31)).alloc (by simp) (.cells #[.string ⟨#[]⟩, .slice none 0 0] 31)
  have z0 : ((w.alloc (.cells #[.string s, .slice a n c] 31)).alloc (.cells #[.string ⟨#[]⟩, .slice none 0 0] 31)).cell? ⟨w.heap.size, 0, none⟩ = some (.string s) := by go_simp
  have z1 : ((w.alloc (.cells #[.string s, .slice a n c] 31)).alloc (.cells #[.string ⟨#[]⟩, .slice none 0 0] 31)).cell? ⟨w.heap.size, 1, none⟩ = some (.slice a n c) := by go_simp
  have zf : ((w.alloc (.cells #[.string s, .slice a n c] 31)).alloc (.cells #[.string ⟨#[]⟩, .slice none 0 0] 31)).frozen? ⟨w.heap.size, 0, none⟩ = false := by go_simp
  have hbl : BlankP ((w.alloc (.cells #[.string s, .slice a n c] 31)).alloc (.cells #[.string ⟨#[]⟩, .slice none 0 0] 31)) (w.heap.size + 1) := ⟨⟨by go_simp, by go_simp⟩, by go_simp, by go_simp⟩
  have hl1 : w.heap.size + 1 < ((w.alloc (.cells #[.string s, .slice a n c] 31)).alloc (.cells #[.string ⟨#[]⟩, .slice none 0 0] 31)).heap.size := by simp
  have HBA := Lib.hid hBA
  have HIA := Lib.hid (rings_kept hBA HI.out)
  go_enter Try.func31, Try.ntmps31
  go_wp2_with fail
  clear hBA
  generalize ((w.alloc (.cells #[.string s, .slice a n c] 31)).alloc (.cells #[.string ⟨#[]⟩, .slice none 0 0] 31)) = wA at *
  refine (implValidP_any s _ rs _ HIA.out hs).mono ?_
  rintro e w1 ⟨rfl, hb⟩
  rw [HP.out]
  have q0 := (below_cell hb _ _ (by omega)).trans z0
  have q1 := (below_cell hb _ _ (by omega)).trans z1
  have qf := (below_frozen hb w.heap.size 0 (by omega)).trans zf
  have HBL := Lib.hid (blankP_kept hb hl1 hbl)
  have hl2 := Nat.lt_of_lt_of_le hl1 hb.size
  have HI1 := Lib.hid (rings_kept hb HIA.out)
  have HB := Lib.hid (below_of HBA.out hb HBA.out.size)
  clear hb hbl z0 z1 zf
  obtain ⟨b, off, rfl, hbl, hsrc⟩ := src_lie hn.out h1 HI1.out
  have HCS := Lib.hid (fun i (hi : i < n) => (show RingIn w1 b (off + i * 3) (rs.getD i zR) from by have := ring_in (w := w1) (b := b) (off := off) (rs := rs) (fun j hj => hsrc j (by rw [← hn.out]; exact hj)) i (by rw [hn.out]; exact hi); exact this))
  clear hsrc
  have hq0 := q0
  have hq1 := q1
  go_wp2_with fail
  refine (ringsCopy_any s _ rs _ HI1.out (by rw [hn.out]; exact h1) (by rw [hn.out]; exact h32) n hn).mono ?_
  rintro e w3 ⟨g, rfl, hg, hrow, hb⟩
  have HBL3 := Lib.hid (blankP_kept hb hl2 HBL.out)
  have hl3 := Nat.lt_of_lt_of_le hl2 hb.size
  have HB3 := Lib.hid (below_of HB.out hb HB.out.size)
  have hw1 : w.heap.size + 2 ≤ w1.heap.size := hl2
  have HVR := Lib.hid (fun i hi => prof_ring HP.out i hi)
  have hg2 : w.heap.size + 2 ≤ g := by omega
  have HO3 := Lib.hid (show w3.ownsRow w1.heap.size 54 3 (.slice (some ⟨g, 0, none⟩) n (n + 1)) n (i64s (flat (smoK rs 1))) from by
    rw [smoK_one]
    exact rowAt_own hrow (copy_len hn.out) (copy_take hn.out) (by omega) (by unfold maxLen; omega) hg)
  have HGW := Lib.hid (rowAt_lt hrow)
  have HB13 := Lib.hid hb
  clear hrow hb q0 q1 qf
  have hge : g < w3.heap.size := HGW.out
  have hw3 : IntKind.i64.wrap ((n : Int) - 1) = (n : Int) - 1 := IntWalk.i64_in _ (by omega)
  go_wp2
  go_loopw [5] (fun i wr => ∃ k : Nat, k + 1 ≤ max 1 (n - 1) ∧ i = .int .i64 ((k : Int) + 1) ∧ Hid (wr.ownsRow w1.heap.size 54 3 (.slice (some ⟨g, 0, none⟩) n (n + 1)) n (i64s (flat (smoK rs (k + 1))))) ∧ Hid (BlankP wr (w.heap.size + 1)) ∧ Hid (Below w.heap.size w wr) ∧ Hid (Below w1.heap.size w1 wr) ∧ g < wr.heap.size) (fun i _ => n - (intOf i).toNat)
  case atStart => exact ⟨0, by omega, rfl, HO3, HBL3, HB3, HB13, hge⟩
  case round =>
    obtain ⟨k, hk, rfl, HO, HBK, HBW, HBV, hsz⟩ := hrel
    have p0 := (below_cell HBV.out _ _ (show w.heap.size < w1.heap.size by omega)).trans hq0
    have p1 := (below_cell HBV.out _ _ (show w.heap.size < w1.heap.size by omega)).trans hq1
    have hw2 : IntKind.i64.wrap ((k : Int) + 1 + 1) = (k : Int) + 1 + 1 := IntWalk.i64_in _ (by omega)
    by_cases hlt : k + 1 + 1 < n
    · have e0 := HCS.out k (by omega)
      have e1 := HCS.out (k + 1) (by omega)
      have e2 := HCS.out (k + 1 + 1) hlt
      have rb0 := HVR.out k (by rw [hn.out]; omega)
      have rb1 := HVR.out (k + 1) (by rw [hn.out]; omega)
      have rb2 := HVR.out (k + 1 + 1) (by rw [hn.out]; exact hlt)
      have HSR := Lib.hid (show smoR rs (k + 1) = (meanV (rs.getD k zR).1 (rs.getD (k + 1) zR).1 (rs.getD (k + 1 + 1) zR).1, meanV (rs.getD k zR).2.1 (rs.getD (k + 1) zR).2.1 (rs.getD (k + 1 + 1) zR).2.1, (rs.getD (k + 1) zR).2.2) from rfl)
      have HNX := Lib.hid (smoK_next rs (k + 1) (by omega) (by rw [hn.out]; omega))
      have HKL := Lib.hid (show (smoK rs (k + 1)).length = n by rw [smoK_len, hn.out])
      obtain ⟨⟨x0, x1, x2⟩, hx⟩ : ∃ r, rs.getD k zR = r := ⟨_, rfl⟩
      obtain ⟨⟨y0, y1, y2⟩, hy⟩ : ∃ r, rs.getD (k + 1) zR = r := ⟨_, rfl⟩
      obtain ⟨⟨z0, z1, z2⟩, hz⟩ : ∃ r, rs.getD (k + 1 + 1) zR = r := ⟨_, rfl⟩
      rw [hx, hy, hz] at HSR
      rw [hx] at e0 rb0
      rw [hy] at e1 rb1
      rw [hz] at e2 rb2
      clear hx hy hz
      have rx := ring_iff.1 rb0
      have ry := ring_iff.1 rb1
      have rz := ring_iff.1 rb2
      simp only at rx ry rz
      have HSM := Lib.hid (fun w => smoothed_any x0 x1 x2 y0 y1 y2 z0 z1 z2 w (by omega) (by omega) (by omega) (by omega) (by omega) (by omega))
      have HST := Lib.hid (fun (W : World) (h : W.ownsRow w1.heap.size 54 3 (.slice (some ⟨g, 0, none⟩) n (n + 1)) n (i64s (flat (smoK rs (k + 1))))) => store3 h (k + 1) (meanV x0 y0 z0, meanV x1 y1 z1, y2))
      generalize meanV x0 y0 z0 = m1 at *
      generalize meanV x1 y1 z1 = m2 at *
      have a0 : wr.cell? ⟨b, off + k * 3, none⟩ = some (.int .i64 x0) := (below_cell HBV.out _ _ hbl).trans e0.c0
      have a1 : wr.cell? ⟨b, off + k * 3 + 1, none⟩ = some (.int .i64 x1) := (below_cell HBV.out _ _ hbl).trans e0.c1
      have a2 : wr.cell? ⟨b, off + k * 3 + 2, none⟩ = some (.int .i64 x2) := (below_cell HBV.out _ _ hbl).trans e0.c2
      have b0 : wr.cell? ⟨b, off + (k + 1) * 3, none⟩ = some (.int .i64 y0) := (below_cell HBV.out _ _ hbl).trans e1.c0
      have b1 : wr.cell? ⟨b, off + (k + 1) * 3 + 1, none⟩ = some (.int .i64 y1) := (below_cell HBV.out _ _ hbl).trans e1.c1
      have b2 : wr.cell? ⟨b, off + (k + 1) * 3 + 2, none⟩ = some (.int .i64 y2) := (below_cell HBV.out _ _ hbl).trans e1.c2
      have d0 : wr.cell? ⟨b, off + (k + 1 + 1) * 3, none⟩ = some (.int .i64 z0) := (below_cell HBV.out _ _ hbl).trans e2.c0
      have d1 : wr.cell? ⟨b, off + (k + 1 + 1) * 3 + 1, none⟩ = some (.int .i64 z1) := (below_cell HBV.out _ _ hbl).trans e2.c1
      have d2 : wr.cell? ⟨b, off + (k + 1 + 1) * 3 + 2, none⟩ = some (.int .i64 z2) := (below_cell HBV.out _ _ hbl).trans e2.c2
      clear e0 e1 e2 rb0 rb1 rb2 rx ry rz
      have hk0 : (k : Int) + 1 < (n : Int) - 1 := by omega
      have hk1 : (k : Int) + 1 + 1 < (n : Int) := by omega
      have hk2 : (k : Int) + 1 < (n : Int) := by omega
      have hk3 : (k : Int) < (n : Int) := by omega
      have hk4 : (0 : Int) ≤ (k : Int) + 1 := by omega
      have hk5 : (0 : Int) ≤ (k : Int) + 1 + 1 := by omega
      have hk6 : (0 : Int) ≤ (k : Int) := by omega
      have t1 : ((k : Int) + 1).toNat = k + 1 := by omega
      have t2 : ((k : Int) + 1 + 1).toNat = k + 1 + 1 := by omega
      have hsub : (k : Int) + 1 - 1 = (k : Int) := by omega
      have hsv := HBV.out.size
      have hA0 : w.heap.size < wr.heap.size := by omega
      have hB0 : b < wr.heap.size := by omega
      go_wp2_with fail
      go_region
      have HAL := Lib.hid (below_al wr (.cells #[.int .i64 y0, .int .i64 y1, .int .i64 y2, .int .i64 x0, .int .i64 x1, .int .i64 x2, .int .i64 z0, .int .i64 z1, .int .i64 z2] 99))
      have HOX := Lib.hid (HO.out.alloc (.cells #[.int .i64 y0, .int .i64 y1, .int .i64 y2, .int .i64 x0, .int .i64 x1, .int .i64 x2, .int .i64 z0, .int .i64 z1, .int .i64 z2] 99))
      go_wp2_with fail
      generalize wr.alloc (.cells #[.int .i64 y0, .int .i64 y1, .int .i64 y2, .int .i64 x0, .int .i64 x1, .int .i64 x2, .int .i64 z0, .int .i64 z1, .int .i64 z2] 99) = wX at *
      refine (HSM.out _).mono ?_
      rintro e w5 ⟨rfl, hb5⟩
      have hbX : Below wX.heap.size wX w5 := ⟨hb5.os, hb5.tape, hb5.output, hb5.size, hb5.block⟩
      have HO5 := Lib.hid (row_keepR hbX HOX.out)
      have HFIN := Lib.hid (HST.out w5 HO5.out)
      have hri := own_in HKL.out HO5.out (k + 1) (by omega)
      obtain ⟨⟨v0, v1, v2⟩, hv⟩ : ∃ r, (smoK rs (k + 1)).getD (k + 1) zR = r := ⟨_, rfl⟩
      rw [hv] at hri
      have g0 := hri.c0
      have g1 := hri.c1
      have g2 := hri.c2
      have f0 := HO5.out.frozenAt ((k + 1) * 3)
      have f1 := HO5.out.frozenAt ((k + 1) * 3 + 1)
      have f2 := HO5.out.frozenAt ((k + 1) * 3 + 2)
      have HB5 := Lib.hid (below_of HBW.out (below_of HAL.out hbX HAL.out.size) HBW.out.size)
      have HV5 := Lib.hid (below_of HBV.out (below_of HAL.out hbX HAL.out.size) HBV.out.size)
      have HBK5 := Lib.hid (blankP_kept (below_of HAL.out hbX HAL.out.size) (by omega) HBK.out)
      have hsz5 : g < w5.heap.size := by have := HAL.out.size; have := hbX.size; omega
      clear hbX hb5 hri hv
      go_wp2
      go_roundw
      case rel => exact ⟨k + 1, by omega, by go_num, Lib.hid (by rw [← HNX.out, HSR.out]; exact HFIN.out), Lib.hid (blankP_gb (gb_set _ _ (gb_set _ _ (gb_set _ _ (gb_refl w5 (some g))))) (by omega) (by simp; omega) HBK5.out), Lib.hid (((HB5.out.setCell (by show _ ≤ g; omega) _).setCell (by show _ ≤ g; omega) _).setCell (by show _ ≤ g; omega) _), Lib.hid (((HV5.out.setCell (by show _ ≤ g; omega) _).setCell (by show _ ≤ g; omega) _).setCell (by show _ ≤ g; omega) _), by simpa using hsz5⟩
      case measure => simp [intOf]; omega
    · have hall : smoK rs (k + 1) = smoL rs := smoK_end rs (k + 1) (by omega) (by rw [hn.out]; exact hk) (by rw [hn.out]; exact hlt)
      have HOF := Lib.hid (show wr.ownsRow w1.heap.size 54 3 (.slice (some ⟨g, 0, none⟩) n (n + 1)) n (i64s (flat (smoL rs))) by rw [← hall]; exact HO.out)
      have HML := Lib.hid (show (smoL rs).length = n by rw [smoL_len]; exact hn.out)
      have HRV := Lib.hid (show Rv wr w.heap.size (.slice (some ⟨g, 0, none⟩) n (n + 1)) (smoL rs) from .inr ⟨g, (n + 1), by rw [HML.out], by omega, by rw [HML.out]; exact row_baseR HOF.out (by omega)⟩)
      have HRI := Lib.hid (rv_rings (by rw [HML.out]; omega) HRV.out)
      generalize smoL rs = l at *
      have hk0 : ¬ (k : Int) + 1 < (n : Int) - 1 := by omega
      go_wp2_with fail
      refine (withRings_any s (some ⟨b, off, none⟩) n c _ l _ HRI.out hs).mono ?_
      rintro e w5 ⟨rfl, hb5⟩
      have HRV5 := Lib.hid (rv_kept hb5 HRV.out)
      have HB5 := Lib.hid (below_of HBW.out hb5 HBW.out.size)
      obtain ⟨⟨b0, b1⟩, f0, f1⟩ := blankP_kept hb5 (by omega) HBK.out
      clear hb5
      rcases Bool.eq_false_or_eq_true (profB s l) with hq | hq
      · have HC := Lib.hid (show resC s l = 0 by unfold resC; rw [if_pos hq])
        rw [hq, HC.out, show resS s 0 = s from rfl]
        clear hq
        skip
        go_wp2
        try simp only [Exit.inBlock, Exit.then]
        refine bodyPost_ret_by (v := .tuple #[.agg #[.string s, .slice (some ⟨g, 0, none⟩) n (n + 1)], .int .i64 0]) (by rw [results_cellP rfl]; go_simp) rfl ?_
        rw [HC.out]
        refine ⟨_, rfl, ?_, (HB5.out.setCell (by show _ ≤ w.heap.size + 1; omega) _).setCell (by show _ ≤ w.heap.size + 1; omega) _⟩
        obtain ⟨e', -⟩ | ⟨g', c', e', h1', h2'⟩ := HRV5.out
        · cases e'
        · refine rv_own (ownR_set2 (zs := l) ⟨g', c', e', h1', (h2'.lt g' rfl).2, by rw [e']; exact h2'⟩ (w.heap.size + 1) _ _ (fun q o n' c'' e'' => by simp only [Value.slice.injEq, Option.some.injEq, Addr.mk.injEq] at e''; omega))
      · have HC := Lib.hid (show resC s l = 6 by unfold resC; rw [hq]; rfl)
        rw [hq, HC.out, show resS s 6 = ⟨#[]⟩ from rfl]
        clear hq
        skip
        go_wp2
        try simp only [Exit.inBlock, Exit.then]
        refine bodyPost_ret_by (v := .tuple #[.agg #[.string ⟨#[]⟩, .slice none 0 0], .int .i64 6]) (by rw [results_cellP rfl]; go_simp) rfl ?_
        rw [HC.out]
        exact ⟨_, rfl, .inl ⟨rfl, rfl⟩, (HB5.out.setCell (by show _ ≤ w.heap.size + 1; omega) _).setCell (by show _ ≤ w.heap.size + 1; omega) _⟩
theorem implSmo_any (s : ByteArray) (v : Value) (rs : List Rg) (w : World) (h : RingsAt w v rs) (hs : s.size ≤ maxLen) :
    Calls Try.prog 31 #[.agg #[.string s, v]] w (ProfU (resS s (smoC s rs)) (resL (smoL rs) (smoC s rs)) (smoC s rs) w) := by
  have HI := Lib.hid h
  obtain ⟨a, c, rfl⟩ := rings_form h
  rcases Bool.eq_false_or_eq_true (profB s rs) with hp | hp
  · obtain ⟨-, ⟨n1, n2⟩, -, -⟩ := prof_iff.1 hp
    rw [smoC_3 hp]
    exact implSmo_main s a rs.length c rs w (Lib.hid rfl) n1 n2 HI hs (Lib.hid hp)
  · rw [smoC_1 hp]
    exact implSmo_bad s a rs.length c rs w (Lib.hid rfl) HI hs (Lib.hid hp)
end Go.Proofs.Ytgnnpimfcbkloab
