/- InsertRing: the reference model's walk. -/
import Derived.Test.YtojkijcdfnfnlaaWithS
set_option linter.unusedVariables false
namespace Go.Proofs.Ytojkijcdfnfnlaa
open Go.ChangeShapes Go.WideShapes Go.ChangeAt Go.RowKit

def insC (s : ByteArray) (rs : List Rg) (k : Int) (r : Rg) : Int :=
  if profB s rs = true then (if ringB r = true then (if inB k 0 rs.length = true then (if rs.length = 32 then 5 else resC s (insR rs k.toNat r)) else 2) else 1) else 1
theorem insC_1 {s : ByteArray} {rs : List Rg} {k : Int} {r : Rg} (h : profB s rs = false) : insC s rs k r = 1 := by unfold insC; rw [h]; rfl
theorem insC_1r {s : ByteArray} {rs : List Rg} {k : Int} {r : Rg} (h : profB s rs = true) (h2 : ringB r = false) : insC s rs k r = 1 := by unfold insC; rw [if_pos h, h2]; rfl
theorem insC_2 {s : ByteArray} {rs : List Rg} {k : Int} {r : Rg} (h : profB s rs = true) (h2 : ringB r = true) (h3 : inB k 0 rs.length = false) : insC s rs k r = 2 := by unfold insC; rw [if_pos h, if_pos h2, h3]; rfl
theorem insC_5 {s : ByteArray} {rs : List Rg} {k : Int} {r : Rg} (h : profB s rs = true) (h2 : ringB r = true) (h3 : inB k 0 rs.length = true) (h4 : rs.length = 32) : insC s rs k r = 5 := by unfold insC; rw [if_pos h, if_pos h2, if_pos h3, if_pos h4]
theorem insC_0 {s : ByteArray} {rs : List Rg} {k : Int} {r : Rg} (h : profB s rs = true) (h2 : ringB r = true) (h3 : inB k 0 rs.length = true) (h4 : ¬ rs.length = 32) : insC s rs k r = resC s (insR rs k.toNat r) := by unfold insC; rw [if_pos h, if_pos h2, if_pos h3, if_neg h4]
theorem ins_len (s : ByteArray) (rs : List Rg) (k : Int) (r : Rg) : (resL (insR rs k.toNat r) (insC s rs k r)).length ≤ 64 := by
  by_cases h : profB s rs = true
  · obtain ⟨-, ⟨_, n2⟩, -, -⟩ := prof_iff.1 h
    exact resL_len _ _ (by unfold insR; rw [List.length_append, List.length_take, List.length_cons, List.length_drop]; omega)
  · rw [insC_1 (by simpa using h)]
    simp [resL]
set_option maxRecDepth 20000 in
set_option maxHeartbeats 4000000 in
theorem specInsert_bad (s : ByteArray) (a : Option Addr) (n c : Nat) (rs : List Rg) (x y z : Int) (w : World) (k : Int) (HP : Hid (profB s rs = false)) (HI : Hid (RingsAt w (.slice a n c) rs)) (hs : s.size ≤ maxLen) :
    Calls Try.prog 36 #[.agg #[.string s, .slice a n c], .int .i64 k, .agg #[.int .i64 x, .int .i64 y, .int .i64 z]] w (ProfU ⟨#[]⟩ [] 1 w) := by
  have hBA := (((Below.refl w.heap.size w).alloc (Nat.le_refl _) (.cells #[.string s, .slice a n c] 35)).alloc (by simp) (.cells #[.int .i64 x, .int .i64 y, .int .i64 z] 25)).alloc (by simp; omega) (.cells #[.string ⟨#[]⟩, .slice none 0 0] 35)
  have z0 : (((w.alloc (.cells #[.string s, .slice a n c] 35)).alloc (.cells #[.int .i64 x, .int .i64 y, .int .i64 z] 25)).alloc (.cells #[.string ⟨#[]⟩, .slice none 0 0] 35)).cell? ⟨w.heap.size, 0, none⟩ = some (.string s) := by go_simp
  have z1 : (((w.alloc (.cells #[.string s, .slice a n c] 35)).alloc (.cells #[.int .i64 x, .int .i64 y, .int .i64 z] 25)).alloc (.cells #[.string ⟨#[]⟩, .slice none 0 0] 35)).cell? ⟨w.heap.size, 1, none⟩ = some (.slice a n c) := by go_simp
  have y0 : (((w.alloc (.cells #[.string s, .slice a n c] 35)).alloc (.cells #[.int .i64 x, .int .i64 y, .int .i64 z] 25)).alloc (.cells #[.string ⟨#[]⟩, .slice none 0 0] 35)).cell? ⟨w.heap.size + 1, 0, none⟩ = some (.int .i64 x) := by go_simp
  have y1 : (((w.alloc (.cells #[.string s, .slice a n c] 35)).alloc (.cells #[.int .i64 x, .int .i64 y, .int .i64 z] 25)).alloc (.cells #[.string ⟨#[]⟩, .slice none 0 0] 35)).cell? ⟨w.heap.size + 1, 1, none⟩ = some (.int .i64 y) := by go_simp
  have y2 : (((w.alloc (.cells #[.string s, .slice a n c] 35)).alloc (.cells #[.int .i64 x, .int .i64 y, .int .i64 z] 25)).alloc (.cells #[.string ⟨#[]⟩, .slice none 0 0] 35)).cell? ⟨w.heap.size + 1, 2, none⟩ = some (.int .i64 z) := by go_simp
  have hbl : BlankP (((w.alloc (.cells #[.string s, .slice a n c] 35)).alloc (.cells #[.int .i64 x, .int .i64 y, .int .i64 z] 25)).alloc (.cells #[.string ⟨#[]⟩, .slice none 0 0] 35)) (w.heap.size + 1 + 1) := ⟨⟨by go_simp, by go_simp⟩, by go_simp, by go_simp⟩
  have hl1 : w.heap.size + 1 + 1 < (((w.alloc (.cells #[.string s, .slice a n c] 35)).alloc (.cells #[.int .i64 x, .int .i64 y, .int .i64 z] 25)).alloc (.cells #[.string ⟨#[]⟩, .slice none 0 0] 35)).heap.size := by simp
  have HBA := Lib.hid hBA
  have HIA := Lib.hid (rings_kept hBA HI.out)
  go_enter Try.func36, Try.ntmps36
  go_wp2_with fail
  clear hBA
  generalize (((w.alloc (.cells #[.string s, .slice a n c] 35)).alloc (.cells #[.int .i64 x, .int .i64 y, .int .i64 z] 25)).alloc (.cells #[.string ⟨#[]⟩, .slice none 0 0] 35)) = wA at *
  refine (l05Ok_any _ s _ rs _ ⟨z0, z1⟩ HIA.out hs).mono ?_
  rintro e w1 ⟨rfl, hb⟩
  rw [HP.out]
  have q0 := (below_cell hb _ _ (by omega)).trans z0
  have q1 := (below_cell hb _ _ (by omega)).trans z1
  have x0 := (below_cell hb _ _ (show w.heap.size + 1 < wA.heap.size by omega)).trans y0
  have x1 := (below_cell hb _ _ (show w.heap.size + 1 < wA.heap.size by omega)).trans y1
  have x2 := (below_cell hb _ _ (show w.heap.size + 1 < wA.heap.size by omega)).trans y2
  have HBL := Lib.hid (blankP_kept hb hl1 hbl)
  have hl2 := Nat.lt_of_lt_of_le hl1 hb.size
  have HI1 := Lib.hid (rings_kept hb HIA.out)
  have HB := Lib.hid (below_of HBA.out hb HBA.out.size)
  clear hb hbl z0 z1 y0 y1 y2
  obtain ⟨⟨b0, b1⟩, f0, f1⟩ := HBL.out
  go_wp2
  try simp only [Exit.inBlock, Exit.then]
  refine bodyPost_ret_by (v := .tuple #[.agg #[.string ⟨#[]⟩, .slice none 0 0], .int .i64 1]) (by rw [results_cellP rfl]; go_simp) rfl ?_
  refine ⟨_, rfl, .inl ⟨rfl, rfl⟩, ?_⟩
  exact (HB.out.setCell (by show _ ≤ w.heap.size + 1 + 1; omega) _).setCell (by show _ ≤ w.heap.size + 1 + 1; omega) _
set_option maxRecDepth 20000 in
set_option maxHeartbeats 4000000 in
theorem specInsert_ring (s : ByteArray) (a : Option Addr) (n c : Nat) (rs : List Rg) (x y z : Int) (w : World) (k : Int) (HP : Hid (profB s rs = true)) (HR : Hid (ringB (x, y, z) = false)) (HI : Hid (RingsAt w (.slice a n c) rs)) (hs : s.size ≤ maxLen) :
    Calls Try.prog 36 #[.agg #[.string s, .slice a n c], .int .i64 k, .agg #[.int .i64 x, .int .i64 y, .int .i64 z]] w (ProfU ⟨#[]⟩ [] 1 w) := by
  have hBA := (((Below.refl w.heap.size w).alloc (Nat.le_refl _) (.cells #[.string s, .slice a n c] 35)).alloc (by simp) (.cells #[.int .i64 x, .int .i64 y, .int .i64 z] 25)).alloc (by simp; omega) (.cells #[.string ⟨#[]⟩, .slice none 0 0] 35)
  have z0 : (((w.alloc (.cells #[.string s, .slice a n c] 35)).alloc (.cells #[.int .i64 x, .int .i64 y, .int .i64 z] 25)).alloc (.cells #[.string ⟨#[]⟩, .slice none 0 0] 35)).cell? ⟨w.heap.size, 0, none⟩ = some (.string s) := by go_simp
  have z1 : (((w.alloc (.cells #[.string s, .slice a n c] 35)).alloc (.cells #[.int .i64 x, .int .i64 y, .int .i64 z] 25)).alloc (.cells #[.string ⟨#[]⟩, .slice none 0 0] 35)).cell? ⟨w.heap.size, 1, none⟩ = some (.slice a n c) := by go_simp
  have y0 : (((w.alloc (.cells #[.string s, .slice a n c] 35)).alloc (.cells #[.int .i64 x, .int .i64 y, .int .i64 z] 25)).alloc (.cells #[.string ⟨#[]⟩, .slice none 0 0] 35)).cell? ⟨w.heap.size + 1, 0, none⟩ = some (.int .i64 x) := by go_simp
  have y1 : (((w.alloc (.cells #[.string s, .slice a n c] 35)).alloc (.cells #[.int .i64 x, .int .i64 y, .int .i64 z] 25)).alloc (.cells #[.string ⟨#[]⟩, .slice none 0 0] 35)).cell? ⟨w.heap.size + 1, 1, none⟩ = some (.int .i64 y) := by go_simp
  have y2 : (((w.alloc (.cells #[.string s, .slice a n c] 35)).alloc (.cells #[.int .i64 x, .int .i64 y, .int .i64 z] 25)).alloc (.cells #[.string ⟨#[]⟩, .slice none 0 0] 35)).cell? ⟨w.heap.size + 1, 2, none⟩ = some (.int .i64 z) := by go_simp
  have hbl : BlankP (((w.alloc (.cells #[.string s, .slice a n c] 35)).alloc (.cells #[.int .i64 x, .int .i64 y, .int .i64 z] 25)).alloc (.cells #[.string ⟨#[]⟩, .slice none 0 0] 35)) (w.heap.size + 1 + 1) := ⟨⟨by go_simp, by go_simp⟩, by go_simp, by go_simp⟩
  have hl1 : w.heap.size + 1 + 1 < (((w.alloc (.cells #[.string s, .slice a n c] 35)).alloc (.cells #[.int .i64 x, .int .i64 y, .int .i64 z] 25)).alloc (.cells #[.string ⟨#[]⟩, .slice none 0 0] 35)).heap.size := by simp
  have HBA := Lib.hid hBA
  have HIA := Lib.hid (rings_kept hBA HI.out)
  go_enter Try.func36, Try.ntmps36
  go_wp2_with fail
  clear hBA
  generalize (((w.alloc (.cells #[.string s, .slice a n c] 35)).alloc (.cells #[.int .i64 x, .int .i64 y, .int .i64 z] 25)).alloc (.cells #[.string ⟨#[]⟩, .slice none 0 0] 35)) = wA at *
  refine (l05Ok_any _ s _ rs _ ⟨z0, z1⟩ HIA.out hs).mono ?_
  rintro e w1 ⟨rfl, hb⟩
  rw [HP.out]
  have q0 := (below_cell hb _ _ (by omega)).trans z0
  have q1 := (below_cell hb _ _ (by omega)).trans z1
  have x0 := (below_cell hb _ _ (show w.heap.size + 1 < wA.heap.size by omega)).trans y0
  have x1 := (below_cell hb _ _ (show w.heap.size + 1 < wA.heap.size by omega)).trans y1
  have x2 := (below_cell hb _ _ (show w.heap.size + 1 < wA.heap.size by omega)).trans y2
  have HBL := Lib.hid (blankP_kept hb hl1 hbl)
  have hl2 := Nat.lt_of_lt_of_le hl1 hb.size
  have HI1 := Lib.hid (rings_kept hb HIA.out)
  have HB := Lib.hid (below_of HBA.out hb HBA.out.size)
  clear hb hbl z0 z1 y0 y1 y2
  go_wp2_with fail
  refine (l05Ring_any x y z _ _ _ ⟨x0, x1, x2⟩).mono ?_
  rintro e w2 ⟨rfl, m2, rfl⟩
  rw [HR.out]
  have HB2 := Lib.hid (show Below w.heap.size w (w1.drewN m2) from ⟨HB.out.os, HB.out.tape, HB.out.output, HB.out.size, HB.out.block⟩)
  have HBL2 := Lib.hid (show BlankP (w1.drewN m2) (w.heap.size + 1 + 1) from HBL.out)
  have HI2 := Lib.hid (rings_kept (below_drewN w1 m2) HI1.out)
  have r0 : (w1.drewN m2).cell? ⟨w.heap.size, 0, none⟩ = some (.string s) := q0
  have r1 : (w1.drewN m2).cell? ⟨w.heap.size, 1, none⟩ = some (.slice a n c) := q1
  have u0 : (w1.drewN m2).cell? ⟨w.heap.size + 1, 0, none⟩ = some (.int .i64 x) := x0
  have u1 : (w1.drewN m2).cell? ⟨w.heap.size + 1, 1, none⟩ = some (.int .i64 y) := x1
  have u2 : (w1.drewN m2).cell? ⟨w.heap.size + 1, 2, none⟩ = some (.int .i64 z) := x2
  have hl3 : w.heap.size + 1 + 1 < (w1.drewN m2).heap.size := hl2
  clear q0 q1 x0 x1 x2 hl2
  generalize w1.drewN m2 = wD at *
  obtain ⟨⟨b0, b1⟩, f0, f1⟩ := HBL2.out
  go_wp2
  try simp only [Exit.inBlock, Exit.then]
  refine bodyPost_ret_by (v := .tuple #[.agg #[.string ⟨#[]⟩, .slice none 0 0], .int .i64 1]) (by rw [results_cellP rfl]; go_simp) rfl ?_
  refine ⟨_, rfl, .inl ⟨rfl, rfl⟩, ?_⟩
  exact (HB2.out.setCell (by show _ ≤ w.heap.size + 1 + 1; omega) _).setCell (by show _ ≤ w.heap.size + 1 + 1; omega) _
set_option maxRecDepth 20000 in
set_option maxHeartbeats 4000000 in
theorem specInsert_range (s : ByteArray) (a : Option Addr) (n c : Nat) (rs : List Rg) (x y z : Int) (w : World) (k : Int) (HP : Hid (profB s rs = true)) (HR : Hid (ringB (x, y, z) = true)) (HK : Hid (inB k 0 n = false)) (HI : Hid (RingsAt w (.slice a n c) rs)) (hs : s.size ≤ maxLen) :
    Calls Try.prog 36 #[.agg #[.string s, .slice a n c], .int .i64 k, .agg #[.int .i64 x, .int .i64 y, .int .i64 z]] w (ProfU ⟨#[]⟩ [] 2 w) := by
  have hBA := (((Below.refl w.heap.size w).alloc (Nat.le_refl _) (.cells #[.string s, .slice a n c] 35)).alloc (by simp) (.cells #[.int .i64 x, .int .i64 y, .int .i64 z] 25)).alloc (by simp; omega) (.cells #[.string ⟨#[]⟩, .slice none 0 0] 35)
  have z0 : (((w.alloc (.cells #[.string s, .slice a n c] 35)).alloc (.cells #[.int .i64 x, .int .i64 y, .int .i64 z] 25)).alloc (.cells #[.string ⟨#[]⟩, .slice none 0 0] 35)).cell? ⟨w.heap.size, 0, none⟩ = some (.string s) := by go_simp
  have z1 : (((w.alloc (.cells #[.string s, .slice a n c] 35)).alloc (.cells #[.int .i64 x, .int .i64 y, .int .i64 z] 25)).alloc (.cells #[.string ⟨#[]⟩, .slice none 0 0] 35)).cell? ⟨w.heap.size, 1, none⟩ = some (.slice a n c) := by go_simp
  have y0 : (((w.alloc (.cells #[.string s, .slice a n c] 35)).alloc (.cells #[.int .i64 x, .int .i64 y, .int .i64 z] 25)).alloc (.cells #[.string ⟨#[]⟩, .slice none 0 0] 35)).cell? ⟨w.heap.size + 1, 0, none⟩ = some (.int .i64 x) := by go_simp
  have y1 : (((w.alloc (.cells #[.string s, .slice a n c] 35)).alloc (.cells #[.int .i64 x, .int .i64 y, .int .i64 z] 25)).alloc (.cells #[.string ⟨#[]⟩, .slice none 0 0] 35)).cell? ⟨w.heap.size + 1, 1, none⟩ = some (.int .i64 y) := by go_simp
  have y2 : (((w.alloc (.cells #[.string s, .slice a n c] 35)).alloc (.cells #[.int .i64 x, .int .i64 y, .int .i64 z] 25)).alloc (.cells #[.string ⟨#[]⟩, .slice none 0 0] 35)).cell? ⟨w.heap.size + 1, 2, none⟩ = some (.int .i64 z) := by go_simp
  have hbl : BlankP (((w.alloc (.cells #[.string s, .slice a n c] 35)).alloc (.cells #[.int .i64 x, .int .i64 y, .int .i64 z] 25)).alloc (.cells #[.string ⟨#[]⟩, .slice none 0 0] 35)) (w.heap.size + 1 + 1) := ⟨⟨by go_simp, by go_simp⟩, by go_simp, by go_simp⟩
  have hl1 : w.heap.size + 1 + 1 < (((w.alloc (.cells #[.string s, .slice a n c] 35)).alloc (.cells #[.int .i64 x, .int .i64 y, .int .i64 z] 25)).alloc (.cells #[.string ⟨#[]⟩, .slice none 0 0] 35)).heap.size := by simp
  have HBA := Lib.hid hBA
  have HIA := Lib.hid (rings_kept hBA HI.out)
  go_enter Try.func36, Try.ntmps36
  go_wp2_with fail
  clear hBA
  generalize (((w.alloc (.cells #[.string s, .slice a n c] 35)).alloc (.cells #[.int .i64 x, .int .i64 y, .int .i64 z] 25)).alloc (.cells #[.string ⟨#[]⟩, .slice none 0 0] 35)) = wA at *
  refine (l05Ok_any _ s _ rs _ ⟨z0, z1⟩ HIA.out hs).mono ?_
  rintro e w1 ⟨rfl, hb⟩
  rw [HP.out]
  have q0 := (below_cell hb _ _ (by omega)).trans z0
  have q1 := (below_cell hb _ _ (by omega)).trans z1
  have x0 := (below_cell hb _ _ (show w.heap.size + 1 < wA.heap.size by omega)).trans y0
  have x1 := (below_cell hb _ _ (show w.heap.size + 1 < wA.heap.size by omega)).trans y1
  have x2 := (below_cell hb _ _ (show w.heap.size + 1 < wA.heap.size by omega)).trans y2
  have HBL := Lib.hid (blankP_kept hb hl1 hbl)
  have hl2 := Nat.lt_of_lt_of_le hl1 hb.size
  have HI1 := Lib.hid (rings_kept hb HIA.out)
  have HB := Lib.hid (below_of HBA.out hb HBA.out.size)
  clear hb hbl z0 z1 y0 y1 y2
  go_wp2_with fail
  refine (l05Ring_any x y z _ _ _ ⟨x0, x1, x2⟩).mono ?_
  rintro e w2 ⟨rfl, m2, rfl⟩
  rw [HR.out]
  have HB2 := Lib.hid (show Below w.heap.size w (w1.drewN m2) from ⟨HB.out.os, HB.out.tape, HB.out.output, HB.out.size, HB.out.block⟩)
  have HBL2 := Lib.hid (show BlankP (w1.drewN m2) (w.heap.size + 1 + 1) from HBL.out)
  have HI2 := Lib.hid (rings_kept (below_drewN w1 m2) HI1.out)
  have r0 : (w1.drewN m2).cell? ⟨w.heap.size, 0, none⟩ = some (.string s) := q0
  have r1 : (w1.drewN m2).cell? ⟨w.heap.size, 1, none⟩ = some (.slice a n c) := q1
  have u0 : (w1.drewN m2).cell? ⟨w.heap.size + 1, 0, none⟩ = some (.int .i64 x) := x0
  have u1 : (w1.drewN m2).cell? ⟨w.heap.size + 1, 1, none⟩ = some (.int .i64 y) := x1
  have u2 : (w1.drewN m2).cell? ⟨w.heap.size + 1, 2, none⟩ = some (.int .i64 z) := x2
  have hl3 : w.heap.size + 1 + 1 < (w1.drewN m2).heap.size := hl2
  clear q0 q1 x0 x1 x2 hl2
  generalize w1.drewN m2 = wD at *
  go_wp2_with fail
  refine (l00In_any k 0 (n : Int) _).mono ?_
  rintro e w2 ⟨rfl, rfl⟩
  rw [HK.out]
  obtain ⟨⟨b0, b1⟩, f0, f1⟩ := HBL2.out
  go_wp2
  try simp only [Exit.inBlock, Exit.then]
  refine bodyPost_ret_by (v := .tuple #[.agg #[.string ⟨#[]⟩, .slice none 0 0], .int .i64 2]) (by rw [results_cellP rfl]; go_simp) rfl ?_
  refine ⟨_, rfl, .inl ⟨rfl, rfl⟩, ?_⟩
  exact (HB2.out.setCell (by show _ ≤ w.heap.size + 1 + 1; omega) _).setCell (by show _ ≤ w.heap.size + 1 + 1; omega) _
set_option maxRecDepth 20000 in
set_option maxHeartbeats 4000000 in
theorem specInsert_full (s : ByteArray) (a : Option Addr) (n c : Nat) (rs : List Rg) (x y z : Int) (w : World) (k : Int) (hn : n = 32) (HP : Hid (profB s rs = true)) (HR : Hid (ringB (x, y, z) = true)) (HK : Hid (inB k 0 n = true)) (HI : Hid (RingsAt w (.slice a n c) rs)) (hs : s.size ≤ maxLen) :
    Calls Try.prog 36 #[.agg #[.string s, .slice a n c], .int .i64 k, .agg #[.int .i64 x, .int .i64 y, .int .i64 z]] w (ProfU ⟨#[]⟩ [] 5 w) := by
  have h32 : ((n : Int) == 32) = true := by rw [hn]; rfl
  clear hn
  have hBA := (((Below.refl w.heap.size w).alloc (Nat.le_refl _) (.cells #[.string s, .slice a n c] 35)).alloc (by simp) (.cells #[.int .i64 x, .int .i64 y, .int .i64 z] 25)).alloc (by simp; omega) (.cells #[.string ⟨#[]⟩, .slice none 0 0] 35)
  have z0 : (((w.alloc (.cells #[.string s, .slice a n c] 35)).alloc (.cells #[.int .i64 x, .int .i64 y, .int .i64 z] 25)).alloc (.cells #[.string ⟨#[]⟩, .slice none 0 0] 35)).cell? ⟨w.heap.size, 0, none⟩ = some (.string s) := by go_simp
  have z1 : (((w.alloc (.cells #[.string s, .slice a n c] 35)).alloc (.cells #[.int .i64 x, .int .i64 y, .int .i64 z] 25)).alloc (.cells #[.string ⟨#[]⟩, .slice none 0 0] 35)).cell? ⟨w.heap.size, 1, none⟩ = some (.slice a n c) := by go_simp
  have y0 : (((w.alloc (.cells #[.string s, .slice a n c] 35)).alloc (.cells #[.int .i64 x, .int .i64 y, .int .i64 z] 25)).alloc (.cells #[.string ⟨#[]⟩, .slice none 0 0] 35)).cell? ⟨w.heap.size + 1, 0, none⟩ = some (.int .i64 x) := by go_simp
  have y1 : (((w.alloc (.cells #[.string s, .slice a n c] 35)).alloc (.cells #[.int .i64 x, .int .i64 y, .int .i64 z] 25)).alloc (.cells #[.string ⟨#[]⟩, .slice none 0 0] 35)).cell? ⟨w.heap.size + 1, 1, none⟩ = some (.int .i64 y) := by go_simp
  have y2 : (((w.alloc (.cells #[.string s, .slice a n c] 35)).alloc (.cells #[.int .i64 x, .int .i64 y, .int .i64 z] 25)).alloc (.cells #[.string ⟨#[]⟩, .slice none 0 0] 35)).cell? ⟨w.heap.size + 1, 2, none⟩ = some (.int .i64 z) := by go_simp
  have hbl : BlankP (((w.alloc (.cells #[.string s, .slice a n c] 35)).alloc (.cells #[.int .i64 x, .int .i64 y, .int .i64 z] 25)).alloc (.cells #[.string ⟨#[]⟩, .slice none 0 0] 35)) (w.heap.size + 1 + 1) := ⟨⟨by go_simp, by go_simp⟩, by go_simp, by go_simp⟩
  have hl1 : w.heap.size + 1 + 1 < (((w.alloc (.cells #[.string s, .slice a n c] 35)).alloc (.cells #[.int .i64 x, .int .i64 y, .int .i64 z] 25)).alloc (.cells #[.string ⟨#[]⟩, .slice none 0 0] 35)).heap.size := by simp
  have HBA := Lib.hid hBA
  have HIA := Lib.hid (rings_kept hBA HI.out)
  go_enter Try.func36, Try.ntmps36
  go_wp2_with fail
  clear hBA
  generalize (((w.alloc (.cells #[.string s, .slice a n c] 35)).alloc (.cells #[.int .i64 x, .int .i64 y, .int .i64 z] 25)).alloc (.cells #[.string ⟨#[]⟩, .slice none 0 0] 35)) = wA at *
  refine (l05Ok_any _ s _ rs _ ⟨z0, z1⟩ HIA.out hs).mono ?_
  rintro e w1 ⟨rfl, hb⟩
  rw [HP.out]
  have q0 := (below_cell hb _ _ (by omega)).trans z0
  have q1 := (below_cell hb _ _ (by omega)).trans z1
  have x0 := (below_cell hb _ _ (show w.heap.size + 1 < wA.heap.size by omega)).trans y0
  have x1 := (below_cell hb _ _ (show w.heap.size + 1 < wA.heap.size by omega)).trans y1
  have x2 := (below_cell hb _ _ (show w.heap.size + 1 < wA.heap.size by omega)).trans y2
  have HBL := Lib.hid (blankP_kept hb hl1 hbl)
  have hl2 := Nat.lt_of_lt_of_le hl1 hb.size
  have HI1 := Lib.hid (rings_kept hb HIA.out)
  have HB := Lib.hid (below_of HBA.out hb HBA.out.size)
  clear hb hbl z0 z1 y0 y1 y2
  go_wp2_with fail
  refine (l05Ring_any x y z _ _ _ ⟨x0, x1, x2⟩).mono ?_
  rintro e w2 ⟨rfl, m2, rfl⟩
  rw [HR.out]
  have HB2 := Lib.hid (show Below w.heap.size w (w1.drewN m2) from ⟨HB.out.os, HB.out.tape, HB.out.output, HB.out.size, HB.out.block⟩)
  have HBL2 := Lib.hid (show BlankP (w1.drewN m2) (w.heap.size + 1 + 1) from HBL.out)
  have HI2 := Lib.hid (rings_kept (below_drewN w1 m2) HI1.out)
  have r0 : (w1.drewN m2).cell? ⟨w.heap.size, 0, none⟩ = some (.string s) := q0
  have r1 : (w1.drewN m2).cell? ⟨w.heap.size, 1, none⟩ = some (.slice a n c) := q1
  have u0 : (w1.drewN m2).cell? ⟨w.heap.size + 1, 0, none⟩ = some (.int .i64 x) := x0
  have u1 : (w1.drewN m2).cell? ⟨w.heap.size + 1, 1, none⟩ = some (.int .i64 y) := x1
  have u2 : (w1.drewN m2).cell? ⟨w.heap.size + 1, 2, none⟩ = some (.int .i64 z) := x2
  have hl3 : w.heap.size + 1 + 1 < (w1.drewN m2).heap.size := hl2
  clear q0 q1 x0 x1 x2 hl2
  generalize w1.drewN m2 = wD at *
  go_wp2_with fail
  refine (l00In_any k 0 (n : Int) _).mono ?_
  rintro e w2 ⟨rfl, rfl⟩
  rw [HK.out]
  obtain ⟨⟨b0, b1⟩, f0, f1⟩ := HBL2.out
  go_wp2
  try simp only [Exit.inBlock, Exit.then]
  refine bodyPost_ret_by (v := .tuple #[.agg #[.string ⟨#[]⟩, .slice none 0 0], .int .i64 5]) (by rw [results_cellP rfl]; go_simp) rfl ?_
  refine ⟨_, rfl, .inl ⟨rfl, rfl⟩, ?_⟩
  exact (HB2.out.setCell (by show _ ≤ w.heap.size + 1 + 1; omega) _).setCell (by show _ ≤ w.heap.size + 1 + 1; omega) _
set_option maxRecDepth 20000 in
set_option maxHeartbeats 4000000 in
theorem specInsert_yes (s : ByteArray) (b off n c : Nat) (rs : List Rg) (x y z : Int) (w : World) (k : Nat) (hn : Hid (rs.length = n)) (h1 : 1 ≤ n) (h32 : n < 32) (hnc : n ≤ c) (hk : k ≤ n) (HP : Hid (profB s rs = true)) (HR : Hid (ringB (x, y, z) = true)) (HK : Hid (inB (k : Int) 0 n = true)) (HQ : Hid (profB s (insR rs k (x, y, z)) = true)) (HI : Hid (RingsAt w (.slice (some ⟨b, off, none⟩) n c) rs)) (hs : s.size ≤ maxLen) :
    Calls Try.prog 36 #[.agg #[.string s, .slice (some ⟨b, off, none⟩) n c], .int .i64 (k : Int), .agg #[.int .i64 x, .int .i64 y, .int .i64 z]] w (ProfU s (insR rs k (x, y, z)) 0 w) := by
  have hne32 : ((n : Int) == 32) = false := by simp; omega
  have hBA := (((Below.refl w.heap.size w).alloc (Nat.le_refl _) (.cells #[.string s, .slice (some ⟨b, off, none⟩) n c] 35)).alloc (by simp) (.cells #[.int .i64 x, .int .i64 y, .int .i64 z] 25)).alloc (by simp; omega) (.cells #[.string ⟨#[]⟩, .slice none 0 0] 35)
  have z0 : (((w.alloc (.cells #[.string s, .slice (some ⟨b, off, none⟩) n c] 35)).alloc (.cells #[.int .i64 x, .int .i64 y, .int .i64 z] 25)).alloc (.cells #[.string ⟨#[]⟩, .slice none 0 0] 35)).cell? ⟨w.heap.size, 0, none⟩ = some (.string s) := by go_simp
  have z1 : (((w.alloc (.cells #[.string s, .slice (some ⟨b, off, none⟩) n c] 35)).alloc (.cells #[.int .i64 x, .int .i64 y, .int .i64 z] 25)).alloc (.cells #[.string ⟨#[]⟩, .slice none 0 0] 35)).cell? ⟨w.heap.size, 1, none⟩ = some (.slice (some ⟨b, off, none⟩) n c) := by go_simp
  have y0 : (((w.alloc (.cells #[.string s, .slice (some ⟨b, off, none⟩) n c] 35)).alloc (.cells #[.int .i64 x, .int .i64 y, .int .i64 z] 25)).alloc (.cells #[.string ⟨#[]⟩, .slice none 0 0] 35)).cell? ⟨w.heap.size + 1, 0, none⟩ = some (.int .i64 x) := by go_simp
  have y1 : (((w.alloc (.cells #[.string s, .slice (some ⟨b, off, none⟩) n c] 35)).alloc (.cells #[.int .i64 x, .int .i64 y, .int .i64 z] 25)).alloc (.cells #[.string ⟨#[]⟩, .slice none 0 0] 35)).cell? ⟨w.heap.size + 1, 1, none⟩ = some (.int .i64 y) := by go_simp
  have y2 : (((w.alloc (.cells #[.string s, .slice (some ⟨b, off, none⟩) n c] 35)).alloc (.cells #[.int .i64 x, .int .i64 y, .int .i64 z] 25)).alloc (.cells #[.string ⟨#[]⟩, .slice none 0 0] 35)).cell? ⟨w.heap.size + 1, 2, none⟩ = some (.int .i64 z) := by go_simp
  have hbl : BlankP (((w.alloc (.cells #[.string s, .slice (some ⟨b, off, none⟩) n c] 35)).alloc (.cells #[.int .i64 x, .int .i64 y, .int .i64 z] 25)).alloc (.cells #[.string ⟨#[]⟩, .slice none 0 0] 35)) (w.heap.size + 1 + 1) := ⟨⟨by go_simp, by go_simp⟩, by go_simp, by go_simp⟩
  have hl1 : w.heap.size + 1 + 1 < (((w.alloc (.cells #[.string s, .slice (some ⟨b, off, none⟩) n c] 35)).alloc (.cells #[.int .i64 x, .int .i64 y, .int .i64 z] 25)).alloc (.cells #[.string ⟨#[]⟩, .slice none 0 0] 35)).heap.size := by simp
  have HBA := Lib.hid hBA
  have HIA := Lib.hid (rings_kept hBA HI.out)
  go_enter Try.func36, Try.ntmps36
  go_wp2_with fail
  clear hBA
  generalize (((w.alloc (.cells #[.string s, .slice (some ⟨b, off, none⟩) n c] 35)).alloc (.cells #[.int .i64 x, .int .i64 y, .int .i64 z] 25)).alloc (.cells #[.string ⟨#[]⟩, .slice none 0 0] 35)) = wA at *
  refine (l05Ok_any _ s _ rs _ ⟨z0, z1⟩ HIA.out hs).mono ?_
  rintro e w1 ⟨rfl, hb⟩
  rw [HP.out]
  have q0 := (below_cell hb _ _ (by omega)).trans z0
  have q1 := (below_cell hb _ _ (by omega)).trans z1
  have x0 := (below_cell hb _ _ (show w.heap.size + 1 < wA.heap.size by omega)).trans y0
  have x1 := (below_cell hb _ _ (show w.heap.size + 1 < wA.heap.size by omega)).trans y1
  have x2 := (below_cell hb _ _ (show w.heap.size + 1 < wA.heap.size by omega)).trans y2
  have HBL := Lib.hid (blankP_kept hb hl1 hbl)
  have hl2 := Nat.lt_of_lt_of_le hl1 hb.size
  have HI1 := Lib.hid (rings_kept hb HIA.out)
  have HB := Lib.hid (below_of HBA.out hb HBA.out.size)
  clear hb hbl z0 z1 y0 y1 y2
  go_wp2_with fail
  refine (l05Ring_any x y z _ _ _ ⟨x0, x1, x2⟩).mono ?_
  rintro e w2 ⟨rfl, m2, rfl⟩
  rw [HR.out]
  have HB2 := Lib.hid (show Below w.heap.size w (w1.drewN m2) from ⟨HB.out.os, HB.out.tape, HB.out.output, HB.out.size, HB.out.block⟩)
  have HBL2 := Lib.hid (show BlankP (w1.drewN m2) (w.heap.size + 1 + 1) from HBL.out)
  have HI2 := Lib.hid (rings_kept (below_drewN w1 m2) HI1.out)
  have r0 : (w1.drewN m2).cell? ⟨w.heap.size, 0, none⟩ = some (.string s) := q0
  have r1 : (w1.drewN m2).cell? ⟨w.heap.size, 1, none⟩ = some (.slice (some ⟨b, off, none⟩) n c) := q1
  have u0 : (w1.drewN m2).cell? ⟨w.heap.size + 1, 0, none⟩ = some (.int .i64 x) := x0
  have u1 : (w1.drewN m2).cell? ⟨w.heap.size + 1, 1, none⟩ = some (.int .i64 y) := x1
  have u2 : (w1.drewN m2).cell? ⟨w.heap.size + 1, 2, none⟩ = some (.int .i64 z) := x2
  have hl3 : w.heap.size + 1 + 1 < (w1.drewN m2).heap.size := hl2
  clear q0 q1 x0 x1 x2 hl2
  generalize w1.drewN m2 = wD at *
  go_wp2_with fail
  refine (l00In_any (k : Int) 0 (n : Int) _).mono ?_
  rintro e w2 ⟨rfl, rfl⟩
  rw [HK.out]
  go_wp2_with fail
  refine (l05With_any _ s b off n c rs k x y z wD hn h1 (by omega) hnc hk ⟨r0, r1⟩ (by omega) HI2).mono ?_
  rintro e w5 ⟨g, cap, rfl, hgB, hown, hb5⟩
  have hil : (insR rs k (x, y, z)).length = n + 1 := by rw [insR_len _ _ _ (by rw [hn.out]; omega), hn.out]
  have HRV := Lib.hid (show Rv w5 w.heap.size (.slice (some ⟨g, 0, none⟩) (n + 1) cap) (insR rs k (x, y, z)) from .inr ⟨g, cap, by rw [hil], by omega, by rw [hil]; exact row_baseR hown (by omega)⟩)
  have hml : (insR rs k (x, y, z)).length ≤ 1048576 := by rw [hil]; omega
  have HBL5 := Lib.hid (blankP_kept hb5 hl3 HBL2.out)
  have hl5 := Nat.lt_of_lt_of_le hl3 hb5.size
  have HB5 := Lib.hid (below_of HB2.out hb5 HB2.out.size)
  have hgn : w.heap.size + 1 + 1 < g := by omega
  have HRV6 := Lib.hid (rv_kept (below_al w5 (.cells #[.string s, .slice (some ⟨g, 0, none⟩) (n + 1) cap] 35)) HRV.out)
  have hp6 := prof_alloc w5 s (.slice (some ⟨g, 0, none⟩) (n + 1) cap) 35
  have HBL6 := Lib.hid (blankP_kept (below_al w5 (.cells #[.string s, .slice (some ⟨g, 0, none⟩) (n + 1) cap] 35)) hl5 HBL5.out)
  have HB6 := Lib.hid (HB5.out.alloc HB5.out.size (.cells #[.string s, .slice (some ⟨g, 0, none⟩) (n + 1) cap] 35))
  have hl6 := alloc_lt2 w5 (.cells #[.string s, .slice (some ⟨g, 0, none⟩) (n + 1) cap] 35)
  have HML := Lib.hid hml
  clear hown hb5 hil r0 r1 u0 u1 u2 hml
  go_wp2_with fail
  generalize w5.alloc (.cells #[.string s, .slice (some ⟨g, 0, none⟩) (n + 1) cap] 35) = w6 at *
  refine (l05Ok_any w5.heap.size s _ (insR rs k (x, y, z)) w6 hp6 (rv_rings HML.out HRV6.out) hs).mono ?_
  rintro e w7 ⟨rfl, hb⟩
  rw [HQ.out]
  obtain ⟨p70, p71⟩ := prof_keep hb hl6 hp6
  obtain ⟨⟨b0, b1⟩, f0, f1⟩ := blankP_kept hb (show w.heap.size + 1 + 1 < w6.heap.size by omega) HBL6.out
  have HRV7 := Lib.hid (rv_kept hb HRV6.out)
  have HB7 := Lib.hid (below_of HB6.out hb HB6.out.size)
  clear hb hp6
  go_wp2
  try simp only [Exit.inBlock, Exit.then]
  refine bodyPost_ret_by (v := .tuple #[.agg #[.string s, .slice (some ⟨g, 0, none⟩) (n + 1) cap], .int .i64 0]) (by rw [results_cellP rfl]; go_simp) rfl ?_
  refine ⟨_, rfl, ?_, ?_⟩
  · obtain ⟨e', -⟩ | ⟨g', c', e', h1', h2'⟩ := HRV7.out
    · cases e'
    · refine rv_own (ownR_set2 (zs := insR rs k (x, y, z)) ⟨g', c', e', h1', (h2'.lt g' rfl).2, by rw [e']; exact h2'⟩ (w.heap.size + 1 + 1) _ _ (fun q o n' c'' e'' => by simp only [Value.slice.injEq, Option.some.injEq, Addr.mk.injEq] at e''; omega))
  · exact (HB7.out.setCell (by show _ ≤ w.heap.size + 1 + 1; omega) _).setCell (by show _ ≤ w.heap.size + 1 + 1; omega) _
set_option maxRecDepth 20000 in
set_option maxHeartbeats 4000000 in
theorem specInsert_no (s : ByteArray) (b off n c : Nat) (rs : List Rg) (x y z : Int) (w : World) (k : Nat) (hn : Hid (rs.length = n)) (h1 : 1 ≤ n) (h32 : n < 32) (hnc : n ≤ c) (hk : k ≤ n) (HP : Hid (profB s rs = true)) (HR : Hid (ringB (x, y, z) = true)) (HK : Hid (inB (k : Int) 0 n = true)) (HQ : Hid (profB s (insR rs k (x, y, z)) = false)) (HI : Hid (RingsAt w (.slice (some ⟨b, off, none⟩) n c) rs)) (hs : s.size ≤ maxLen) :
    Calls Try.prog 36 #[.agg #[.string s, .slice (some ⟨b, off, none⟩) n c], .int .i64 (k : Int), .agg #[.int .i64 x, .int .i64 y, .int .i64 z]] w (ProfU ⟨#[]⟩ [] 6 w) := by
  have hne32 : ((n : Int) == 32) = false := by simp; omega
  have hBA := (((Below.refl w.heap.size w).alloc (Nat.le_refl _) (.cells #[.string s, .slice (some ⟨b, off, none⟩) n c] 35)).alloc (by simp) (.cells #[.int .i64 x, .int .i64 y, .int .i64 z] 25)).alloc (by simp; omega) (.cells #[.string ⟨#[]⟩, .slice none 0 0] 35)
  have z0 : (((w.alloc (.cells #[.string s, .slice (some ⟨b, off, none⟩) n c] 35)).alloc (.cells #[.int .i64 x, .int .i64 y, .int .i64 z] 25)).alloc (.cells #[.string ⟨#[]⟩, .slice none 0 0] 35)).cell? ⟨w.heap.size, 0, none⟩ = some (.string s) := by go_simp
  have z1 : (((w.alloc (.cells #[.string s, .slice (some ⟨b, off, none⟩) n c] 35)).alloc (.cells #[.int .i64 x, .int .i64 y, .int .i64 z] 25)).alloc (.cells #[.string ⟨#[]⟩, .slice none 0 0] 35)).cell? ⟨w.heap.size, 1, none⟩ = some (.slice (some ⟨b, off, none⟩) n c) := by go_simp
  have y0 : (((w.alloc (.cells #[.string s, .slice (some ⟨b, off, none⟩) n c] 35)).alloc (.cells #[.int .i64 x, .int .i64 y, .int .i64 z] 25)).alloc (.cells #[.string ⟨#[]⟩, .slice none 0 0] 35)).cell? ⟨w.heap.size + 1, 0, none⟩ = some (.int .i64 x) := by go_simp
  have y1 : (((w.alloc (.cells #[.string s, .slice (some ⟨b, off, none⟩) n c] 35)).alloc (.cells #[.int .i64 x, .int .i64 y, .int .i64 z] 25)).alloc (.cells #[.string ⟨#[]⟩, .slice none 0 0] 35)).cell? ⟨w.heap.size + 1, 1, none⟩ = some (.int .i64 y) := by go_simp
  have y2 : (((w.alloc (.cells #[.string s, .slice (some ⟨b, off, none⟩) n c] 35)).alloc (.cells #[.int .i64 x, .int .i64 y, .int .i64 z] 25)).alloc (.cells #[.string ⟨#[]⟩, .slice none 0 0] 35)).cell? ⟨w.heap.size + 1, 2, none⟩ = some (.int .i64 z) := by go_simp
  have hbl : BlankP (((w.alloc (.cells #[.string s, .slice (some ⟨b, off, none⟩) n c] 35)).alloc (.cells #[.int .i64 x, .int .i64 y, .int .i64 z] 25)).alloc (.cells #[.string ⟨#[]⟩, .slice none 0 0] 35)) (w.heap.size + 1 + 1) := ⟨⟨by go_simp, by go_simp⟩, by go_simp, by go_simp⟩
  have hl1 : w.heap.size + 1 + 1 < (((w.alloc (.cells #[.string s, .slice (some ⟨b, off, none⟩) n c] 35)).alloc (.cells #[.int .i64 x, .int .i64 y, .int .i64 z] 25)).alloc (.cells #[.string ⟨#[]⟩, .slice none 0 0] 35)).heap.size := by simp
  have HBA := Lib.hid hBA
  have HIA := Lib.hid (rings_kept hBA HI.out)
  go_enter Try.func36, Try.ntmps36
  go_wp2_with fail
  clear hBA
  generalize (((w.alloc (.cells #[.string s, .slice (some ⟨b, off, none⟩) n c] 35)).alloc (.cells #[.int .i64 x, .int .i64 y, .int .i64 z] 25)).alloc (.cells #[.string ⟨#[]⟩, .slice none 0 0] 35)) = wA at *
  refine (l05Ok_any _ s _ rs _ ⟨z0, z1⟩ HIA.out hs).mono ?_
  rintro e w1 ⟨rfl, hb⟩
  rw [HP.out]
  have q0 := (below_cell hb _ _ (by omega)).trans z0
  have q1 := (below_cell hb _ _ (by omega)).trans z1
  have x0 := (below_cell hb _ _ (show w.heap.size + 1 < wA.heap.size by omega)).trans y0
  have x1 := (below_cell hb _ _ (show w.heap.size + 1 < wA.heap.size by omega)).trans y1
  have x2 := (below_cell hb _ _ (show w.heap.size + 1 < wA.heap.size by omega)).trans y2
  have HBL := Lib.hid (blankP_kept hb hl1 hbl)
  have hl2 := Nat.lt_of_lt_of_le hl1 hb.size
  have HI1 := Lib.hid (rings_kept hb HIA.out)
  have HB := Lib.hid (below_of HBA.out hb HBA.out.size)
  clear hb hbl z0 z1 y0 y1 y2
  go_wp2_with fail
  refine (l05Ring_any x y z _ _ _ ⟨x0, x1, x2⟩).mono ?_
  rintro e w2 ⟨rfl, m2, rfl⟩
  rw [HR.out]
  have HB2 := Lib.hid (show Below w.heap.size w (w1.drewN m2) from ⟨HB.out.os, HB.out.tape, HB.out.output, HB.out.size, HB.out.block⟩)
  have HBL2 := Lib.hid (show BlankP (w1.drewN m2) (w.heap.size + 1 + 1) from HBL.out)
  have HI2 := Lib.hid (rings_kept (below_drewN w1 m2) HI1.out)
  have r0 : (w1.drewN m2).cell? ⟨w.heap.size, 0, none⟩ = some (.string s) := q0
  have r1 : (w1.drewN m2).cell? ⟨w.heap.size, 1, none⟩ = some (.slice (some ⟨b, off, none⟩) n c) := q1
  have u0 : (w1.drewN m2).cell? ⟨w.heap.size + 1, 0, none⟩ = some (.int .i64 x) := x0
  have u1 : (w1.drewN m2).cell? ⟨w.heap.size + 1, 1, none⟩ = some (.int .i64 y) := x1
  have u2 : (w1.drewN m2).cell? ⟨w.heap.size + 1, 2, none⟩ = some (.int .i64 z) := x2
  have hl3 : w.heap.size + 1 + 1 < (w1.drewN m2).heap.size := hl2
  clear q0 q1 x0 x1 x2 hl2
  generalize w1.drewN m2 = wD at *
  go_wp2_with fail
  refine (l00In_any (k : Int) 0 (n : Int) _).mono ?_
  rintro e w2 ⟨rfl, rfl⟩
  rw [HK.out]
  go_wp2_with fail
  refine (l05With_any _ s b off n c rs k x y z wD hn h1 (by omega) hnc hk ⟨r0, r1⟩ (by omega) HI2).mono ?_
  rintro e w5 ⟨g, cap, rfl, hgB, hown, hb5⟩
  have hil : (insR rs k (x, y, z)).length = n + 1 := by rw [insR_len _ _ _ (by rw [hn.out]; omega), hn.out]
  have HRV := Lib.hid (show Rv w5 w.heap.size (.slice (some ⟨g, 0, none⟩) (n + 1) cap) (insR rs k (x, y, z)) from .inr ⟨g, cap, by rw [hil], by omega, by rw [hil]; exact row_baseR hown (by omega)⟩)
  have hml : (insR rs k (x, y, z)).length ≤ 1048576 := by rw [hil]; omega
  have HBL5 := Lib.hid (blankP_kept hb5 hl3 HBL2.out)
  have hl5 := Nat.lt_of_lt_of_le hl3 hb5.size
  have HB5 := Lib.hid (below_of HB2.out hb5 HB2.out.size)
  have hgn : w.heap.size + 1 + 1 < g := by omega
  have HRV6 := Lib.hid (rv_kept (below_al w5 (.cells #[.string s, .slice (some ⟨g, 0, none⟩) (n + 1) cap] 35)) HRV.out)
  have hp6 := prof_alloc w5 s (.slice (some ⟨g, 0, none⟩) (n + 1) cap) 35
  have HBL6 := Lib.hid (blankP_kept (below_al w5 (.cells #[.string s, .slice (some ⟨g, 0, none⟩) (n + 1) cap] 35)) hl5 HBL5.out)
  have HB6 := Lib.hid (HB5.out.alloc HB5.out.size (.cells #[.string s, .slice (some ⟨g, 0, none⟩) (n + 1) cap] 35))
  have hl6 := alloc_lt2 w5 (.cells #[.string s, .slice (some ⟨g, 0, none⟩) (n + 1) cap] 35)
  have HML := Lib.hid hml
  clear hown hb5 hil r0 r1 u0 u1 u2 hml
  go_wp2_with fail
  generalize w5.alloc (.cells #[.string s, .slice (some ⟨g, 0, none⟩) (n + 1) cap] 35) = w6 at *
  refine (l05Ok_any w5.heap.size s _ (insR rs k (x, y, z)) w6 hp6 (rv_rings HML.out HRV6.out) hs).mono ?_
  rintro e w7 ⟨rfl, hb⟩
  rw [HQ.out]
  obtain ⟨p70, p71⟩ := prof_keep hb hl6 hp6
  obtain ⟨⟨b0, b1⟩, f0, f1⟩ := blankP_kept hb (show w.heap.size + 1 + 1 < w6.heap.size by omega) HBL6.out
  have HRV7 := Lib.hid (rv_kept hb HRV6.out)
  have HB7 := Lib.hid (below_of HB6.out hb HB6.out.size)
  clear hb hp6
  go_wp2
  try simp only [Exit.inBlock, Exit.then]
  refine bodyPost_ret_by (v := .tuple #[.agg #[.string ⟨#[]⟩, .slice none 0 0], .int .i64 6]) (by rw [results_cellP rfl]; go_simp) rfl ?_
  refine ⟨_, rfl, .inl ⟨rfl, rfl⟩, ?_⟩
  exact (HB7.out.setCell (by show _ ≤ w.heap.size + 1 + 1; omega) _).setCell (by show _ ≤ w.heap.size + 1 + 1; omega) _
theorem specInsert_any (s : ByteArray) (v : Value) (rs : List Rg) (k : Int) (x y z : Int) (w : World) (h : RingsC w v rs) (hs : s.size ≤ maxLen) :
    Calls Try.prog 36 #[.agg #[.string s, v], .int .i64 k, .agg #[.int .i64 x, .int .i64 y, .int .i64 z]] w (ProfU (resS s (insC s rs k (x, y, z))) (resL (insR rs k.toNat (x, y, z)) (insC s rs k (x, y, z))) (insC s rs k (x, y, z)) w) := by
  obtain ⟨h, a, c, rfl, hc⟩ := h
  rcases Bool.eq_false_or_eq_true (profB s rs) with hp | hp
  · obtain ⟨-, ⟨n1, n2⟩, -, -⟩ := prof_iff.1 hp
    rcases Bool.eq_false_or_eq_true (ringB (x, y, z)) with hr | hr
    · rcases Bool.eq_false_or_eq_true (inB k 0 rs.length) with hk | hk
      · by_cases h32 : rs.length = 32
        · rw [insC_5 hp hr hk h32]
          exact specInsert_full s a rs.length c rs x y z w k h32 (Lib.hid hp) (Lib.hid hr) (Lib.hid hk) (Lib.hid h) hs
        · rw [insC_0 hp hr hk h32]
          have hb := inB_iff.1 hk
          obtain ⟨q, rfl⟩ := Int.eq_ofNat_of_zero_le hb.1
          rw [Int.toNat_natCast]
          obtain ⟨b, off, rfl⟩ : ∃ b off, a = some ⟨b, off, none⟩ := by
            obtain ⟨_, ⟨a', c', e, h0⟩ | ⟨b, off, cap, e, -, -⟩⟩ := h
            · rw [h0] at n1; simp at n1
            · simp only [Value.slice.injEq] at e; exact ⟨b, off, e.1⟩
          rcases Bool.eq_false_or_eq_true (profB s (insR rs q (x, y, z))) with hq | hq
          · rw [show resC s (insR rs q (x, y, z)) = 0 by unfold resC; rw [if_pos hq]]
            exact specInsert_yes s b off rs.length c rs x y z w q (Lib.hid rfl) n1 (by omega) hc (by omega) (Lib.hid hp) (Lib.hid hr) (Lib.hid hk) (Lib.hid hq) (Lib.hid h) hs
          · rw [show resC s (insR rs q (x, y, z)) = 6 by unfold resC; rw [hq]; rfl]
            exact specInsert_no s b off rs.length c rs x y z w q (Lib.hid rfl) n1 (by omega) hc (by omega) (Lib.hid hp) (Lib.hid hr) (Lib.hid hk) (Lib.hid hq) (Lib.hid h) hs
      · rw [insC_2 hp hr hk]
        exact specInsert_range s a rs.length c rs x y z w k (Lib.hid hp) (Lib.hid hr) (Lib.hid hk) (Lib.hid h) hs
    · rw [insC_1r hp hr]
      exact specInsert_ring s a rs.length c rs x y z w k (Lib.hid hp) (Lib.hid hr) (Lib.hid h) hs
  · rw [insC_1 hp]
    exact specInsert_bad s a rs.length c rs x y z w k (Lib.hid hp) (Lib.hid h) hs
end Go.Proofs.Ytojkijcdfnfnlaa
