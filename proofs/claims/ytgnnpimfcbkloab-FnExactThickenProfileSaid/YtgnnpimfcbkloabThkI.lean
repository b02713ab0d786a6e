/- A profile with a thicker wall: the program's walk. -/
import Derived.Test.YtgnnpimfcbkloabThkS
import Derived.Test.YtgnnpimfcbkloabMapRThk
set_option linter.unusedVariables false
namespace Go.Proofs.Ytgnnpimfcbkloab
open Go.ChangeShapes Go.WideShapes Go.ChangeAt Go.RowKit

theorem clo_thk (x y z d : Int) (g : Nat) (w : World) (hc : w.cell? ⟨g, 0, none⟩ = some (.int .i64 d)) (hg : g < w.heap.size) (hx : 0 ≤ x ∧ x ≤ 150000) (hd : -150000 ≤ d ∧ d ≤ 150000) :
    Calls Try.prog 84 #[.agg #[.int .i64 x, .int .i64 y, .int .i64 z], .pointer (some ⟨g, 0, none⟩)] w fun e w' => e = .returned (.agg #[.int .i64 (x + d), .int .i64 y, .int .i64 z]) ∧ Below w.heap.size w w' := by
  have hb : Below w.heap.size w ((w.alloc (.cells #[.int .i64 x, .int .i64 y, .int .i64 z] 54)).alloc (.cells #[.int .i64 0, .int .i64 0, .int .i64 0] 54)) := (below_al _ _).alloc (by simp) _
  have hq := (below_cell hb g 0 hg).trans hc
  have hw : IntKind.i64.wrap (x + d) = x + d := IntWalk.i64_in _ (by omega)
  go_enter Try.func84, Try.ntmps84
  go_wp2
  try simp only [Exit.inBlock, Exit.then]
  refine bodyPost_ret_by (v := .agg #[.int .i64 (x + d), .int .i64 y, .int .i64 z]) (by rw [results_cell1o rfl]; go_simp) rfl ?_
  exact ⟨rfl, (below_al _ _).alloc (by simp) _⟩
set_option maxRecDepth 20000 in
set_option maxHeartbeats 4000000 in
theorem implThk_bad (s : ByteArray) (a : Option Addr) (n c : Nat) (rs : List Rg) (d : Int) (w : World) (hn : Hid (rs.length = n)) (HI : Hid (RingsAt w (.slice a n c) rs)) (hs : s.size ≤ maxLen) (HP : Hid (profB s rs = false)) :
    Calls Try.prog 24 #[.agg #[.string s, .slice a n c], .int .i64 d] w (ProfU ⟨#[]⟩ [] 1 w) := by
  have hBA := (((Below.refl w.heap.size w).alloc (Nat.le_refl _) (.cells #[.string s, .slice a n c] 31)).alloc (by simp) (.cells #[.int .i64 d] 2)).alloc (by simp; omega) (.cells #[.string ⟨#[]⟩, .slice none 0 0] 31)
  have z0 : (((w.alloc (.cells #[.string s, .slice a n c] 31)).alloc (.cells #[.int .i64 d] 2)).alloc (.cells #[.string ⟨#[]⟩, .slice none 0 0] 31)).cell? ⟨w.heap.size, 0, none⟩ = some (.string s) := by go_simp
  have z1 : (((w.alloc (.cells #[.string s, .slice a n c] 31)).alloc (.cells #[.int .i64 d] 2)).alloc (.cells #[.string ⟨#[]⟩, .slice none 0 0] 31)).cell? ⟨w.heap.size, 1, none⟩ = some (.slice a n c) := by go_simp
  have z2 : (((w.alloc (.cells #[.string s, .slice a n c] 31)).alloc (.cells #[.int .i64 d] 2)).alloc (.cells #[.string ⟨#[]⟩, .slice none 0 0] 31)).cell? ⟨w.heap.size + 1, 0, none⟩ = some (.int .i64 d) := by go_simp
  have hbl : BlankP (((w.alloc (.cells #[.string s, .slice a n c] 31)).alloc (.cells #[.int .i64 d] 2)).alloc (.cells #[.string ⟨#[]⟩, .slice none 0 0] 31)) (w.heap.size + 1 + 1) := ⟨⟨by go_simp, by go_simp⟩, by go_simp, by go_simp⟩
  have hl1 : w.heap.size + 1 + 1 < (((w.alloc (.cells #[.string s, .slice a n c] 31)).alloc (.cells #[.int .i64 d] 2)).alloc (.cells #[.string ⟨#[]⟩, .slice none 0 0] 31)).heap.size := by simp
  have HBA := Lib.hid hBA
  have HIA := Lib.hid (rings_kept hBA HI.out)
  go_enter Try.func24, Try.ntmps24
  go_wp2_with fail
  clear hBA
  generalize (((w.alloc (.cells #[.string s, .slice a n c] 31)).alloc (.cells #[.int .i64 d] 2)).alloc (.cells #[.string ⟨#[]⟩, .slice none 0 0] 31)) = wA at *
  refine (implValidP_any s _ rs _ HIA.out hs).mono ?_
  rintro e w1 ⟨rfl, hb⟩
  rw [HP.out]
  have q0 := (below_cell hb _ _ (by omega)).trans z0
  have q1 := (below_cell hb _ _ (by omega)).trans z1
  have q2 := (below_cell hb _ _ (by omega)).trans z2
  have HBL := Lib.hid (blankP_kept hb hl1 hbl)
  have hl2 := Nat.lt_of_lt_of_le hl1 hb.size
  have HI1 := Lib.hid (rings_kept hb HIA.out)
  have HB := Lib.hid (below_of HBA.out hb HBA.out.size)
  clear hb hbl z0 z1 z2
  obtain ⟨⟨b0, b1⟩, f0, f1⟩ := HBL.out
  go_wp2
  try simp only [Exit.inBlock, Exit.then]
  refine bodyPost_ret_by (v := .tuple #[.agg #[.string ⟨#[]⟩, .slice none 0 0], .int .i64 1]) (by rw [results_cellP rfl]; go_simp) rfl ?_
  refine ⟨_, rfl, .inl ⟨rfl, rfl⟩, ?_⟩
  exact (HB.out.setCell (by show _ ≤ w.heap.size + 1 + 1; omega) _).setCell (by show _ ≤ w.heap.size + 1 + 1; omega) _
set_option maxRecDepth 20000 in
set_option maxHeartbeats 4000000 in
theorem implThk_range (s : ByteArray) (a : Option Addr) (n c : Nat) (rs : List Rg) (d : Int) (w : World) (hn : Hid (rs.length = n)) (HI : Hid (RingsAt w (.slice a n c) rs)) (hs : s.size ≤ maxLen) (HP : Hid (profB s rs = true)) (HM : Hid (inB d (-150000) 150000 = false)) :
    Calls Try.prog 24 #[.agg #[.string s, .slice a n c], .int .i64 d] w (ProfU ⟨#[]⟩ [] 2 w) := by
  have hBA := (((Below.refl w.heap.size w).alloc (Nat.le_refl _) (.cells #[.string s, .slice a n c] 31)).alloc (by simp) (.cells #[.int .i64 d] 2)).alloc (by simp; omega) (.cells #[.string ⟨#[]⟩, .slice none 0 0] 31)
  have z0 : (((w.alloc (.cells #[.string s, .slice a n c] 31)).alloc (.cells #[.int .i64 d] 2)).alloc (.cells #[.string ⟨#[]⟩, .slice none 0 0] 31)).cell? ⟨w.heap.size, 0, none⟩ = some (.string s) := by go_simp
  have z1 : (((w.alloc (.cells #[.string s, .slice a n c] 31)).alloc (.cells #[.int .i64 d] 2)).alloc (.cells #[.string ⟨#[]⟩, .slice none 0 0] 31)).cell? ⟨w.heap.size, 1, none⟩ = some (.slice a n c) := by go_simp
  have z2 : (((w.alloc (.cells #[.string s, .slice a n c] 31)).alloc (.cells #[.int .i64 d] 2)).alloc (.cells #[.string ⟨#[]⟩, .slice none 0 0] 31)).cell? ⟨w.heap.size + 1, 0, none⟩ = some (.int .i64 d) := by go_simp
  have hbl : BlankP (((w.alloc (.cells #[.string s, .slice a n c] 31)).alloc (.cells #[.int .i64 d] 2)).alloc (.cells #[.string ⟨#[]⟩, .slice none 0 0] 31)) (w.heap.size + 1 + 1) := ⟨⟨by go_simp, by go_simp⟩, by go_simp, by go_simp⟩
  have hl1 : w.heap.size + 1 + 1 < (((w.alloc (.cells #[.string s, .slice a n c] 31)).alloc (.cells #[.int .i64 d] 2)).alloc (.cells #[.string ⟨#[]⟩, .slice none 0 0] 31)).heap.size := by simp
  have HBA := Lib.hid hBA
  have HIA := Lib.hid (rings_kept hBA HI.out)
  go_enter Try.func24, Try.ntmps24
  go_wp2_with fail
  clear hBA
  generalize (((w.alloc (.cells #[.string s, .slice a n c] 31)).alloc (.cells #[.int .i64 d] 2)).alloc (.cells #[.string ⟨#[]⟩, .slice none 0 0] 31)) = wA at *
  refine (implValidP_any s _ rs _ HIA.out hs).mono ?_
  rintro e w1 ⟨rfl, hb⟩
  rw [HP.out]
  have q0 := (below_cell hb _ _ (by omega)).trans z0
  have q1 := (below_cell hb _ _ (by omega)).trans z1
  have q2 := (below_cell hb _ _ (by omega)).trans z2
  have HBL := Lib.hid (blankP_kept hb hl1 hbl)
  have hl2 := Nat.lt_of_lt_of_le hl1 hb.size
  have HI1 := Lib.hid (rings_kept hb HIA.out)
  have HB := Lib.hid (below_of HBA.out hb HBA.out.size)
  clear hb hbl z0 z1 z2
  go_wp2_with fail
  refine (within_i64 _ _ [d] _ 0 1 1 _ rfl (by omega) (cell_int _ _ _ _ (by simp))).mono ?_
  rintro e w2 ⟨rfl, rfl⟩
  rw [all_one, HM.out]
  have hal := below_al w1 (.cells #[.int .i64 d] 2)
  have HBL := Lib.hid (blankP_kept hal hl2 HBL.out)
  have HB := Lib.hid (below_of HB.out hal HB.out.size)
  have r0 := (below_cell hal _ _ (show w.heap.size < _ by omega)).trans q0
  have r1 := (below_cell hal _ _ (show w.heap.size < _ by omega)).trans q1
  have r2 := (below_cell hal _ _ (show w.heap.size + 1 < _ by omega)).trans q2
  have hl3 := Nat.lt_of_lt_of_le hl2 hal.size
  have HI2 := Lib.hid (rings_kept hal HI1.out)
  clear hal q0 q1 q2
  generalize w1.alloc (.cells #[.int .i64 d] 2) = wB at *
  obtain ⟨⟨b0, b1⟩, f0, f1⟩ := HBL.out
  go_wp2
  try simp only [Exit.inBlock, Exit.then]
  refine bodyPost_ret_by (v := .tuple #[.agg #[.string ⟨#[]⟩, .slice none 0 0], .int .i64 2]) (by rw [results_cellP rfl]; go_simp) rfl ?_
  refine ⟨_, rfl, .inl ⟨rfl, rfl⟩, ?_⟩
  exact (HB.out.setCell (by show _ ≤ w.heap.size + 1 + 1; omega) _).setCell (by show _ ≤ w.heap.size + 1 + 1; omega) _
set_option maxRecDepth 20000 in
set_option maxHeartbeats 4000000 in
theorem implThk_yes (s : ByteArray) (a : Option Addr) (n c : Nat) (rs : List Rg) (d : Int) (w : World) (hn : Hid (rs.length = n)) (h1 : 1 ≤ n) (h32 : n ≤ 32) (HI : Hid (RingsAt w (.slice a n c) rs)) (hs : s.size ≤ maxLen) (HP : Hid (profB s rs = true)) (HM : Hid (inB d (-150000) 150000 = true)) (HQ : Hid (profB s (rs.map (thkR d)) = true)) :
    Calls Try.prog 24 #[.agg #[.string s, .slice a n c], .int .i64 d] w (ProfU s (rs.map (thkR d)) 0 w) := by
  have hdb := inB_iff.1 HM.out
  have HVR := Lib.hid (fun i hi => prof_ring HP.out i hi)
  have hBA := (((Below.refl w.heap.size w).alloc (Nat.le_refl _) (.cells #[.string s, .slice a n c] 31)).alloc (by simp) (.cells #[.int .i64 d] 2)).alloc (by simp; omega) (.cells #[.string ⟨#[]⟩, .slice none 0 0] 31)
  have z0 : (((w.alloc (.cells #[.string s, .slice a n c] 31)).alloc (.cells #[.int .i64 d] 2)).alloc (.cells #[.string ⟨#[]⟩, .slice none 0 0] 31)).cell? ⟨w.heap.size, 0, none⟩ = some (.string s) := by go_simp
  have z1 : (((w.alloc (.cells #[.string s, .slice a n c] 31)).alloc (.cells #[.int .i64 d] 2)).alloc (.cells #[.string ⟨#[]⟩, .slice none 0 0] 31)).cell? ⟨w.heap.size, 1, none⟩ = some (.slice a n c) := by go_simp
  have z2 : (((w.alloc (.cells #[.string s, .slice a n c] 31)).alloc (.cells #[.int .i64 d] 2)).alloc (.cells #[.string ⟨#[]⟩, .slice none 0 0] 31)).cell? ⟨w.heap.size + 1, 0, none⟩ = some (.int .i64 d) := by go_simp
  have hbl : BlankP (((w.alloc (.cells #[.string s, .slice a n c] 31)).alloc (.cells #[.int .i64 d] 2)).alloc (.cells #[.string ⟨#[]⟩, .slice none 0 0] 31)) (w.heap.size + 1 + 1) := ⟨⟨by go_simp, by go_simp⟩, by go_simp, by go_simp⟩
  have hl1 : w.heap.size + 1 + 1 < (((w.alloc (.cells #[.string s, .slice a n c] 31)).alloc (.cells #[.int .i64 d] 2)).alloc (.cells #[.string ⟨#[]⟩, .slice none 0 0] 31)).heap.size := by simp
  have HBA := Lib.hid hBA
  have HIA := Lib.hid (rings_kept hBA HI.out)
  go_enter Try.func24, Try.ntmps24
  go_wp2_with fail
  clear hBA
  generalize (((w.alloc (.cells #[.string s, .slice a n c] 31)).alloc (.cells #[.int .i64 d] 2)).alloc (.cells #[.string ⟨#[]⟩, .slice none 0 0] 31)) = wA at *
  refine (implValidP_any s _ rs _ HIA.out hs).mono ?_
  rintro e w1 ⟨rfl, hb⟩
  rw [HP.out]
  have q0 := (below_cell hb _ _ (by omega)).trans z0
  have q1 := (below_cell hb _ _ (by omega)).trans z1
  have q2 := (below_cell hb _ _ (by omega)).trans z2
  have HBL := Lib.hid (blankP_kept hb hl1 hbl)
  have hl2 := Nat.lt_of_lt_of_le hl1 hb.size
  have HI1 := Lib.hid (rings_kept hb HIA.out)
  have HB := Lib.hid (below_of HBA.out hb HBA.out.size)
  clear hb hbl z0 z1 z2
  go_wp2_with fail
  refine (within_i64 _ _ [d] _ 0 1 1 _ rfl (by omega) (cell_int _ _ _ _ (by simp))).mono ?_
  rintro e w2 ⟨rfl, rfl⟩
  rw [all_one, HM.out]
  have hal := below_al w1 (.cells #[.int .i64 d] 2)
  have HBL := Lib.hid (blankP_kept hal hl2 HBL.out)
  have HB := Lib.hid (below_of HB.out hal HB.out.size)
  have r0 := (below_cell hal _ _ (show w.heap.size < _ by omega)).trans q0
  have r1 := (below_cell hal _ _ (show w.heap.size < _ by omega)).trans q1
  have r2 := (below_cell hal _ _ (show w.heap.size + 1 < _ by omega)).trans q2
  have hl3 := Nat.lt_of_lt_of_le hl2 hal.size
  have HI2 := Lib.hid (rings_kept hal HI1.out)
  clear hal q0 q1 q2
  go_wp2
  generalize w1.alloc (.cells #[.int .i64 d] 2) = wB at *
  obtain ⟨b, off, rfl, hbl, hri⟩ := rings_lieO hn.out h1 HI2.out
  have HMP := Lib.hid (mapThk_any rs (thkR d) b off c (w.heap.size + 1) wB.drew (by rw [hn.out]; omega) hbl (fun i hi => ⟨(hri i (by rw [← hn.out]; exact hi)).c0, (hri i (by rw [← hn.out]; exact hi)).c1, (hri i (by rw [← hn.out]; exact hi)).c2⟩) n hn (fun i x y z W hi hxyz hW => by
    have hrb := HVR.out i (by rw [hn.out]; exact hi)
    rw [hxyz] at hrb
    have hx := (ring_iff.1 hrb).1
    exact clo_thk x y z d (w.heap.size + 1) W ((below_cell hW _ _ (show w.heap.size + 1 < wB.drew.heap.size from (by show w.heap.size + 1 < wB.heap.size; omega))).trans r2) (Nat.lt_of_lt_of_le (show w.heap.size + 1 < wB.heap.size by omega) hW.size) (by omega) hdb))
  have HML := Lib.hid (show (rs.map (thkR d)).length = n by rw [List.length_map]; exact hn.out)
  clear hri
  generalize rs.map (thkR d) = l at *
  have hp01 : w.heap.size < wB.heap.size := by omega
  go_region_held3 (fun w' => w'.cell? ⟨w.heap.size, 0, none⟩ = some (.string s) ∧ w'.cell? ⟨w.heap.size, 1, none⟩ = some (.slice (some ⟨b, off, none⟩) n c))
    (first | exact ⟨r0, r1⟩ | exact k2_below (by assumption) hz5 hb5 | exact k2_below (by assumption) hz7 hb7 | exact k2_set2 (by assumption) (by omega))
    (first
      | (go_at_call 83; refine HMP.out.mono ?_; rintro e w5 ⟨g, rfl, hg0, hgl, hrow, hb5⟩; have hz5 : w.heap.size < wB.drew.heap.size := hp01; have hz7 : w.heap.size < w5.heap.size := Nat.lt_of_lt_of_le hp01 hb5.size; have hg0' : wB.heap.size ≤ g := hg0; have HRW := Lib.hid hrow; have HRV := Lib.hid (show Rv w5 wB.heap.size (.slice (some ⟨g, 0, none⟩) n n) l from .inr ⟨g, n, by rw [HML.out], hg0, by rw [HML.out]; exact hrow⟩); have HRR := Lib.hid (rv_rings (by rw [HML.out]; omega) HRV.out); clear hrow)
      | (go_at_call 75; refine (withRings_any s (some ⟨b, off, none⟩) n c _ l w5 HRR.out hs).mono ?_; rintro e w7 ⟨rfl, hb7⟩; rw [HQ.out, show resC s l = 0 from by unfold resC; rw [HQ.out]; rfl, show resS s 0 = s from rfl]; skip; obtain ⟨⟨b0, b1⟩, f0, f1⟩ := blankP_kept hb7 (Nat.lt_of_lt_of_le hl3 hb5.size) (blankP_kept (w := wB.drew) hb5 hl3 HBL.out)))
  have HBF := Lib.hid (below_of HB.out (show Below wB.heap.size wB w7 from (show Below wB.heap.size wB w5 from ⟨hb5.os, hb5.tape, hb5.output, hb5.size, hb5.block⟩).trans (hb7.mono hb5.size)) HB.out.size)
  have HOWN := Lib.hid (show OwnRings w7 w.heap.size (.slice (some ⟨g, 0, none⟩) n n) l from by
    refine ⟨g, n, by rw [HML.out], by have := HB.out.size; omega, Nat.lt_of_lt_of_le hgl hb7.size, ?_⟩
    rw [HML.out]
    exact row_keepR hb7 (row_baseR HRW.out (by have := HB.out.size; show _ ≤ wB.heap.size; omega)))
  have HGB := Lib.hid (show w.heap.size + 1 + 1 < g by omega)
  clear hb5 hb7
  go_wp2
  try simp only [Exit.inBlock, Exit.then]
  refine bodyPost_ret_by (v := .tuple #[.agg #[.string s, .slice (some ⟨g, 0, none⟩) n n], .int .i64 0]) (by rw [results_cellP rfl]; go_simp) rfl ?_
  refine ⟨_, rfl, ?_, ?_⟩
  · exact rv_own (ownR_set2 HOWN.out (w.heap.size + 1 + 1) _ _ (fun g' o n' c' e => by simp only [Value.slice.injEq, Option.some.injEq, Addr.mk.injEq] at e; have := HGB.out; omega))
  · exact (HBF.out.setCell (by show _ ≤ w.heap.size + 1 + 1; omega) _).setCell (by show _ ≤ w.heap.size + 1 + 1; omega) _
set_option maxRecDepth 20000 in
set_option maxHeartbeats 4000000 in
theorem implThk_no (s : ByteArray) (a : Option Addr) (n c : Nat) (rs : List Rg) (d : Int) (w : World) (hn : Hid (rs.length = n)) (h1 : 1 ≤ n) (h32 : n ≤ 32) (HI : Hid (RingsAt w (.slice a n c) rs)) (hs : s.size ≤ maxLen) (HP : Hid (profB s rs = true)) (HM : Hid (inB d (-150000) 150000 = true)) (HQ : Hid (profB s (rs.map (thkR d)) = false)) :
    Calls Try.prog 24 #[.agg #[.string s, .slice a n c], .int .i64 d] w (ProfU ⟨#[]⟩ [] 6 w) := by
  have hdb := inB_iff.1 HM.out
  have HVR := Lib.hid (fun i hi => prof_ring HP.out i hi)
  have hBA := (((Below.refl w.heap.size w).alloc (Nat.le_refl _) (.cells #[.string s, .slice a n c] 31)).alloc (by simp) (.cells #[.int .i64 d] 2)).alloc (by simp; omega) (.cells #[.string ⟨#[]⟩, .slice none 0 0] 31)
  have z0 : (((w.alloc (.cells #[.string s, .slice a n c] 31)).alloc (.cells #[.int .i64 d] 2)).alloc (.cells #[.string ⟨#[]⟩, .slice none 0 0] 31)).cell? ⟨w.heap.size, 0, none⟩ = some (.string s) := by go_simp
  have z1 : (((w.alloc (.cells #[.string s, .slice a n c] 31)).alloc (.cells #[.int .i64 d] 2)).alloc (.cells #[.string ⟨#[]⟩, .slice none 0 0] 31)).cell? ⟨w.heap.size, 1, none⟩ = some (.slice a n c) := by go_simp
  have z2 : (((w.alloc (.cells #[.string s, .slice a n c] 31)).alloc (.cells #[.int .i64 d] 2)).alloc (.cells #[.string ⟨#[]⟩, .slice none 0 0] 31)).cell? ⟨w.heap.size + 1, 0, none⟩ = some (.int .i64 d) := by go_simp
  have hbl : BlankP (((w.alloc (.cells #[.string s, .slice a n c] 31)).alloc (.cells #[.int .i64 d] 2)).alloc (.cells #[.string ⟨#[]⟩, .slice none 0 0] 31)) (w.heap.size + 1 + 1) := ⟨⟨by go_simp, by go_simp⟩, by go_simp, by go_simp⟩
  have hl1 : w.heap.size + 1 + 1 < (((w.alloc (.cells #[.string s, .slice a n c] 31)).alloc (.cells #[.int .i64 d] 2)).alloc (.cells #[.string ⟨#[]⟩, .slice none 0 0] 31)).heap.size := by simp
  have HBA := Lib.hid hBA
  have HIA := Lib.hid (rings_kept hBA HI.out)
  go_enter Try.func24, Try.ntmps24
  go_wp2_with fail
  clear hBA
  generalize (((w.alloc (.cells #[.string s, .slice a n c] 31)).alloc (.cells #[.int .i64 d] 2)).alloc (.cells #[.string ⟨#[]⟩, .slice none 0 0] 31)) = wA at *
  refine (implValidP_any s _ rs _ HIA.out hs).mono ?_
  rintro e w1 ⟨rfl, hb⟩
  rw [HP.out]
  have q0 := (below_cell hb _ _ (by omega)).trans z0
  have q1 := (below_cell hb _ _ (by omega)).trans z1
  have q2 := (below_cell hb _ _ (by omega)).trans z2
  have HBL := Lib.hid (blankP_kept hb hl1 hbl)
  have hl2 := Nat.lt_of_lt_of_le hl1 hb.size
  have HI1 := Lib.hid (rings_kept hb HIA.out)
  have HB := Lib.hid (below_of HBA.out hb HBA.out.size)
  clear hb hbl z0 z1 z2
  go_wp2_with fail
  refine (within_i64 _ _ [d] _ 0 1 1 _ rfl (by omega) (cell_int _ _ _ _ (by simp))).mono ?_
  rintro e w2 ⟨rfl, rfl⟩
  rw [all_one, HM.out]
  have hal := below_al w1 (.cells #[.int .i64 d] 2)
  have HBL := Lib.hid (blankP_kept hal hl2 HBL.out)
  have HB := Lib.hid (below_of HB.out hal HB.out.size)
  have r0 := (below_cell hal _ _ (show w.heap.size < _ by omega)).trans q0
  have r1 := (below_cell hal _ _ (show w.heap.size < _ by omega)).trans q1
  have r2 := (below_cell hal _ _ (show w.heap.size + 1 < _ by omega)).trans q2
  have hl3 := Nat.lt_of_lt_of_le hl2 hal.size
  have HI2 := Lib.hid (rings_kept hal HI1.out)
  clear hal q0 q1 q2
  go_wp2
  generalize w1.alloc (.cells #[.int .i64 d] 2) = wB at *
  obtain ⟨b, off, rfl, hbl, hri⟩ := rings_lieO hn.out h1 HI2.out
  have HMP := Lib.hid (mapThk_any rs (thkR d) b off c (w.heap.size + 1) wB.drew (by rw [hn.out]; omega) hbl (fun i hi => ⟨(hri i (by rw [← hn.out]; exact hi)).c0, (hri i (by rw [← hn.out]; exact hi)).c1, (hri i (by rw [← hn.out]; exact hi)).c2⟩) n hn (fun i x y z W hi hxyz hW => by
    have hrb := HVR.out i (by rw [hn.out]; exact hi)
    rw [hxyz] at hrb
    have hx := (ring_iff.1 hrb).1
    exact clo_thk x y z d (w.heap.size + 1) W ((below_cell hW _ _ (show w.heap.size + 1 < wB.drew.heap.size from (by show w.heap.size + 1 < wB.heap.size; omega))).trans r2) (Nat.lt_of_lt_of_le (show w.heap.size + 1 < wB.heap.size by omega) hW.size) (by omega) hdb))
  have HML := Lib.hid (show (rs.map (thkR d)).length = n by rw [List.length_map]; exact hn.out)
  clear hri
  generalize rs.map (thkR d) = l at *
  have hp01 : w.heap.size < wB.heap.size := by omega
  go_region_held3 (fun w' => w'.cell? ⟨w.heap.size, 0, none⟩ = some (.string s) ∧ w'.cell? ⟨w.heap.size, 1, none⟩ = some (.slice (some ⟨b, off, none⟩) n c))
    (first | exact ⟨r0, r1⟩ | exact k2_below (by assumption) hz5 hb5 | exact k2_below (by assumption) hz7 hb7 | exact k2_set2 (by assumption) (by omega))
    (first
      | (go_at_call 83; refine HMP.out.mono ?_; rintro e w5 ⟨g, rfl, hg0, hgl, hrow, hb5⟩; have hz5 : w.heap.size < wB.drew.heap.size := hp01; have hz7 : w.heap.size < w5.heap.size := Nat.lt_of_lt_of_le hp01 hb5.size; have hg0' : wB.heap.size ≤ g := hg0; have HRW := Lib.hid hrow; have HRV := Lib.hid (show Rv w5 wB.heap.size (.slice (some ⟨g, 0, none⟩) n n) l from .inr ⟨g, n, by rw [HML.out], hg0, by rw [HML.out]; exact hrow⟩); have HRR := Lib.hid (rv_rings (by rw [HML.out]; omega) HRV.out); clear hrow)
      | (go_at_call 75; refine (withRings_any s (some ⟨b, off, none⟩) n c _ l w5 HRR.out hs).mono ?_; rintro e w7 ⟨rfl, hb7⟩; rw [HQ.out, show resC s l = 6 from by unfold resC; rw [HQ.out]; rfl, show resS s 6 = ⟨#[]⟩ from rfl]; skip; obtain ⟨⟨b0, b1⟩, f0, f1⟩ := blankP_kept hb7 (Nat.lt_of_lt_of_le hl3 hb5.size) (blankP_kept (w := wB.drew) hb5 hl3 HBL.out)))
  have HBF := Lib.hid (below_of HB.out (show Below wB.heap.size wB w7 from (show Below wB.heap.size wB w5 from ⟨hb5.os, hb5.tape, hb5.output, hb5.size, hb5.block⟩).trans (hb7.mono hb5.size)) HB.out.size)
  clear hb5 hb7
  go_wp2
  try simp only [Exit.inBlock, Exit.then]
  refine bodyPost_ret_by (v := .tuple #[.agg #[.string ⟨#[]⟩, .slice none 0 0], .int .i64 6]) (by rw [results_cellP rfl]; go_simp) rfl ?_
  refine ⟨_, rfl, .inl ⟨rfl, rfl⟩, ?_⟩
  exact (HBF.out.setCell (by show _ ≤ w.heap.size + 1 + 1; omega) _).setCell (by show _ ≤ w.heap.size + 1 + 1; omega) _
theorem implThk_any (s : ByteArray) (v : Value) (rs : List Rg) (d : Int) (w : World) (h : RingsAt w v rs) (hs : s.size ≤ maxLen) :
    Calls Try.prog 24 #[.agg #[.string s, v], .int .i64 d] w (ProfU (resS s (thkC s rs d)) (resL (rs.map (thkR d)) (thkC s rs d)) (thkC s rs d) w) := by
  have HI := Lib.hid h
  obtain ⟨a, c, rfl⟩ := rings_form h
  rcases Bool.eq_false_or_eq_true (profB s rs) with hp | hp
  · obtain ⟨-, ⟨n1, n2⟩, -, -⟩ := prof_iff.1 hp
    rcases Bool.eq_false_or_eq_true (inB d (-150000) 150000) with hq | hq
    · rw [thkC_3 hp hq]
      rcases Bool.eq_false_or_eq_true (profB s (rs.map (thkR d))) with h3 | h3
      · rw [show resC s (rs.map (thkR d)) = 0 from by unfold resC; rw [if_pos h3]]
        exact implThk_yes s a rs.length c rs d w (Lib.hid rfl) n1 n2 HI hs (Lib.hid hp) (Lib.hid hq) (Lib.hid h3)
      · rw [show resC s (rs.map (thkR d)) = 6 from by unfold resC; rw [h3]; rfl]
        exact implThk_no s a rs.length c rs d w (Lib.hid rfl) n1 n2 HI hs (Lib.hid hp) (Lib.hid hq) (Lib.hid h3)
    · rw [thkC_2 hp hq]
      exact implThk_range s a rs.length c rs d w (Lib.hid rfl) HI hs (Lib.hid hp) (Lib.hid hq)
  · rw [thkC_1 hp]
    exact implThk_bad s a rs.length c rs d w (Lib.hid rfl) HI hs (Lib.hid hp)
end Go.Proofs.Ytgnnpimfcbkloab
