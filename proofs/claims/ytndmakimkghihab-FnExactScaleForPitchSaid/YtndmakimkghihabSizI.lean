/- A profile of another size: the program's method. -/
import Derived.Test.YtndmakimkghihabSizC
import Derived.Test.YtndmakimkghihabMapRSiz
import Derived.Deep.RegionHeld3
import Derived.Laws.EntriesVeiled
set_option linter.unusedVariables false
namespace Go.Proofs.Ytndmakimkghihab
open Go.ChangeShapes Go.WideShapes Go.ChangeAt Go.RowKit

def szf (num den : Int) (r : Rg) : Rg := (nq (r.1 * num) den, nq (r.2.1 * num) den, nq (r.2.2 * num) den)
theorem mul_bdz {x y X Y : Int} (h0 : 0 ≤ x) (h1 : x ≤ X) (k0 : 0 ≤ y) (k1 : y ≤ Y) : 0 ≤ x * y ∧ x * y ≤ X * Y :=
  ⟨Int.mul_nonneg h0 k0, Int.le_trans (Int.mul_le_mul_of_nonneg_right h1 k0) (Int.mul_le_mul_of_nonneg_left k1 (by omega))⟩
theorem cellNewZ (W : World) (v : Value) (t : TypeId) : (W.alloc (.cells #[v] t)).cell? ⟨W.heap.size, 0, none⟩ = some v := by go_simp
theorem k2_belowZ {w w' : World} {b : Nat} {u v : Value} (hS : w.cell? ⟨b, 0, none⟩ = some u ∧ w.cell? ⟨b, 1, none⟩ = some v) (hz : b < w.heap.size) (hb : Below w.heap.size w w') : w'.cell? ⟨b, 0, none⟩ = some u ∧ w'.cell? ⟨b, 1, none⟩ = some v :=
  ⟨(below_cell hb _ _ hz).trans hS.1, (below_cell hb _ _ hz).trans hS.2⟩
theorem k2_set2Z {w : World} {b b2 : Nat} {u v x y : Value} (hS : w.cell? ⟨b, 0, none⟩ = some u ∧ w.cell? ⟨b, 1, none⟩ = some v) (hne : b ≠ b2) : ((w.setCell ⟨b2, 0, none⟩ x).setCell ⟨b2, 1, none⟩ y).cell? ⟨b, 0, none⟩ = some u ∧ ((w.setCell ⟨b2, 0, none⟩ x).setCell ⟨b2, 1, none⟩ y).cell? ⟨b, 1, none⟩ = some v := by
  have e : ∀ (w : World) (k j : Nat) (z : Value), (w.setCell ⟨b2, k, none⟩ z).cell? ⟨b, j, none⟩ = w.cell? ⟨b, j, none⟩ := fun w k j z => World.cell?_of_block (Below.heap_setCell _ _ _ _ hne)
  exact ⟨by rw [e, e]; exact hS.1, by rw [e, e]; exact hS.2⟩
theorem ownR_set2Z {w : World} {B : Nat} {v : Value} {zs : List Rg} (h : OwnRings w B v zs) (b : Nat) (x y : Value) (hne : ∀ g o n c, v = .slice (some ⟨g, o, none⟩) n c → b ≠ g) : OwnRings ((w.setCell ⟨b, 0, none⟩ x).setCell ⟨b, 1, none⟩ y) B v zs := by
  obtain ⟨g, cap, rfl, h1, h2, hown⟩ := h
  have hne := hne g 0 _ _ rfl
  have e : ∀ (w : World) (k : Nat) (z : Value), w.grownBy (w.setCell ⟨b, k, none⟩ z) (some b) := fun w k z => gb_set _ _ (gb_refl w (some b))
  refine ⟨g, cap, rfl, h1, by simpa using h2, (hown.kept (e _ _ _) (.inr ?_)).kept (e _ _ _) (.inr ?_)⟩ <;> simp [Value.ownBlock] <;> omega
set_option maxRecDepth 20000 in
set_option maxHeartbeats 4000000 in
theorem resized_yes (s : ByteArray) (a : Option Addr) (n c : Nat) (rs : List Rg) (num den : Int) (w : World) (hn : Hid (rs.length = n)) (h1 : 1 ≤ n) (h32 : n ≤ 32) (HI : Hid (RingsAt w (.slice a n c) rs)) (hs : s.size ≤ maxLen) (HVR : Hid (∀ i, i < rs.length → ringB (rs.getD i zR) = true)) (hnum : 1 ≤ num ∧ num ≤ 20000000) (hden : 1 ≤ den ∧ den ≤ 20000000) (HQ : Hid (profB s (rs.map (szf num den)) = true)) :
    Calls Try.prog 42 #[.agg #[.string s, .slice a n c], .int .i64 num, .int .i64 den] w (ProfU s (rs.map (szf num den)) 0 w) := by
  have hBA := ((Below.refl w.heap.size w).alloc (Nat.le_refl _) (.cells #[.string s, .slice a n c] 30)).alloc (by simp) (.cells #[.string ⟨#[]⟩, .slice none 0 0] 30)
  have z0 : ((w.alloc (.cells #[.string s, .slice a n c] 30)).alloc (.cells #[.string ⟨#[]⟩, .slice none 0 0] 30)).cell? ⟨w.heap.size, 0, none⟩ = some (.string s) := by go_simp
  have z1 : ((w.alloc (.cells #[.string s, .slice a n c] 30)).alloc (.cells #[.string ⟨#[]⟩, .slice none 0 0] 30)).cell? ⟨w.heap.size, 1, none⟩ = some (.slice a n c) := by go_simp
  have hbl : BlankP ((w.alloc (.cells #[.string s, .slice a n c] 30)).alloc (.cells #[.string ⟨#[]⟩, .slice none 0 0] 30)) (w.heap.size + 1) := ⟨⟨by go_simp, by go_simp⟩, by go_simp, by go_simp⟩
  have hl1 : ((w.alloc (.cells #[.string s, .slice a n c] 30)).alloc (.cells #[.string ⟨#[]⟩, .slice none 0 0] 30)).heap.size ≥ w.heap.size + 2 := by simp
  have HBA := Lib.hid hBA
  have HIA := Lib.hid (rings_kept hBA HI.out)
  go_enter Try.func42, Try.ntmps42
  go_wp2_with fail
  clear hBA
  generalize ((w.alloc (.cells #[.string s, .slice a n c] 30)).alloc (.cells #[.string ⟨#[]⟩, .slice none 0 0] 30)) = wA at *
  refine (byRatio_any num den _).mono ?_
  rintro e w1 ⟨rfl, hw1⟩
  have hb1 : Below wA.heap.size wA w1 := by rw [hw1]; exact ((Below.refl _ wA).alloc (Nat.le_refl _) _).alloc (by simp) _
  have g1 : w1.cell? ⟨wA.heap.size, 0, none⟩ = some (.int .i64 num) := by rw [hw1]; go_simp
  have g2 : w1.cell? ⟨wA.heap.size + 1, 0, none⟩ = some (.int .i64 den) := by rw [hw1]; go_simp
  have hs1 : w1.heap.size ≥ wA.heap.size + 2 := by rw [hw1]; simp
  clear hw1
  have hal : Below w1.heap.size w1 (w1.alloc (.cells #[sizF wA.heap.size (wA.heap.size + 1)] 61)) := below_al _ _
  have hbB := below_of hb1 hal hb1.size
  have r0 := (below_cell hbB _ _ (by omega)).trans z0
  have r1 := (below_cell hbB _ _ (by omega)).trans z1
  have G1 := Lib.hid ((below_cell hal _ _ (by omega)).trans g1)
  have G2 := Lib.hid ((below_cell hal _ _ (by omega)).trans g2)
  have G3 := Lib.hid (cellNewZ w1 (sizF wA.heap.size (wA.heap.size + 1)) 61)
  have HBL := Lib.hid (blankP_kept hbB (by omega) hbl)
  have HB := Lib.hid (below_of HBA.out hbB HBA.out.size)
  have HI2 := Lib.hid (rings_kept hbB HIA.out)
  have hsB : (w1.alloc (.cells #[sizF wA.heap.size (wA.heap.size + 1)] 61)).heap.size ≥ w1.heap.size + 1 := by simp
  clear hb1 g1 g2 z0 z1 hbl hal hbB
  go_wp2
  rw [show (Value.func (.func 105) #[] #[.pointer (some ⟨wA.heap.size, 0, none⟩), .pointer (some ⟨wA.heap.size + 1, 0, none⟩)]) = sizF wA.heap.size (wA.heap.size + 1) from rfl]
  generalize w1.alloc (.cells #[sizF wA.heap.size (wA.heap.size + 1)] 61) = wB at *
  obtain ⟨b, off, rfl, hbl, hri⟩ := rings_lieO hn.out h1 HI2.out
  have HMP := Lib.hid (mapSiz_any rs (szf num den) b off c w1.heap.size wB.drew (by rw [hn.out]; omega) hbl (fun i hi => ⟨(hri i (by rw [← hn.out]; exact hi)).c0, (hri i (by rw [← hn.out]; exact hi)).c1, (hri i (by rw [← hn.out]; exact hi)).c2⟩) n hn (fun i x y z W hi hxyz hW => by
    have hrb := HVR.out i (by rw [hn.out]; exact hi)
    rw [hxyz] at hrb
    obtain ⟨⟨x0, x1⟩, ⟨y0, y1⟩, zz0, zz1⟩ := ring_iff.1 hrb
    simp only at x0 x1 y0 y1 zz0 zz1
    have b1 := mul_bdz (x := x) (X := 150000) (Y := 20000000) (by omega) x1 (show 0 ≤ num by omega) hnum.2
    have b2 := mul_bdz (x := y) (X := 150000) (Y := 20000000) y0 (by omega) (show 0 ≤ num by omega) hnum.2
    have b3 := mul_bdz (x := z) (X := 300000) (Y := 20000000) (by omega) zz1 (show 0 ≤ num by omega) hnum.2
    have hlt : w1.heap.size < wB.drew.heap.size := by show w1.heap.size < wB.heap.size; omega
    exact clo_siz x y z num den w1.heap.size wA.heap.size (wA.heap.size + 1) W ((below_cell hW _ _ hlt).trans G3.out) ((below_cell hW _ _ (show wA.heap.size < wB.drew.heap.size by omega)).trans G1.out) ((below_cell hW _ _ (show wA.heap.size + 1 < wB.drew.heap.size by omega)).trans G2.out) (by omega) (by omega) (by omega) (by omega)))
  have HML := Lib.hid (show (rs.map (szf num den)).length = n by rw [List.length_map]; exact hn.out)
  clear hri
  generalize rs.map (szf num den) = l at *
  have hp01 : w.heap.size < wB.heap.size := by omega
  have hl3 : w.heap.size + 1 < wB.heap.size := by omega
  go_region_held3 (fun w' => w'.cell? ⟨w.heap.size, 0, none⟩ = some (.string s) ∧ w'.cell? ⟨w.heap.size, 1, none⟩ = some (.slice (some ⟨b, off, none⟩) n c))
    (first | exact ⟨r0, r1⟩ | exact k2_belowZ (by assumption) hz5 hb5 | exact k2_belowZ (by assumption) hz7 hb7 | exact k2_set2Z (by assumption) (by omega))
    (first
      | (go_at_call 82; refine HMP.out.mono ?_; rintro e w5 ⟨g, rfl, hg0, hgl, hrow, hb5⟩; have hz5 : w.heap.size < wB.drew.heap.size := hp01; have hz7 : w.heap.size < w5.heap.size := Nat.lt_of_lt_of_le hp01 hb5.size; have hg0' : wB.heap.size ≤ g := hg0; have HRW := Lib.hid hrow; have HRV := Lib.hid (show Rv w5 wB.heap.size (.slice (some ⟨g, 0, none⟩) n n) l from .inr ⟨g, n, by rw [HML.out], hg0, by rw [HML.out]; exact hrow⟩); have HRR := Lib.hid (rv_rings (by rw [HML.out]; omega) HRV.out); clear hrow)
      | (go_at_call 63; refine (withRings_any s (some ⟨b, off, none⟩) n c _ l w5 HRR.out hs).mono ?_; rintro e w7 ⟨rfl, hb7⟩; rw [HQ.out, show resC s l = 0 from by unfold resC; rw [HQ.out]; rfl, show resS s 0 = s from rfl]; skip; obtain ⟨⟨b0, b1⟩, f0, f1⟩ := blankP_kept hb7 (Nat.lt_of_lt_of_le hl3 hb5.size) (blankP_kept (w := wB.drew) hb5 hl3 HBL.out)))
  have HBF := Lib.hid (below_of HB.out (show Below wB.heap.size wB w7 from (show Below wB.heap.size wB w5 from ⟨hb5.os, hb5.tape, hb5.output, hb5.size, hb5.block⟩).trans (hb7.mono hb5.size)) HB.out.size)
  have HOWN := Lib.hid (show OwnRings w7 w.heap.size (.slice (some ⟨g, 0, none⟩) n n) l from by
    refine ⟨g, n, by rw [HML.out], by have := HB.out.size; omega, Nat.lt_of_lt_of_le hgl hb7.size, ?_⟩
    rw [HML.out]
    exact row_keepR hb7 (row_baseR HRW.out (by have := HB.out.size; show _ ≤ wB.heap.size; omega)))
  have HGB := Lib.hid (show w.heap.size + 1 < g by omega)
  clear hb5 hb7
  go_wp2
  try simp only [Exit.inBlock, Exit.then]
  refine bodyPost_ret_by (v := .tuple #[.agg #[.string s, .slice (some ⟨g, 0, none⟩) n n], .int .i64 0]) (by rw [results_cellP rfl]; go_simp) rfl ?_
  refine ⟨_, rfl, ?_, ?_⟩
  · exact rv_own (ownR_set2Z HOWN.out (w.heap.size + 1) _ _ (fun g' o n' c' e => by simp only [Value.slice.injEq, Option.some.injEq, Addr.mk.injEq] at e; have := HGB.out; omega))
  · exact (HBF.out.setCell (by show _ ≤ w.heap.size + 1; omega) _).setCell (by show _ ≤ w.heap.size + 1; omega) _
set_option maxRecDepth 20000 in
set_option maxHeartbeats 4000000 in
theorem resized_no (s : ByteArray) (a : Option Addr) (n c : Nat) (rs : List Rg) (num den : Int) (w : World) (hn : Hid (rs.length = n)) (h1 : 1 ≤ n) (h32 : n ≤ 32) (HI : Hid (RingsAt w (.slice a n c) rs)) (hs : s.size ≤ maxLen) (HVR : Hid (∀ i, i < rs.length → ringB (rs.getD i zR) = true)) (hnum : 1 ≤ num ∧ num ≤ 20000000) (hden : 1 ≤ den ∧ den ≤ 20000000) (HQ : Hid (profB s (rs.map (szf num den)) = false)) :
    Calls Try.prog 42 #[.agg #[.string s, .slice a n c], .int .i64 num, .int .i64 den] w (ProfU ⟨#[]⟩ [] 6 w) := by
  have hBA := ((Below.refl w.heap.size w).alloc (Nat.le_refl _) (.cells #[.string s, .slice a n c] 30)).alloc (by simp) (.cells #[.string ⟨#[]⟩, .slice none 0 0] 30)
  have z0 : ((w.alloc (.cells #[.string s, .slice a n c] 30)).alloc (.cells #[.string ⟨#[]⟩, .slice none 0 0] 30)).cell? ⟨w.heap.size, 0, none⟩ = some (.string s) := by go_simp
  have z1 : ((w.alloc (.cells #[.string s, .slice a n c] 30)).alloc (.cells #[.string ⟨#[]⟩, .slice none 0 0] 30)).cell? ⟨w.heap.size, 1, none⟩ = some (.slice a n c) := by go_simp
  have hbl : BlankP ((w.alloc (.cells #[.string s, .slice a n c] 30)).alloc (.cells #[.string ⟨#[]⟩, .slice none 0 0] 30)) (w.heap.size + 1) := ⟨⟨by go_simp, by go_simp⟩, by go_simp, by go_simp⟩
  have hl1 : ((w.alloc (.cells #[.string s, .slice a n c] 30)).alloc (.cells #[.string ⟨#[]⟩, .slice none 0 0] 30)).heap.size ≥ w.heap.size + 2 := by simp
  have HBA := Lib.hid hBA
  have HIA := Lib.hid (rings_kept hBA HI.out)
  go_enter Try.func42, Try.ntmps42
  go_wp2_with fail
  clear hBA
  generalize ((w.alloc (.cells #[.string s, .slice a n c] 30)).alloc (.cells #[.string ⟨#[]⟩, .slice none 0 0] 30)) = wA at *
  refine (byRatio_any num den _).mono ?_
  rintro e w1 ⟨rfl, hw1⟩
  have hb1 : Below wA.heap.size wA w1 := by rw [hw1]; exact ((Below.refl _ wA).alloc (Nat.le_refl _) _).alloc (by simp) _
  have g1 : w1.cell? ⟨wA.heap.size, 0, none⟩ = some (.int .i64 num) := by rw [hw1]; go_simp
  have g2 : w1.cell? ⟨wA.heap.size + 1, 0, none⟩ = some (.int .i64 den) := by rw [hw1]; go_simp
  have hs1 : w1.heap.size ≥ wA.heap.size + 2 := by rw [hw1]; simp
  clear hw1
  have hal : Below w1.heap.size w1 (w1.alloc (.cells #[sizF wA.heap.size (wA.heap.size + 1)] 61)) := below_al _ _
  have hbB := below_of hb1 hal hb1.size
  have r0 := (below_cell hbB _ _ (by omega)).trans z0
  have r1 := (below_cell hbB _ _ (by omega)).trans z1
  have G1 := Lib.hid ((below_cell hal _ _ (by omega)).trans g1)
  have G2 := Lib.hid ((below_cell hal _ _ (by omega)).trans g2)
  have G3 := Lib.hid (cellNewZ w1 (sizF wA.heap.size (wA.heap.size + 1)) 61)
  have HBL := Lib.hid (blankP_kept hbB (by omega) hbl)
  have HB := Lib.hid (below_of HBA.out hbB HBA.out.size)
  have HI2 := Lib.hid (rings_kept hbB HIA.out)
  have hsB : (w1.alloc (.cells #[sizF wA.heap.size (wA.heap.size + 1)] 61)).heap.size ≥ w1.heap.size + 1 := by simp
  clear hb1 g1 g2 z0 z1 hbl hal hbB
  go_wp2
  rw [show (Value.func (.func 105) #[] #[.pointer (some ⟨wA.heap.size, 0, none⟩), .pointer (some ⟨wA.heap.size + 1, 0, none⟩)]) = sizF wA.heap.size (wA.heap.size + 1) from rfl]
  generalize w1.alloc (.cells #[sizF wA.heap.size (wA.heap.size + 1)] 61) = wB at *
  obtain ⟨b, off, rfl, hbl, hri⟩ := rings_lieO hn.out h1 HI2.out
  have HMP := Lib.hid (mapSiz_any rs (szf num den) b off c w1.heap.size wB.drew (by rw [hn.out]; omega) hbl (fun i hi => ⟨(hri i (by rw [← hn.out]; exact hi)).c0, (hri i (by rw [← hn.out]; exact hi)).c1, (hri i (by rw [← hn.out]; exact hi)).c2⟩) n hn (fun i x y z W hi hxyz hW => by
    have hrb := HVR.out i (by rw [hn.out]; exact hi)
    rw [hxyz] at hrb
    obtain ⟨⟨x0, x1⟩, ⟨y0, y1⟩, zz0, zz1⟩ := ring_iff.1 hrb
    simp only at x0 x1 y0 y1 zz0 zz1
    have b1 := mul_bdz (x := x) (X := 150000) (Y := 20000000) (by omega) x1 (show 0 ≤ num by omega) hnum.2
    have b2 := mul_bdz (x := y) (X := 150000) (Y := 20000000) y0 (by omega) (show 0 ≤ num by omega) hnum.2
    have b3 := mul_bdz (x := z) (X := 300000) (Y := 20000000) (by omega) zz1 (show 0 ≤ num by omega) hnum.2
    have hlt : w1.heap.size < wB.drew.heap.size := by show w1.heap.size < wB.heap.size; omega
    exact clo_siz x y z num den w1.heap.size wA.heap.size (wA.heap.size + 1) W ((below_cell hW _ _ hlt).trans G3.out) ((below_cell hW _ _ (show wA.heap.size < wB.drew.heap.size by omega)).trans G1.out) ((below_cell hW _ _ (show wA.heap.size + 1 < wB.drew.heap.size by omega)).trans G2.out) (by omega) (by omega) (by omega) (by omega)))
  have HML := Lib.hid (show (rs.map (szf num den)).length = n by rw [List.length_map]; exact hn.out)
  clear hri
  generalize rs.map (szf num den) = l at *
  have hp01 : w.heap.size < wB.heap.size := by omega
  have hl3 : w.heap.size + 1 < wB.heap.size := by omega
  go_region_held3 (fun w' => w'.cell? ⟨w.heap.size, 0, none⟩ = some (.string s) ∧ w'.cell? ⟨w.heap.size, 1, none⟩ = some (.slice (some ⟨b, off, none⟩) n c))
    (first | exact ⟨r0, r1⟩ | exact k2_belowZ (by assumption) hz5 hb5 | exact k2_belowZ (by assumption) hz7 hb7 | exact k2_set2Z (by assumption) (by omega))
    (first
      | (go_at_call 82; refine HMP.out.mono ?_; rintro e w5 ⟨g, rfl, hg0, hgl, hrow, hb5⟩; have hz5 : w.heap.size < wB.drew.heap.size := hp01; have hz7 : w.heap.size < w5.heap.size := Nat.lt_of_lt_of_le hp01 hb5.size; have hg0' : wB.heap.size ≤ g := hg0; have HRW := Lib.hid hrow; have HRV := Lib.hid (show Rv w5 wB.heap.size (.slice (some ⟨g, 0, none⟩) n n) l from .inr ⟨g, n, by rw [HML.out], hg0, by rw [HML.out]; exact hrow⟩); have HRR := Lib.hid (rv_rings (by rw [HML.out]; omega) HRV.out); clear hrow)
      | (go_at_call 63; refine (withRings_any s (some ⟨b, off, none⟩) n c _ l w5 HRR.out hs).mono ?_; rintro e w7 ⟨rfl, hb7⟩; rw [HQ.out, show resC s l = 6 from by unfold resC; rw [HQ.out]; rfl, show resS s 6 = ⟨#[]⟩ from rfl]; skip; obtain ⟨⟨b0, b1⟩, f0, f1⟩ := blankP_kept hb7 (Nat.lt_of_lt_of_le hl3 hb5.size) (blankP_kept (w := wB.drew) hb5 hl3 HBL.out)))
  have HBF := Lib.hid (below_of HB.out (show Below wB.heap.size wB w7 from (show Below wB.heap.size wB w5 from ⟨hb5.os, hb5.tape, hb5.output, hb5.size, hb5.block⟩).trans (hb7.mono hb5.size)) HB.out.size)
  clear hb5 hb7
  go_wp2
  try simp only [Exit.inBlock, Exit.then]
  refine bodyPost_ret_by (v := .tuple #[.agg #[.string ⟨#[]⟩, .slice none 0 0], .int .i64 6]) (by rw [results_cellP rfl]; go_simp) rfl ?_
  refine ⟨_, rfl, .inl ⟨rfl, rfl⟩, ?_⟩
  exact (HBF.out.setCell (by show _ ≤ w.heap.size + 1; omega) _).setCell (by show _ ≤ w.heap.size + 1; omega) _
end Go.Proofs.Ytndmakimkghihab
