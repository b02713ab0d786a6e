/- RemoveRing: the program's walk. -/
import Derived.Test.YtojkijcdfnfnlaaWithI
set_option linter.unusedVariables false
namespace Go.Proofs.Ytojkijcdfnfnlaa
open Go.ChangeShapes Go.WideShapes Go.ChangeAt Go.RowKit

def remC (s : ByteArray) (rs : List Rg) (k : Int) : Int := if profB s rs = true then (if inB k 0 (rs.length - 1) = true then resC s (remR rs k.toNat) else 2) else 1
def remL (rs : List Rg) (k : Int) : List Rg := remR rs k.toNat
theorem remC_1 {s : ByteArray} {rs : List Rg} {k : Int} (h : profB s rs = false) : remC s rs k = 1 := by unfold remC; rw [h]; rfl
theorem remC_2 {s : ByteArray} {rs : List Rg} {k : Int} (h : profB s rs = true) (h2 : inB k 0 (rs.length - 1) = false) : remC s rs k = 2 := by unfold remC; rw [if_pos h, h2]; rfl
theorem remC_3 {s : ByteArray} {rs : List Rg} {k : Int} (h : profB s rs = true) (h2 : inB k 0 (rs.length - 1) = true) : remC s rs k = resC s (remR rs k.toNat) := by unfold remC; rw [if_pos h, if_pos h2]
theorem k2_below {w w' : World} {b : Nat} {u v : Value} (hS : w.cell? ⟨b, 0, none⟩ = some u ∧ w.cell? ⟨b, 1, none⟩ = some v) (hz : b < w.heap.size) (hb : Below w.heap.size w w') : w'.cell? ⟨b, 0, none⟩ = some u ∧ w'.cell? ⟨b, 1, none⟩ = some v :=
  ⟨(below_cell hb _ _ hz).trans hS.1, (below_cell hb _ _ hz).trans hS.2⟩
theorem k2_gb {w w' : World} {b : Nat} {u v : Value} {row : Option Nat} (hS : w.cell? ⟨b, 0, none⟩ = some u ∧ w.cell? ⟨b, 1, none⟩ = some v) (hz : b < w.heap.size) (hb : w.grownBy w' row) (hne : some b ≠ row) : w'.cell? ⟨b, 0, none⟩ = some u ∧ w'.cell? ⟨b, 1, none⟩ = some v :=
  ⟨(gb_cell hb _ _ hz hne).trans hS.1, (gb_cell hb _ _ hz hne).trans hS.2⟩
theorem k2_set2 {w : World} {b b2 : Nat} {u v x y : Value} (hS : w.cell? ⟨b, 0, none⟩ = some u ∧ w.cell? ⟨b, 1, none⟩ = some v) (hne : b ≠ b2) : ((w.setCell ⟨b2, 0, none⟩ x).setCell ⟨b2, 1, none⟩ y).cell? ⟨b, 0, none⟩ = some u ∧ ((w.setCell ⟨b2, 0, none⟩ x).setCell ⟨b2, 1, none⟩ y).cell? ⟨b, 1, none⟩ = some v := by
  have e : ∀ (w : World) (k j : Nat) (z : Value), (w.setCell ⟨b2, k, none⟩ z).cell? ⟨b, j, none⟩ = w.cell? ⟨b, j, none⟩ := fun w k j z => World.cell?_of_block (Below.heap_setCell _ _ _ _ hne)
  exact ⟨by rw [e, e]; exact hS.1, by rw [e, e]; exact hS.2⟩
theorem blankP_gb {w w' : World} {g : Nat} {row : Option Nat} (hb : w.grownBy w' row) (hg : g < w.heap.size) (hne : some g ≠ row) (h : BlankP w g) : BlankP w' g := by
  have e : w'.heap[g]? = w.heap[g]? := hb.block g hg hne
  exact ⟨⟨(World.cell?_of_block e).trans h.1.1, (World.cell?_of_block e).trans h.1.2⟩, (World.frozen?_of_block e).trans h.2.1, (World.frozen?_of_block e).trans h.2.2⟩
theorem rings_of_row {w : World} {g m cap : Nat} {X : List Value} {l : List Rg} (h : RowAt w g X) (ht : X.take (m * 3) = i64s (flat l)) (hm : l.length = m) (h64 : m ≤ 1048576) : RingsAt w (.slice (some ⟨g, 0, none⟩) m cap) l := by
  refine ⟨by omega, .inr ⟨g, 0, cap, by rw [hm], rowAt_lt h, fun j hj => ?_⟩⟩
  rw [Nat.zero_add, rowAt_cell h]
  have h2 := i64s_get (flat l) j (by rw [flat_len]; exact hj)
  rw [← ht, List.getElem?_take] at h2
  split at h2
  · exact h2
  · cases h2
theorem ownR_set2 {w : World} {B : Nat} {v : Value} {zs : List Rg} (h : OwnRings w B v zs) (b : Nat) (x y : Value) (hne : ∀ g o n c, v = .slice (some ⟨g, o, none⟩) n c → b ≠ g) : OwnRings ((w.setCell ⟨b, 0, none⟩ x).setCell ⟨b, 1, none⟩ y) B v zs := by
  obtain ⟨g, cap, rfl, h1, h2, hown⟩ := h
  have hne := hne g 0 _ _ rfl
  have e : ∀ (w : World) (k : Nat) (z : Value), w.grownBy (w.setCell ⟨b, k, none⟩ z) (some b) := fun w k z => gb_set _ _ (gb_refl w (some b))
  refine ⟨g, cap, rfl, h1, by simpa using h2, (hown.kept (e _ _ _) (.inr ?_)).kept (e _ _ _) (.inr ?_)⟩ <;> simp [Value.ownBlock] <;> omega
set_option maxRecDepth 20000 in
set_option maxHeartbeats 4000000 in
theorem implRemove_bad (s : ByteArray) (a : Option Addr) (n c : Nat) (rs : List Rg) (k : Int) (w : World) (hn : Hid (rs.length = n)) (HI : Hid (RingsAt w (.slice a n c) rs)) (hs : s.size ≤ maxLen) (HP : Hid (profB s rs = false)) :
    Calls Try.prog 41 #[.agg #[.string s, .slice a n c], .int .i64 k] w (ProfU ⟨#[]⟩ [] 1 w) := by
  have hBA := ((Below.refl w.heap.size w).alloc (Nat.le_refl _) (.cells #[.string s, .slice a n c] 35)).alloc (by simp) (.cells #[.string ⟨#[]⟩, .slice none 0 0] 35)
  have z0 : ((w.alloc (.cells #[.string s, .slice a n c] 35)).alloc (.cells #[.string ⟨#[]⟩, .slice none 0 0] 35)).cell? ⟨w.heap.size, 0, none⟩ = some (.string s) := by go_simp
  have z1 : ((w.alloc (.cells #[.string s, .slice a n c] 35)).alloc (.cells #[.string ⟨#[]⟩, .slice none 0 0] 35)).cell? ⟨w.heap.size, 1, none⟩ = some (.slice a n c) := by go_simp
  have hbl : BlankP ((w.alloc (.cells #[.string s, .slice a n c] 35)).alloc (.cells #[.string ⟨#[]⟩, .slice none 0 0] 35)) (w.heap.size + 1) := ⟨⟨by go_simp, by go_simp⟩, by go_simp, by go_simp⟩
  have hl1 : w.heap.size + 1 < ((w.alloc (.cells #[.string s, .slice a n c] 35)).alloc (.cells #[.string ⟨#[]⟩, .slice none 0 0] 35)).heap.size := by simp
  have HBA := Lib.hid hBA
  have HIA := Lib.hid (rings_kept hBA HI.out)
  go_enter Try.func41, Try.ntmps41
  go_wp2_with fail
  clear hBA
  generalize ((w.alloc (.cells #[.string s, .slice a n c] 35)).alloc (.cells #[.string ⟨#[]⟩, .slice none 0 0] 35)) = wA at *
  refine (implValidP_any s _ rs _ HIA.out hs).mono ?_
  rintro e w1 ⟨rfl, hb⟩
  rw [HP.out]
  have q0 := (below_cell hb _ _ (by omega)).trans z0
  have q1 := (below_cell hb _ _ (by omega)).trans z1
  have HBL := Lib.hid (blankP_kept hb hl1 hbl)
  have hl2 := Nat.lt_of_lt_of_le hl1 hb.size
  have HI1 := Lib.hid (rings_kept hb HIA.out)
  have HB := Lib.hid (below_of HBA.out hb HBA.out.size)
  clear hb hbl z0 z1
  obtain ⟨⟨b0, b1⟩, f0, f1⟩ := HBL.out
  go_wp2
  try simp only [Exit.inBlock, Exit.then]
  refine bodyPost_ret_by (v := .tuple #[.agg #[.string ⟨#[]⟩, .slice none 0 0], .int .i64 1]) (by rw [results_cellP rfl]; go_simp) rfl ?_
  refine ⟨_, rfl, .inl ⟨rfl, rfl⟩, ?_⟩
  exact (HB.out.setCell (by show _ ≤ w.heap.size + 1; omega) _).setCell (by show _ ≤ w.heap.size + 1; omega) _
set_option maxRecDepth 20000 in
set_option maxHeartbeats 4000000 in
theorem implRemove_range (s : ByteArray) (a : Option Addr) (n c : Nat) (rs : List Rg) (k : Int) (w : World) (hn : Hid (rs.length = n)) (h1 : 1 ≤ n) (h32 : n ≤ 32) (HI : Hid (RingsAt w (.slice a n c) rs)) (hs : s.size ≤ maxLen) (HP : Hid (profB s rs = true)) (HK : Hid (inB k 0 (n - 1) = false)) :
    Calls Try.prog 41 #[.agg #[.string s, .slice a n c], .int .i64 k] w (ProfU ⟨#[]⟩ [] 2 w) := by
  have hBA := ((Below.refl w.heap.size w).alloc (Nat.le_refl _) (.cells #[.string s, .slice a n c] 35)).alloc (by simp) (.cells #[.string ⟨#[]⟩, .slice none 0 0] 35)
  have z0 : ((w.alloc (.cells #[.string s, .slice a n c] 35)).alloc (.cells #[.string ⟨#[]⟩, .slice none 0 0] 35)).cell? ⟨w.heap.size, 0, none⟩ = some (.string s) := by go_simp
  have z1 : ((w.alloc (.cells #[.string s, .slice a n c] 35)).alloc (.cells #[.string ⟨#[]⟩, .slice none 0 0] 35)).cell? ⟨w.heap.size, 1, none⟩ = some (.slice a n c) := by go_simp
  have hbl : BlankP ((w.alloc (.cells #[.string s, .slice a n c] 35)).alloc (.cells #[.string ⟨#[]⟩, .slice none 0 0] 35)) (w.heap.size + 1) := ⟨⟨by go_simp, by go_simp⟩, by go_simp, by go_simp⟩
  have hl1 : w.heap.size + 1 < ((w.alloc (.cells #[.string s, .slice a n c] 35)).alloc (.cells #[.string ⟨#[]⟩, .slice none 0 0] 35)).heap.size := by simp
  have HBA := Lib.hid hBA
  have HIA := Lib.hid (rings_kept hBA HI.out)
  go_enter Try.func41, Try.ntmps41
  go_wp2_with fail
  clear hBA
  generalize ((w.alloc (.cells #[.string s, .slice a n c] 35)).alloc (.cells #[.string ⟨#[]⟩, .slice none 0 0] 35)) = wA at *
  refine (implValidP_any s _ rs _ HIA.out hs).mono ?_
  rintro e w1 ⟨rfl, hb⟩
  rw [HP.out]
  have q0 := (below_cell hb _ _ (by omega)).trans z0
  have q1 := (below_cell hb _ _ (by omega)).trans z1
  have HBL := Lib.hid (blankP_kept hb hl1 hbl)
  have hl2 := Nat.lt_of_lt_of_le hl1 hb.size
  have HI1 := Lib.hid (rings_kept hb HIA.out)
  have HB := Lib.hid (below_of HBA.out hb HBA.out.size)
  clear hb hbl z0 z1
  go_wp2_with fail
  refine (within_i64 _ _ [k] _ 0 1 1 _ rfl (by omega) (cell_int _ _ _ _ (by simp))).mono ?_
  rintro e w2 ⟨rfl, rfl⟩
  rw [all_one, HK.out]
  have HB2 := Lib.hid (HB.out.alloc HB.out.size (.cells #[.int .i64 k] 2))
  have HBL2 := Lib.hid (blankP_kept (below_al w1 (.cells #[.int .i64 k] 2)) hl2 HBL.out)
  obtain ⟨⟨b0, b1⟩, f0, f1⟩ := HBL2.out
  generalize w1.alloc (.cells #[.int .i64 k] 2) = wB at *
  go_wp2
  try simp only [Exit.inBlock, Exit.then]
  refine bodyPost_ret_by (v := .tuple #[.agg #[.string ⟨#[]⟩, .slice none 0 0], .int .i64 2]) (by rw [results_cellP rfl]; go_simp) rfl ?_
  refine ⟨_, rfl, .inl ⟨rfl, rfl⟩, ?_⟩
  exact (HB2.out.setCell (by show _ ≤ w.heap.size + 1; omega) _).setCell (by show _ ≤ w.heap.size + 1; omega) _
set_option maxRecDepth 20000 in
set_option maxHeartbeats 4000000 in
theorem implRemove_no (s : ByteArray) (a : Option Addr) (n c : Nat) (rs : List Rg) (k : Nat) (w : World) (hn : Hid (rs.length = n)) (h1 : 1 ≤ n) (h32 : n ≤ 32) (hk : k < n) (HI : Hid (RingsAt w (.slice a n c) rs)) (hs : s.size ≤ maxLen) (HP : Hid (profB s rs = true)) (HK : Hid (inB (k : Int) 0 (n - 1) = true)) (HQ : Hid (profB s (remR rs k) = false)) :
    Calls Try.prog 41 #[.agg #[.string s, .slice a n c], .int .i64 k] w (ProfU ⟨#[]⟩ [] 6 w) := by
  have hBA := ((Below.refl w.heap.size w).alloc (Nat.le_refl _) (.cells #[.string s, .slice a n c] 35)).alloc (by simp) (.cells #[.string ⟨#[]⟩, .slice none 0 0] 35)
  have z0 : ((w.alloc (.cells #[.string s, .slice a n c] 35)).alloc (.cells #[.string ⟨#[]⟩, .slice none 0 0] 35)).cell? ⟨w.heap.size, 0, none⟩ = some (.string s) := by go_simp
  have z1 : ((w.alloc (.cells #[.string s, .slice a n c] 35)).alloc (.cells #[.string ⟨#[]⟩, .slice none 0 0] 35)).cell? ⟨w.heap.size, 1, none⟩ = some (.slice a n c) := by go_simp
  have hbl : BlankP ((w.alloc (.cells #[.string s, .slice a n c] 35)).alloc (.cells #[.string ⟨#[]⟩, .slice none 0 0] 35)) (w.heap.size + 1) := ⟨⟨by go_simp, by go_simp⟩, by go_simp, by go_simp⟩
  have hl1 : w.heap.size + 1 < ((w.alloc (.cells #[.string s, .slice a n c] 35)).alloc (.cells #[.string ⟨#[]⟩, .slice none 0 0] 35)).heap.size := by simp
  have HBA := Lib.hid hBA
  have HIA := Lib.hid (rings_kept hBA HI.out)
  go_enter Try.func41, Try.ntmps41
  go_wp2_with fail
  clear hBA
  generalize ((w.alloc (.cells #[.string s, .slice a n c] 35)).alloc (.cells #[.string ⟨#[]⟩, .slice none 0 0] 35)) = wA at *
  refine (implValidP_any s _ rs _ HIA.out hs).mono ?_
  rintro e w1 ⟨rfl, hb⟩
  rw [HP.out]
  have q0 := (below_cell hb _ _ (by omega)).trans z0
  have q1 := (below_cell hb _ _ (by omega)).trans z1
  have HBL := Lib.hid (blankP_kept hb hl1 hbl)
  have hl2 := Nat.lt_of_lt_of_le hl1 hb.size
  have HI1 := Lib.hid (rings_kept hb HIA.out)
  have HB := Lib.hid (below_of HBA.out hb HBA.out.size)
  clear hb hbl z0 z1
  go_wp2_with fail
  refine (within_i64 _ _ [(k : Int)] _ 0 1 1 _ rfl (by omega) (cell_int _ _ _ _ (by simp))).mono ?_
  rintro e w2 ⟨rfl, rfl⟩
  rw [all_one, HK.out]
  have hal := below_al w1 (.cells #[.int .i64 (k : Int)] 2)
  have HB2 := Lib.hid (HB.out.alloc HB.out.size (.cells #[.int .i64 (k : Int)] 2))
  have HBL2 := Lib.hid (blankP_kept hal hl2 HBL.out)
  have p0 := (below_cell hal _ _ (show w.heap.size < _ by omega)).trans q0
  have p1 := (below_cell hal _ _ (show w.heap.size < _ by omega)).trans q1
  have hl3 := Nat.lt_of_lt_of_le hl2 hal.size
  have HI2 := Lib.hid (rings_kept hal HI1.out)
  go_wp2
  clear hal q0 q1
  generalize w1.alloc (.cells #[.int .i64 (k : Int)] 2) = wB at *
  have hw1 : IntKind.i64.wrap ((k : Int) + 1) = (k : Int) + 1 := IntWalk.i64_in _ (by omega)
  have HLN := Lib.hid (show (remR rs k).length = n - 1 by rw [remR_len rs k (by rw [hn.out]; exact hk), hn.out])
  have hp01 : w.heap.size < wB.heap.size := by omega
  go_region_held3 (fun w' => w'.cell? ⟨w.heap.size, 0, none⟩ = some (.string s) ∧ w'.cell? ⟨w.heap.size, 1, none⟩ = some (.slice a n c))
    (first | exact ⟨p0, p1⟩ | exact k2_below (by assumption) hz5 hb5 | exact k2_gb (by assumption) hz6 hg6 hne6 | exact k2_below (by assumption) hz7 hb7 | exact k2_set2 (by assumption) (by omega))
    (first
      | (go_at_call 65; refine (ringsCopy_any s _ rs wB.drew HI2.out (by rw [hn.out]; exact h1) (by rw [hn.out]; exact h32) n hn).mono ?_; rintro e w5 ⟨g, rfl, hg0, hrow, hb5⟩; have hz5 : w.heap.size < wB.drew.heap.size := hp01; have hz6 : w.heap.size < w5.heap.size := Nat.lt_of_lt_of_le hp01 hb5.size; have hg0' : wB.heap.size ≤ g := hg0)
      | (go_at_call 68; refine (deleteR_any rs n k g w5 hn.out h32 hk hrow).mono ?_; rintro e w6 ⟨rfl, ⟨X, hX, hXl, hXt⟩, hg6⟩; have hne6 : some w.heap.size ≠ some g := (by simp; omega); have hz7 : w.heap.size < w6.heap.size := Nat.lt_of_lt_of_le hz6 hg6.size; have HRR := Lib.hid (rings_of_row (cap := n + 1) hX hXt HLN.out (by omega)))
      | (go_at_call 63; refine (withRings_any s a n c _ (remR rs k) w6 HRR.out hs).mono ?_; rintro e w7 ⟨rfl, hb7⟩; rw [HQ.out, show resC s (remR rs k) = 6 from by unfold resC; rw [HQ.out]; rfl, show resS s 6 = ⟨#[]⟩ from rfl]; skip; obtain ⟨⟨b0, b1⟩, f0, f1⟩ := blankP_kept hb7 (Nat.lt_of_lt_of_le (Nat.lt_of_lt_of_le hl3 hb5.size) hg6.size) (blankP_gb hg6 (Nat.lt_of_lt_of_le hl3 hb5.size) (by simp; omega) (blankP_kept (w := wB.drew) hb5 hl3 HBL2.out))))
  have HBF := Lib.hid (below_of HB2.out (show Below wB.heap.size wB w7 from (show Below wB.heap.size wB w5 from ⟨hb5.os, hb5.tape, hb5.output, hb5.size, hb5.block⟩).trans ((gb_below hg6 hb5.size (fun q hq => by simp only [Option.some.injEq] at hq; omega)).trans (hb7.mono (Nat.le_trans hb5.size hg6.size)))) HB2.out.size)
  clear hb5 hg6 hb7 hX hXl hXt hrow
  go_wp2
  try simp only [Exit.inBlock, Exit.then]
  refine bodyPost_ret_by (v := .tuple #[.agg #[.string ⟨#[]⟩, .slice none 0 0], .int .i64 6]) (by rw [results_cellP rfl]; go_simp) rfl ?_
  refine ⟨_, rfl, .inl ⟨rfl, rfl⟩, ?_⟩
  exact (HBF.out.setCell (by show _ ≤ w.heap.size + 1; omega) _).setCell (by show _ ≤ w.heap.size + 1; omega) _
set_option maxRecDepth 20000 in
set_option maxHeartbeats 4000000 in
theorem implRemove_yes (s : ByteArray) (a : Option Addr) (n c : Nat) (rs : List Rg) (k : Nat) (w : World) (hn : Hid (rs.length = n)) (h1 : 1 ≤ n) (h32 : n ≤ 32) (hk : k < n) (HI : Hid (RingsAt w (.slice a n c) rs)) (hs : s.size ≤ maxLen) (HP : Hid (profB s rs = true)) (HK : Hid (inB (k : Int) 0 (n - 1) = true)) (HQ : Hid (profB s (remR rs k) = true)) :
    Calls Try.prog 41 #[.agg #[.string s, .slice a n c], .int .i64 k] w (ProfU s (remR rs k) 0 w) := by
  have hBA := ((Below.refl w.heap.size w).alloc (Nat.le_refl _) (.cells #[.string s, .slice a n c] 35)).alloc (by simp) (.cells #[.string ⟨#[]⟩, .slice none 0 0] 35)
  have z0 : ((w.alloc (.cells #[.string s, .slice a n c] 35)).alloc (.cells #[.string ⟨#[]⟩, .slice none 0 0] 35)).cell? ⟨w.heap.size, 0, none⟩ = some (.string s) := by go_simp
  have z1 : ((w.alloc (.cells #[.string s, .slice a n c] 35)).alloc (.cells #[.string ⟨#[]⟩, .slice none 0 0] 35)).cell? ⟨w.heap.size, 1, none⟩ = some (.slice a n c) := by go_simp
  have hbl : BlankP ((w.alloc (.cells #[.string s, .slice a n c] 35)).alloc (.cells #[.string ⟨#[]⟩, .slice none 0 0] 35)) (w.heap.size + 1) := ⟨⟨by go_simp, by go_simp⟩, by go_simp, by go_simp⟩
  have hl1 : w.heap.size + 1 < ((w.alloc (.cells #[.string s, .slice a n c] 35)).alloc (.cells #[.string ⟨#[]⟩, .slice none 0 0] 35)).heap.size := by simp
  have HBA := Lib.hid hBA
  have HIA := Lib.hid (rings_kept hBA HI.out)
  go_enter Try.func41, Try.ntmps41
  go_wp2_with fail
  clear hBA
  generalize ((w.alloc (.cells #[.string s, .slice a n c] 35)).alloc (.cells #[.string ⟨#[]⟩, .slice none 0 0] 35)) = wA at *
  refine (implValidP_any s _ rs _ HIA.out hs).mono ?_
  rintro e w1 ⟨rfl, hb⟩
  rw [HP.out]
  have q0 := (below_cell hb _ _ (by omega)).trans z0
  have q1 := (below_cell hb _ _ (by omega)).trans z1
  have HBL := Lib.hid (blankP_kept hb hl1 hbl)
  have hl2 := Nat.lt_of_lt_of_le hl1 hb.size
  have HI1 := Lib.hid (rings_kept hb HIA.out)
  have HB := Lib.hid (below_of HBA.out hb HBA.out.size)
  clear hb hbl z0 z1
  go_wp2_with fail
  refine (within_i64 _ _ [(k : Int)] _ 0 1 1 _ rfl (by omega) (cell_int _ _ _ _ (by simp))).mono ?_
  rintro e w2 ⟨rfl, rfl⟩
  rw [all_one, HK.out]
  have hal := below_al w1 (.cells #[.int .i64 (k : Int)] 2)
  have HB2 := Lib.hid (HB.out.alloc HB.out.size (.cells #[.int .i64 (k : Int)] 2))
  have HBL2 := Lib.hid (blankP_kept hal hl2 HBL.out)
  have p0 := (below_cell hal _ _ (show w.heap.size < _ by omega)).trans q0
  have p1 := (below_cell hal _ _ (show w.heap.size < _ by omega)).trans q1
  have hl3 := Nat.lt_of_lt_of_le hl2 hal.size
  have HI2 := Lib.hid (rings_kept hal HI1.out)
  go_wp2
  clear hal q0 q1
  generalize w1.alloc (.cells #[.int .i64 (k : Int)] 2) = wB at *
  have hw1 : IntKind.i64.wrap ((k : Int) + 1) = (k : Int) + 1 := IntWalk.i64_in _ (by omega)
  have HLN := Lib.hid (show (remR rs k).length = n - 1 by rw [remR_len rs k (by rw [hn.out]; exact hk), hn.out])
  have hp01 : w.heap.size < wB.heap.size := by omega
  go_region_held3 (fun w' => w'.cell? ⟨w.heap.size, 0, none⟩ = some (.string s) ∧ w'.cell? ⟨w.heap.size, 1, none⟩ = some (.slice a n c))
    (first | exact ⟨p0, p1⟩ | exact k2_below (by assumption) hz5 hb5 | exact k2_gb (by assumption) hz6 hg6 hne6 | exact k2_below (by assumption) hz7 hb7 | exact k2_set2 (by assumption) (by omega))
    (first
      | (go_at_call 65; refine (ringsCopy_any s _ rs wB.drew HI2.out (by rw [hn.out]; exact h1) (by rw [hn.out]; exact h32) n hn).mono ?_; rintro e w5 ⟨g, rfl, hg0, hrow, hb5⟩; have hz5 : w.heap.size < wB.drew.heap.size := hp01; have hz6 : w.heap.size < w5.heap.size := Nat.lt_of_lt_of_le hp01 hb5.size; have hg0' : wB.heap.size ≤ g := hg0)
      | (go_at_call 68; refine (deleteR_any rs n k g w5 hn.out h32 hk hrow).mono ?_; rintro e w6 ⟨rfl, ⟨X, hX, hXl, hXt⟩, hg6⟩; have hne6 : some w.heap.size ≠ some g := (by simp; omega); have hz7 : w.heap.size < w6.heap.size := Nat.lt_of_lt_of_le hz6 hg6.size; have HRR := Lib.hid (rings_of_row (cap := n + 1) hX hXt HLN.out (by omega)))
      | (go_at_call 63; refine (withRings_any s a n c _ (remR rs k) w6 HRR.out hs).mono ?_; rintro e w7 ⟨rfl, hb7⟩; rw [HQ.out, show resC s (remR rs k) = 0 from by unfold resC; rw [HQ.out]; rfl, show resS s 0 = s from rfl]; skip; obtain ⟨⟨b0, b1⟩, f0, f1⟩ := blankP_kept hb7 (Nat.lt_of_lt_of_le (Nat.lt_of_lt_of_le hl3 hb5.size) hg6.size) (blankP_gb hg6 (Nat.lt_of_lt_of_le hl3 hb5.size) (by simp; omega) (blankP_kept (w := wB.drew) hb5 hl3 HBL2.out))))
  have HBF := Lib.hid (below_of HB2.out (show Below wB.heap.size wB w7 from (show Below wB.heap.size wB w5 from ⟨hb5.os, hb5.tape, hb5.output, hb5.size, hb5.block⟩).trans ((gb_below hg6 hb5.size (fun q hq => by simp only [Option.some.injEq] at hq; omega)).trans (hb7.mono (Nat.le_trans hb5.size hg6.size)))) HB2.out.size)
  have HGB := Lib.hid (show w.heap.size + 1 < g by omega)
  have HOWN := Lib.hid (show OwnRings w7 w.heap.size (.slice (some ⟨g, 0, none⟩) (n - 1) (n + 1)) (remR rs k) from by
    refine ⟨g, n + 1, by rw [HLN.out], by have := HB2.out.size; omega, Nat.lt_of_lt_of_le (rowAt_lt hX) hb7.size, ?_⟩
    rw [HLN.out]
    exact row_keepR hb7 (rowAt_own hX hXl hXt (by omega) (by unfold maxLen; omega) (by have := HB2.out.size; omega)))
  clear hb5 hg6 hb7 hX hXl hXt hrow
  go_wp2
  try simp only [Exit.inBlock, Exit.then]
  refine bodyPost_ret_by (v := .tuple #[.agg #[.string s, .slice (some ⟨g, 0, none⟩) (n - 1) (n + 1)], .int .i64 0]) (by rw [results_cellP rfl]; go_simp) rfl ?_
  refine ⟨_, rfl, ?_, ?_⟩
  · exact rv_own (ownR_set2 HOWN.out (w.heap.size + 1) _ _ (fun g' o n' c' e => by simp only [Value.slice.injEq, Option.some.injEq, Addr.mk.injEq] at e; have := HGB.out; omega))
  · exact (HBF.out.setCell (by show _ ≤ w.heap.size + 1; omega) _).setCell (by show _ ≤ w.heap.size + 1; omega) _
theorem implRemove_any (s : ByteArray) (v : Value) (rs : List Rg) (k : Int) (w : World) (h : RingsAt w v rs) (hs : s.size ≤ maxLen) :
    Calls Try.prog 41 #[.agg #[.string s, v], .int .i64 k] w (ProfU (resS s (remC s rs k)) (resL (remL rs k) (remC s rs k)) (remC s rs k) w) := by
  have HI := Lib.hid h
  obtain ⟨a, c, rfl⟩ := rings_form h
  clear h
  rcases Bool.eq_false_or_eq_true (profB s rs) with hp | hp
  · obtain ⟨-, ⟨n1, n2⟩, -, -⟩ := prof_iff.1 hp
    rcases Bool.eq_false_or_eq_true (inB k 0 (rs.length - 1)) with hk | hk
    · rw [remC_3 hp hk]
      have hb := inB_iff.1 hk
      obtain ⟨q, rfl⟩ := Int.eq_ofNat_of_zero_le hb.1
      have hq : q < rs.length := by omega
      rw [Int.toNat_natCast, show remL rs (q : Int) = remR rs q by unfold remL; rw [Int.toNat_natCast]]
      rcases Bool.eq_false_or_eq_true (profB s (remR rs q)) with hr | hr
      · rw [show resC s (remR rs q) = 0 by unfold resC; rw [if_pos hr]]
        exact implRemove_yes s a rs.length c rs q w (Lib.hid rfl) n1 n2 hq HI hs (Lib.hid hp) (Lib.hid hk) (Lib.hid hr)
      · rw [show resC s (remR rs q) = 6 by unfold resC; rw [hr]; rfl]
        exact implRemove_no s a rs.length c rs q w (Lib.hid rfl) n1 n2 hq HI hs (Lib.hid hp) (Lib.hid hk) (Lib.hid hr)
    · rw [remC_2 hp hk]
      exact implRemove_range s a rs.length c rs k w (Lib.hid rfl) n1 n2 HI hs (Lib.hid hp) (Lib.hid hk)
  · rw [remC_1 hp]
    exact implRemove_bad s a rs.length c rs k w (Lib.hid rfl) HI hs (Lib.hid hp)
theorem rem_len (s : ByteArray) (rs : List Rg) (k : Int) : (resL (remL rs k) (remC s rs k)).length ≤ 64 := by
  by_cases h : profB s rs = true
  · obtain ⟨-, ⟨_, n2⟩, -, -⟩ := prof_iff.1 h
    exact resL_len _ _ (by unfold remL remR; rw [List.length_append, List.length_take, List.length_drop]; omega)
  · rw [remC_1 (by simpa using h)]
    simp [resL]
end Go.Proofs.Ytojkijcdfnfnlaa
