/- SplitRing: the program's walk. -/
import Derived.Test.YtojkijcdfnfnlabSplM
set_option linter.unusedVariables false
namespace Go.Proofs.Ytojkijcdfnfnlab
open Go.ChangeShapes Go.WideShapes Go.ChangeAt Go.RowKit

theorem row_setH {w : World} {g k : Nat} {x y z : Int} {rs : List Rg} {T : List Value} (z' : Int) (h : RowAt w g (i64s (flat rs) ++ T)) (hk : k < rs.length) (hr : rs.getD k zR = (x, y, z)) :
    RowAt (w.setCell ⟨g, k * 3 + 2, none⟩ (.int .i64 z')) g (i64s (flat (rs.set k (x, y, z'))) ++ T) := by
  have hl : (i64s (flat rs)).length = rs.length * 3 := by rw [i64s_length, flat_len]
  have h1 := setCells_as_row (o := k * 3 + 2) (cs := [Value.int .i64 z']) h (by rw [List.length_append, hl]; simp; omega) (by intro v hv; rw [List.mem_singleton.1 hv]; rfl)
  have e : rs = rs.take k ++ (x, y, z) :: rs.drop (k + 1) := by
    conv => lhs; rw [← List.take_append_drop k rs]
    rw [List.drop_eq_getElem_cons hk]
    simp [← hr, List.getD, hk]
  have ht : (i64s (flat (rs.take k))).length = k * 3 := by rw [i64s_length, flat_len, List.length_take]; omega
  have e2 : i64s (flat rs) = i64s (flat (rs.take k)) ++ ([Value.int .i64 x, Value.int .i64 y, Value.int .i64 z] ++ i64s (flat (rs.drop (k + 1)))) := by
    conv => lhs; rw [e, flat_append, i64s_app]
    rfl
  have e3 : i64s (flat (rs.set k (x, y, z'))) = i64s (flat (rs.take k)) ++ ([Value.int .i64 x, Value.int .i64 y, Value.int .i64 z'] ++ i64s (flat (rs.drop (k + 1)))) := by
    have : rs.set k (x, y, z') = rs.take k ++ (x, y, z') :: rs.drop (k + 1) := by
      conv => lhs; rw [e]
      rw [List.set_append_right _ _ (by rw [List.length_take]; omega), List.length_take, Nat.min_eq_left (by omega), Nat.sub_self, List.set_cons_zero]
    rw [this, flat_append, i64s_app]
    rfl
  have h2 : (i64s (flat rs) ++ T).take (k * 3 + 2) ++ [Value.int .i64 z'] ++ (i64s (flat rs) ++ T).drop (k * 3 + 2 + [Value.int .i64 z'].length) = i64s (flat (rs.set k (x, y, z'))) ++ T := by
    rw [e2, e3]
    simp only [List.append_assoc, List.length_singleton]
    rw [show k * 3 + 2 + 1 = (i64s (flat (rs.take k))).length + 3 by omega, show k * 3 + 2 = (i64s (flat (rs.take k))).length + 2 by omega, List.take_length_add_append, List.drop_length_add_append]
    simp
  rw [h2] at h1
  exact h1
theorem rowAt_alloc {w : World} {g : Nat} {X : List Value} (h : RowAt w g X) (o : Obj) : RowAt (w.alloc o) g X := (heap_alloc_old w o (rowAt_lt h)).trans h
theorem k5_below {w w' : World} {b b2 : Nat} {u v x y z : Value} (hS : w.cell? ⟨b, 0, none⟩ = some u ∧ w.cell? ⟨b, 1, none⟩ = some v ∧ w.cell? ⟨b2, 0, none⟩ = some x ∧ w.cell? ⟨b2, 1, none⟩ = some y ∧ w.cell? ⟨b2, 2, none⟩ = some z) (hz : b < w.heap.size) (hz2 : b2 < w.heap.size) (hb : Below w.heap.size w w') :
    w'.cell? ⟨b, 0, none⟩ = some u ∧ w'.cell? ⟨b, 1, none⟩ = some v ∧ w'.cell? ⟨b2, 0, none⟩ = some x ∧ w'.cell? ⟨b2, 1, none⟩ = some y ∧ w'.cell? ⟨b2, 2, none⟩ = some z :=
  ⟨(below_cell hb _ _ hz).trans hS.1, (below_cell hb _ _ hz).trans hS.2.1, (below_cell hb _ _ hz2).trans hS.2.2.1, (below_cell hb _ _ hz2).trans hS.2.2.2.1, (below_cell hb _ _ hz2).trans hS.2.2.2.2⟩
theorem k5_gb {w w' : World} {b b2 : Nat} {u v x y z : Value} {row : Option Nat} (hS : w.cell? ⟨b, 0, none⟩ = some u ∧ w.cell? ⟨b, 1, none⟩ = some v ∧ w.cell? ⟨b2, 0, none⟩ = some x ∧ w.cell? ⟨b2, 1, none⟩ = some y ∧ w.cell? ⟨b2, 2, none⟩ = some z) (hz : b < w.heap.size) (hz2 : b2 < w.heap.size) (hb : w.grownBy w' row) (h1 : some b ≠ row) (h2 : some b2 ≠ row) :
    w'.cell? ⟨b, 0, none⟩ = some u ∧ w'.cell? ⟨b, 1, none⟩ = some v ∧ w'.cell? ⟨b2, 0, none⟩ = some x ∧ w'.cell? ⟨b2, 1, none⟩ = some y ∧ w'.cell? ⟨b2, 2, none⟩ = some z :=
  ⟨(gb_cell hb _ _ hz h1).trans hS.1, (gb_cell hb _ _ hz h1).trans hS.2.1, (gb_cell hb _ _ hz2 h2).trans hS.2.2.1, (gb_cell hb _ _ hz2 h2).trans hS.2.2.2.1, (gb_cell hb _ _ hz2 h2).trans hS.2.2.2.2⟩
theorem k5_set2 {w : World} {b b2 b3 : Nat} {u v x y z p q : Value} (hS : w.cell? ⟨b, 0, none⟩ = some u ∧ w.cell? ⟨b, 1, none⟩ = some v ∧ w.cell? ⟨b2, 0, none⟩ = some x ∧ w.cell? ⟨b2, 1, none⟩ = some y ∧ w.cell? ⟨b2, 2, none⟩ = some z) (h1 : b ≠ b3) (h2 : b2 ≠ b3) :
    ((w.setCell ⟨b3, 0, none⟩ p).setCell ⟨b3, 1, none⟩ q).cell? ⟨b, 0, none⟩ = some u ∧ ((w.setCell ⟨b3, 0, none⟩ p).setCell ⟨b3, 1, none⟩ q).cell? ⟨b, 1, none⟩ = some v ∧ ((w.setCell ⟨b3, 0, none⟩ p).setCell ⟨b3, 1, none⟩ q).cell? ⟨b2, 0, none⟩ = some x ∧ ((w.setCell ⟨b3, 0, none⟩ p).setCell ⟨b3, 1, none⟩ q).cell? ⟨b2, 1, none⟩ = some y ∧ ((w.setCell ⟨b3, 0, none⟩ p).setCell ⟨b3, 1, none⟩ q).cell? ⟨b2, 2, none⟩ = some z := by
  have e : ∀ (w : World) (c k j : Nat) (z : Value), c ≠ b3 → (w.setCell ⟨b3, k, none⟩ z).cell? ⟨c, j, none⟩ = w.cell? ⟨c, j, none⟩ := fun w c k j z h => World.cell?_of_block (Below.heap_setCell _ _ _ _ h)
  refine ⟨?_, ?_, ?_, ?_, ?_⟩
  · rw [e _ _ _ _ _ h1, e _ _ _ _ _ h1]; exact hS.1
  · rw [e _ _ _ _ _ h1, e _ _ _ _ _ h1]; exact hS.2.1
  · rw [e _ _ _ _ _ h2, e _ _ _ _ _ h2]; exact hS.2.2.1
  · rw [e _ _ _ _ _ h2, e _ _ _ _ _ h2]; exact hS.2.2.2.1
  · rw [e _ _ _ _ _ h2, e _ _ _ _ _ h2]; exact hS.2.2.2.2
set_option maxRecDepth 20000 in
set_option maxHeartbeats 4000000 in
theorem implSplit_yes (s : ByteArray) (a : Option Addr) (n c : Nat) (rs : List Rg) (h : Int) (w : World) (hn : Hid (rs.length = n)) (h1 : 1 ≤ n) (h32 : n < 32) (HI : Hid (RingsAt w (.slice a n c) rs)) (hs : s.size ≤ maxLen) (hh : Hid (-9223372036854775808 ≤ h ∧ h ≤ 9223372036854775807)) (HA0 : Hid (askC s rs h = 0)) (j : Nat) (HAT : Hid (IsAt rs h j)) (HDQ : Hid (decide (10 ≤ h - heights (rs.take j) ∧ 10 ≤ (rs.getD j zR).2.2 - (h - heights (rs.take j))) = true)) :
    Calls Try.prog 7 #[.agg #[.string s, .slice a n c], .int .i64 h] w (ProfU s (splL rs h j) 0 w) := by
  have hBA := ((Below.refl w.heap.size w).alloc (Nat.le_refl _) (.cells #[.string s, .slice a n c] 28)).alloc (by simp) (.cells #[.string ⟨#[]⟩, .slice none 0 0] 28)
  have z0 : ((w.alloc (.cells #[.string s, .slice a n c] 28)).alloc (.cells #[.string ⟨#[]⟩, .slice none 0 0] 28)).cell? ⟨w.heap.size, 0, none⟩ = some (.string s) := by go_simp
  have z1 : ((w.alloc (.cells #[.string s, .slice a n c] 28)).alloc (.cells #[.string ⟨#[]⟩, .slice none 0 0] 28)).cell? ⟨w.heap.size, 1, none⟩ = some (.slice a n c) := by go_simp
  have hbl : BlankP ((w.alloc (.cells #[.string s, .slice a n c] 28)).alloc (.cells #[.string ⟨#[]⟩, .slice none 0 0] 28)) (w.heap.size + 1) := ⟨⟨by go_simp, by go_simp⟩, by go_simp, by go_simp⟩
  have hl1 : w.heap.size + 1 < ((w.alloc (.cells #[.string s, .slice a n c] 28)).alloc (.cells #[.string ⟨#[]⟩, .slice none 0 0] 28)).heap.size := by simp
  have HBA := Lib.hid hBA
  have HIA := Lib.hid (rings_kept hBA HI.out)
  go_enter Try.func7, Try.ntmps7
  go_wp2_with fail
  clear hBA
  generalize ((w.alloc (.cells #[.string s, .slice a n c] 28)).alloc (.cells #[.string ⟨#[]⟩, .slice none 0 0] 28)) = wA at *
  refine (implFind_any s _ rs h _ HIA.out hs hh.out).mono ?_
  rintro e w1 ⟨⟨k, o, q, rfl, hq, hy, -⟩, hb⟩
  obtain rfl : q = 0 := hq.trans HA0.out
  obtain ⟨hat, hov⟩ := hy rfl
  have HP := Lib.hid (ask_0 HA0.out).1
  obtain rfl : k = j := at_unique (fun i hi => prof_ring HP.out i hi) hat HAT.out
  have hkn : k < n := by have := hat.1; rw [hn.out] at this; exact this
  have q0 := (below_cell hb _ _ (by omega)).trans z0
  have q1 := (below_cell hb _ _ (by omega)).trans z1
  have HBL := Lib.hid (blankP_kept hb hl1 hbl)
  have hl2 := Nat.lt_of_lt_of_le hl1 hb.size
  have HI1 := Lib.hid (rings_kept hb HIA.out)
  have HB := Lib.hid (below_of HBA.out hb HBA.out.size)
  have HOV := Lib.hid hov
  obtain ⟨⟨x, y, z⟩, hxyz⟩ : ∃ r, rs.getD k zR = r := ⟨_, rfl⟩
  have HXYZ := Lib.hid hxyz
  have hrb := ring_iff.1 (prof_ring HP.out k (by rw [hn.out]; exact hkn))
  rw [hxyz] at hrb
  simp only at hrb
  have ho : 0 ≤ o ∧ o < z := by
    obtain ⟨_, a2, a3⟩ := hat
    rw [heights_next rs k (by rw [hn.out]; exact hkn), hxyz] at a3
    simp only at a3
    omega
  obtain ⟨ho0, ho1⟩ := ho
  have HRB := Lib.hid hrb
  have hz30 : z ≤ 300000 := by omega
  have HQL := Lib.hid (show splL rs h k = splF rs k (x, y, o) (x, y, z - o) by unfold splL; rw [hxyz, ← hov])
  have HQ := Lib.hid (show profB s (splF rs k (x, y, o) (x, y, z - o)) = true by rw [spl_ok HP.out (by rw [hn.out]; exact hkn) (by rw [hn.out]; omega) hxyz ho0 ho1]; have := HDQ.out; rw [hxyz, ← hov] at this; exact this)
  try rw [HQL.out]
  clear hb hbl z0 z1 hq hy hat hov hxyz hrb
  have hne32 : ((n : Int) == 32) = false := by simp; omega
  go_wp2_with fail
  refine (ringsCopy_any s _ rs _ HI1.out (by rw [hn.out]; exact h1) (by rw [hn.out]; omega) n hn).mono ?_
  rintro e w5 ⟨g, rfl, hg0, hrow, hb5⟩
  have p0 := (below_cell hb5 _ _ (show w.heap.size < w1.heap.size by omega)).trans q0
  have p1 := (below_cell hb5 _ _ (show w.heap.size < w1.heap.size by omega)).trans q1
  have HBL5 := Lib.hid (blankP_kept hb5 hl2 HBL.out)
  have hl5 := Nat.lt_of_lt_of_le hl2 hb5.size
  have HB5 := Lib.hid (below_of HB.out hb5 HB.out.size)
  have HROW := Lib.hid hrow
  have hgl : g < w5.heap.size := rowAt_lt hrow
  obtain ⟨hr0, hr1, hr2⟩ := flat_get rs k (by rw [hn.out]; exact hkn)
  have hlen : (i64s (flat rs)).length = n * 3 := by rw [i64s_length, flat_len, hn.out]
  have CL : ∀ j, j < n * 3 → w5.cell? ⟨g, j, none⟩ = some (.int .i64 ((flat rs).getD j 0)) := fun j hj => by
    rw [rowAt_cell hrow, List.getElem?_append_left (by omega), i64s_get _ j (by rw [flat_len, hn.out]; exact hj)]
  have e0 : w5.cell? ⟨g, k * 3, none⟩ = some (.int .i64 x) := by rw [CL _ (by omega), List.getD_eq_getElem?_getD, hr0, HXYZ.out]; rfl
  have e1 : w5.cell? ⟨g, k * 3 + 1, none⟩ = some (.int .i64 y) := by rw [CL _ (by omega), List.getD_eq_getElem?_getD, hr1, HXYZ.out]; rfl
  have e2 : w5.cell? ⟨g, k * 3 + 2, none⟩ = some (.int .i64 z) := by rw [CL _ (by omega), List.getD_eq_getElem?_getD, hr2, HXYZ.out]; rfl
  have f2 : w5.frozen? ⟨g, k * 3 + 2, none⟩ = false := rowAt_frozen hrow _
  have hk1 : (k : Int) < (n : Int) := by omega
  have hk0 : (0 : Int) ≤ (k : Int) := by omega
  clear hr0 hr1 hr2 CL hlen hrow hb5 q0 q1
  have HRS := Lib.hid (row_setH (z - o) HROW.out (by rw [hn.out]; exact hkn) HXYZ.out)
  have HLS := Lib.hid (show (rs.set k (x, y, z - o)).length = n by rw [List.length_set, hn.out])
  have HSF := Lib.hid (splF_ins rs k (x, y, o) (x, y, z - o) (by rw [hn.out]; exact hkn))
  have HSL := Lib.hid (show (splF rs k (x, y, o) (x, y, z - o)).length = n + 1 by rw [splF_len _ _ _ _ (by rw [hn.out]; exact hkn), hn.out])
  have gs : w5.grownBy (w5.setCell ⟨g, k * 3 + 2, none⟩ (.int .i64 (z - o))) (some g) := gb_set _ _ (gb_refl w5 _)
  have hgne : w.heap.size + 1 < g := by omega
  have s0 : (w5.setCell ⟨g, k * 3 + 2, none⟩ (.int .i64 (z - o))).cell? ⟨w.heap.size, 0, none⟩ = some (.string s) := (gb_cell gs _ _ (by omega) (by simp; omega)).trans p0
  have s1 : (w5.setCell ⟨g, k * 3 + 2, none⟩ (.int .i64 (z - o))).cell? ⟨w.heap.size, 1, none⟩ = some (.slice a n c) := (gb_cell gs _ _ (by omega) (by simp; omega)).trans p1
  have hbs : BlankP (w5.setCell ⟨g, k * 3 + 2, none⟩ (.int .i64 (z - o))) (w.heap.size + 1) := blankP_gb gs hl5 (by simp; omega) HBL5.out
  have hls : (w5.setCell ⟨g, k * 3 + 2, none⟩ (.int .i64 (z - o))).heap.size = w5.heap.size := by simp
  have t0 : ((w5.setCell ⟨g, k * 3 + 2, none⟩ (.int .i64 (z - o))).alloc (.cells #[.int .i64 x, .int .i64 y, .int .i64 o] 41)).cell? ⟨w.heap.size, 0, none⟩ = some (.string s) := (below_cell (below_al (w5.setCell ⟨g, k * 3 + 2, none⟩ (.int .i64 (z - o))) _) _ _ (by omega)).trans s0
  have t1 : ((w5.setCell ⟨g, k * 3 + 2, none⟩ (.int .i64 (z - o))).alloc (.cells #[.int .i64 x, .int .i64 y, .int .i64 o] 41)).cell? ⟨w.heap.size, 1, none⟩ = some (.slice a n c) := (below_cell (below_al (w5.setCell ⟨g, k * 3 + 2, none⟩ (.int .i64 (z - o))) _) _ _ (by omega)).trans s1
  have t2 : ((w5.setCell ⟨g, k * 3 + 2, none⟩ (.int .i64 (z - o))).alloc (.cells #[.int .i64 x, .int .i64 y, .int .i64 o] 41)).cell? ⟨w5.heap.size, 0, none⟩ = some (.int .i64 x) := by have h := cell_of_row ((w5.setCell ⟨g, k * 3 + 2, none⟩ (.int .i64 (z - o))).alloc (.cells #[.int .i64 x, .int .i64 y, .int .i64 o] 41)) (w5.setCell ⟨g, k * 3 + 2, none⟩ (.int .i64 (z - o))).heap.size 0 #[.int .i64 x, .int .i64 y, .int .i64 o] 41 (0, 0) (heap_alloc_new (w5.setCell ⟨g, k * 3 + 2, none⟩ (.int .i64 (z - o))) _); rw [hls] at h; simpa using h
  have t3 : ((w5.setCell ⟨g, k * 3 + 2, none⟩ (.int .i64 (z - o))).alloc (.cells #[.int .i64 x, .int .i64 y, .int .i64 o] 41)).cell? ⟨w5.heap.size, 1, none⟩ = some (.int .i64 y) := by have h := cell_of_row ((w5.setCell ⟨g, k * 3 + 2, none⟩ (.int .i64 (z - o))).alloc (.cells #[.int .i64 x, .int .i64 y, .int .i64 o] 41)) (w5.setCell ⟨g, k * 3 + 2, none⟩ (.int .i64 (z - o))).heap.size 1 #[.int .i64 x, .int .i64 y, .int .i64 o] 41 (0, 0) (heap_alloc_new (w5.setCell ⟨g, k * 3 + 2, none⟩ (.int .i64 (z - o))) _); rw [hls] at h; simpa using h
  have t4 : ((w5.setCell ⟨g, k * 3 + 2, none⟩ (.int .i64 (z - o))).alloc (.cells #[.int .i64 x, .int .i64 y, .int .i64 o] 41)).cell? ⟨w5.heap.size, 2, none⟩ = some (.int .i64 o) := by have h := cell_of_row ((w5.setCell ⟨g, k * 3 + 2, none⟩ (.int .i64 (z - o))).alloc (.cells #[.int .i64 x, .int .i64 y, .int .i64 o] 41)) (w5.setCell ⟨g, k * 3 + 2, none⟩ (.int .i64 (z - o))).heap.size 2 #[.int .i64 x, .int .i64 y, .int .i64 o] 41 (0, 0) (heap_alloc_new (w5.setCell ⟨g, k * 3 + 2, none⟩ (.int .i64 (z - o))) _); rw [hls] at h; simpa using h
  have HBL6 := Lib.hid (blankP_kept (below_al (w5.setCell ⟨g, k * 3 + 2, none⟩ (.int .i64 (z - o))) (.cells #[.int .i64 x, .int .i64 y, .int .i64 o] 41)) (by omega) hbs)
  have HR6 := Lib.hid (rowAt_alloc HRS.out (.cells #[.int .i64 x, .int .i64 y, .int .i64 o] 41))
  have HB6 := Lib.hid (show Below w.heap.size w ((w5.setCell ⟨g, k * 3 + 2, none⟩ (.int .i64 (z - o))).alloc (.cells #[.int .i64 x, .int .i64 y, .int .i64 o] 41)) from (HB5.out.trans (gb_below gs HB5.out.size (fun q hq => by simp only [Option.some.injEq] at hq; omega))).alloc (by have := HB5.out.size; omega) _)
  have hl6 : w5.heap.size < ((w5.setCell ⟨g, k * 3 + 2, none⟩ (.int .i64 (z - o))).alloc (.cells #[.int .i64 x, .int .i64 y, .int .i64 o] 41)).heap.size := by rw [← hls]; exact alloc_lt2 _ _
  clear HBL5 HRS gs s0 s1 hbs hls HROW
  go_wp2
  clear e0 e1 e2 f2 p0 p1
  generalize ((w5.setCell ⟨g, k * 3 + 2, none⟩ (.int .i64 (z - o))).alloc (.cells #[.int .i64 x, .int .i64 y, .int .i64 o] 41)) = wB at *
  have hzB : w.heap.size < wB.heap.size := by omega
  have hgB : g < wB.heap.size := by omega
  go_region_held3 (fun w' => w'.cell? ⟨w.heap.size, 0, none⟩ = some (.string s) ∧ w'.cell? ⟨w.heap.size, 1, none⟩ = some (.slice a n c) ∧ w'.cell? ⟨w5.heap.size, 0, none⟩ = some (.int .i64 x) ∧ w'.cell? ⟨w5.heap.size, 1, none⟩ = some (.int .i64 y) ∧ w'.cell? ⟨w5.heap.size, 2, none⟩ = some (.int .i64 o))
    (first | exact ⟨t0, t1, t2, t3, t4⟩ | exact hk6 | exact hk7 | exact k5_below (w := wB.drew) ⟨t0, t1, t2, t3, t4⟩ hzB hl6 (below_al _ _) | exact k5_set2 hk7 (by omega) (by omega))
    (first
      | (go_at_call 19; refine (insertR_any (rs.set k (x, y, z - o)) (x, y, o) n k g wB.heap.size g (wB.drew.alloc (.cells #[.int .i64 x, .int .i64 y, .int .i64 o] 41)) HLS.out (by omega) (by omega) (rowAt_alloc (w := wB.drew) HR6.out _) (heap_alloc_new wB.drew _) (by omega) (Nat.le_refl _)).mono ?_; rintro e w6 ⟨rfl, hX, hg6⟩; have hk6 := k5_gb (k5_below (w := wB.drew) ⟨t0, t1, t2, t3, t4⟩ hzB hl6 (below_al _ _)) (Nat.lt_trans hzB (alloc_lt2 wB.drew _)) (Nat.lt_trans hl6 (alloc_lt2 wB.drew _)) hg6 (by simp; omega) (by simp; omega); rw [HSF.out] at hX; have hz6 : wB.heap.size < w6.heap.size := Nat.lt_of_lt_of_le (alloc_lt2 wB.drew _) hg6.size; have HRR := Lib.hid (rings_of_row (cap := n + 1) hX (List.take_of_length_le (by rw [i64s_length, flat_len, HSL.out]; exact Nat.le_refl _)) HSL.out (by omega)))
      | (go_at_call 18; refine (withRings_any s a n c _ (splF rs k (x, y, o) (x, y, z - o)) w6 HRR.out hs).mono ?_; rintro e w7 ⟨rfl, hb7⟩; rw [HQ.out, show resC s (splF rs k (x, y, o) (x, y, z - o)) = 0 from by unfold resC; rw [HQ.out]; rfl, show resS s 0 = s from rfl]; have hk7 := k5_below hk6 (Nat.lt_trans hzB hz6) (Nat.lt_trans hl6 hz6) hb7; obtain ⟨⟨b0, b1⟩, f0, f1⟩ := blankP_kept hb7 (show w.heap.size + 1 < w6.heap.size by omega) (blankP_gb hg6 (show w.heap.size + 1 < (wB.drew.alloc _).heap.size from Nat.lt_trans (by show w.heap.size + 1 < wB.heap.size; omega) (alloc_lt2 wB.drew _)) (by simp; omega) (blankP_kept (w := wB.drew) (below_al _ _) (show w.heap.size + 1 < wB.heap.size by omega) HBL6.out))))
  have HBF := Lib.hid (show Below w.heap.size w w7 from (HB6.out.trans (show Below w.heap.size wB (wB.drew.alloc (.cells #[.int .i64 x, .int .i64 y, .int .i64 o] 41)) from (show Below w.heap.size wB wB.drew from ⟨rfl, rfl, rfl, Nat.le_refl _, fun _ _ => rfl⟩).alloc (by show w.heap.size ≤ wB.heap.size; omega) _)).trans ((gb_below hg6 (Nat.le_trans (Nat.le_of_lt hzB) (Nat.le_of_lt (alloc_lt2 wB.drew _))) (fun q hq => by simp only [Option.some.injEq] at hq; omega)).trans (hb7.mono (by omega))))
  have HOWN := Lib.hid (show OwnRings w7 w.heap.size (.slice (some ⟨g, 0, none⟩) (n + 1) (n + 1)) (splF rs k (x, y, o) (x, y, z - o)) from by
    refine ⟨g, n + 1, by rw [HSL.out], by omega, Nat.lt_of_lt_of_le (rowAt_lt hX) hb7.size, ?_⟩
    rw [HSL.out]
    exact row_keepR hb7 (rowAt_own hX (by rw [i64s_length, flat_len, HSL.out]) (List.take_of_length_le (by rw [i64s_length, flat_len, HSL.out]; exact Nat.le_refl _)) (Nat.le_refl _) (by unfold maxLen; omega) (by omega)))
  clear hg6 hb7 hX hk6 hk7 t0 t1 t2 t3 t4
  go_wp2
  try simp only [Exit.inBlock, Exit.then]
  refine bodyPost_ret_by (v := .tuple #[.agg #[.string s, .slice (some ⟨g, 0, none⟩) (n + 1) (n + 1)], .int .i64 0]) (by rw [results_cellP rfl]; go_simp) rfl ?_
  refine ⟨_, rfl, ?_, ?_⟩
  · rw [HQL.out]; exact rv_own (ownR_set2 HOWN.out (w.heap.size + 1) _ _ (fun g' o n' c' e => by simp only [Value.slice.injEq, Option.some.injEq, Addr.mk.injEq] at e; omega))
  · exact (HBF.out.setCell (by show _ ≤ w.heap.size + 1; omega) _).setCell (by show _ ≤ w.heap.size + 1; omega) _
set_option maxRecDepth 20000 in
set_option maxHeartbeats 4000000 in
theorem implSplit_no (s : ByteArray) (a : Option Addr) (n c : Nat) (rs : List Rg) (h : Int) (w : World) (hn : Hid (rs.length = n)) (h1 : 1 ≤ n) (h32 : n < 32) (HI : Hid (RingsAt w (.slice a n c) rs)) (hs : s.size ≤ maxLen) (hh : Hid (-9223372036854775808 ≤ h ∧ h ≤ 9223372036854775807)) (HA0 : Hid (askC s rs h = 0)) (j : Nat) (HAT : Hid (IsAt rs h j)) (HDQ : Hid (decide (10 ≤ h - heights (rs.take j) ∧ 10 ≤ (rs.getD j zR).2.2 - (h - heights (rs.take j))) = false)) :
    Calls Try.prog 7 #[.agg #[.string s, .slice a n c], .int .i64 h] w (ProfU ⟨#[]⟩ [] 6 w) := by
  have hBA := ((Below.refl w.heap.size w).alloc (Nat.le_refl _) (.cells #[.string s, .slice a n c] 28)).alloc (by simp) (.cells #[.string ⟨#[]⟩, .slice none 0 0] 28)
  have z0 : ((w.alloc (.cells #[.string s, .slice a n c] 28)).alloc (.cells #[.string ⟨#[]⟩, .slice none 0 0] 28)).cell? ⟨w.heap.size, 0, none⟩ = some (.string s) := by go_simp
  have z1 : ((w.alloc (.cells #[.string s, .slice a n c] 28)).alloc (.cells #[.string ⟨#[]⟩, .slice none 0 0] 28)).cell? ⟨w.heap.size, 1, none⟩ = some (.slice a n c) := by go_simp
  have hbl : BlankP ((w.alloc (.cells #[.string s, .slice a n c] 28)).alloc (.cells #[.string ⟨#[]⟩, .slice none 0 0] 28)) (w.heap.size + 1) := ⟨⟨by go_simp, by go_simp⟩, by go_simp, by go_simp⟩
  have hl1 : w.heap.size + 1 < ((w.alloc (.cells #[.string s, .slice a n c] 28)).alloc (.cells #[.string ⟨#[]⟩, .slice none 0 0] 28)).heap.size := by simp
  have HBA := Lib.hid hBA
  have HIA := Lib.hid (rings_kept hBA HI.out)
  go_enter Try.func7, Try.ntmps7
  go_wp2_with fail
  clear hBA
  generalize ((w.alloc (.cells #[.string s, .slice a n c] 28)).alloc (.cells #[.string ⟨#[]⟩, .slice none 0 0] 28)) = wA at *
  refine (implFind_any s _ rs h _ HIA.out hs hh.out).mono ?_
  rintro e w1 ⟨⟨k, o, q, rfl, hq, hy, -⟩, hb⟩
  obtain rfl : q = 0 := hq.trans HA0.out
  obtain ⟨hat, hov⟩ := hy rfl
  have HP := Lib.hid (ask_0 HA0.out).1
  obtain rfl : k = j := at_unique (fun i hi => prof_ring HP.out i hi) hat HAT.out
  have hkn : k < n := by have := hat.1; rw [hn.out] at this; exact this
  have q0 := (below_cell hb _ _ (by omega)).trans z0
  have q1 := (below_cell hb _ _ (by omega)).trans z1
  have HBL := Lib.hid (blankP_kept hb hl1 hbl)
  have hl2 := Nat.lt_of_lt_of_le hl1 hb.size
  have HI1 := Lib.hid (rings_kept hb HIA.out)
  have HB := Lib.hid (below_of HBA.out hb HBA.out.size)
  have HOV := Lib.hid hov
  obtain ⟨⟨x, y, z⟩, hxyz⟩ : ∃ r, rs.getD k zR = r := ⟨_, rfl⟩
  have HXYZ := Lib.hid hxyz
  have hrb := ring_iff.1 (prof_ring HP.out k (by rw [hn.out]; exact hkn))
  rw [hxyz] at hrb
  simp only at hrb
  have ho : 0 ≤ o ∧ o < z := by
    obtain ⟨_, a2, a3⟩ := hat
    rw [heights_next rs k (by rw [hn.out]; exact hkn), hxyz] at a3
    simp only at a3
    omega
  obtain ⟨ho0, ho1⟩ := ho
  have HRB := Lib.hid hrb
  have hz30 : z ≤ 300000 := by omega
  have HQL := Lib.hid (show splL rs h k = splF rs k (x, y, o) (x, y, z - o) by unfold splL; rw [hxyz, ← hov])
  have HQ := Lib.hid (show profB s (splF rs k (x, y, o) (x, y, z - o)) = false by rw [spl_ok HP.out (by rw [hn.out]; exact hkn) (by rw [hn.out]; omega) hxyz ho0 ho1]; have := HDQ.out; rw [hxyz, ← hov] at this; exact this)
  try rw [HQL.out]
  clear hb hbl z0 z1 hq hy hat hov hxyz hrb
  have hne32 : ((n : Int) == 32) = false := by simp; omega
  go_wp2_with fail
  refine (ringsCopy_any s _ rs _ HI1.out (by rw [hn.out]; exact h1) (by rw [hn.out]; omega) n hn).mono ?_
  rintro e w5 ⟨g, rfl, hg0, hrow, hb5⟩
  have p0 := (below_cell hb5 _ _ (show w.heap.size < w1.heap.size by omega)).trans q0
  have p1 := (below_cell hb5 _ _ (show w.heap.size < w1.heap.size by omega)).trans q1
  have HBL5 := Lib.hid (blankP_kept hb5 hl2 HBL.out)
  have hl5 := Nat.lt_of_lt_of_le hl2 hb5.size
  have HB5 := Lib.hid (below_of HB.out hb5 HB.out.size)
  have HROW := Lib.hid hrow
  have hgl : g < w5.heap.size := rowAt_lt hrow
  obtain ⟨hr0, hr1, hr2⟩ := flat_get rs k (by rw [hn.out]; exact hkn)
  have hlen : (i64s (flat rs)).length = n * 3 := by rw [i64s_length, flat_len, hn.out]
  have CL : ∀ j, j < n * 3 → w5.cell? ⟨g, j, none⟩ = some (.int .i64 ((flat rs).getD j 0)) := fun j hj => by
    rw [rowAt_cell hrow, List.getElem?_append_left (by omega), i64s_get _ j (by rw [flat_len, hn.out]; exact hj)]
  have e0 : w5.cell? ⟨g, k * 3, none⟩ = some (.int .i64 x) := by rw [CL _ (by omega), List.getD_eq_getElem?_getD, hr0, HXYZ.out]; rfl
  have e1 : w5.cell? ⟨g, k * 3 + 1, none⟩ = some (.int .i64 y) := by rw [CL _ (by omega), List.getD_eq_getElem?_getD, hr1, HXYZ.out]; rfl
  have e2 : w5.cell? ⟨g, k * 3 + 2, none⟩ = some (.int .i64 z) := by rw [CL _ (by omega), List.getD_eq_getElem?_getD, hr2, HXYZ.out]; rfl
  have f2 : w5.frozen? ⟨g, k * 3 + 2, none⟩ = false := rowAt_frozen hrow _
  have hk1 : (k : Int) < (n : Int) := by omega
  have hk0 : (0 : Int) ≤ (k : Int) := by omega
  clear hr0 hr1 hr2 CL hlen hrow hb5 q0 q1
  have HRS := Lib.hid (row_setH (z - o) HROW.out (by rw [hn.out]; exact hkn) HXYZ.out)
  have HLS := Lib.hid (show (rs.set k (x, y, z - o)).length = n by rw [List.length_set, hn.out])
  have HSF := Lib.hid (splF_ins rs k (x, y, o) (x, y, z - o) (by rw [hn.out]; exact hkn))
  have HSL := Lib.hid (show (splF rs k (x, y, o) (x, y, z - o)).length = n + 1 by rw [splF_len _ _ _ _ (by rw [hn.out]; exact hkn), hn.out])
  have gs : w5.grownBy (w5.setCell ⟨g, k * 3 + 2, none⟩ (.int .i64 (z - o))) (some g) := gb_set _ _ (gb_refl w5 _)
  have hgne : w.heap.size + 1 < g := by omega
  have s0 : (w5.setCell ⟨g, k * 3 + 2, none⟩ (.int .i64 (z - o))).cell? ⟨w.heap.size, 0, none⟩ = some (.string s) := (gb_cell gs _ _ (by omega) (by simp; omega)).trans p0
  have s1 : (w5.setCell ⟨g, k * 3 + 2, none⟩ (.int .i64 (z - o))).cell? ⟨w.heap.size, 1, none⟩ = some (.slice a n c) := (gb_cell gs _ _ (by omega) (by simp; omega)).trans p1
  have hbs : BlankP (w5.setCell ⟨g, k * 3 + 2, none⟩ (.int .i64 (z - o))) (w.heap.size + 1) := blankP_gb gs hl5 (by simp; omega) HBL5.out
  have hls : (w5.setCell ⟨g, k * 3 + 2, none⟩ (.int .i64 (z - o))).heap.size = w5.heap.size := by simp
  have t0 : ((w5.setCell ⟨g, k * 3 + 2, none⟩ (.int .i64 (z - o))).alloc (.cells #[.int .i64 x, .int .i64 y, .int .i64 o] 41)).cell? ⟨w.heap.size, 0, none⟩ = some (.string s) := (below_cell (below_al (w5.setCell ⟨g, k * 3 + 2, none⟩ (.int .i64 (z - o))) _) _ _ (by omega)).trans s0
  have t1 : ((w5.setCell ⟨g, k * 3 + 2, none⟩ (.int .i64 (z - o))).alloc (.cells #[.int .i64 x, .int .i64 y, .int .i64 o] 41)).cell? ⟨w.heap.size, 1, none⟩ = some (.slice a n c) := (below_cell (below_al (w5.setCell ⟨g, k * 3 + 2, none⟩ (.int .i64 (z - o))) _) _ _ (by omega)).trans s1
  have t2 : ((w5.setCell ⟨g, k * 3 + 2, none⟩ (.int .i64 (z - o))).alloc (.cells #[.int .i64 x, .int .i64 y, .int .i64 o] 41)).cell? ⟨w5.heap.size, 0, none⟩ = some (.int .i64 x) := by have h := cell_of_row ((w5.setCell ⟨g, k * 3 + 2, none⟩ (.int .i64 (z - o))).alloc (.cells #[.int .i64 x, .int .i64 y, .int .i64 o] 41)) (w5.setCell ⟨g, k * 3 + 2, none⟩ (.int .i64 (z - o))).heap.size 0 #[.int .i64 x, .int .i64 y, .int .i64 o] 41 (0, 0) (heap_alloc_new (w5.setCell ⟨g, k * 3 + 2, none⟩ (.int .i64 (z - o))) _); rw [hls] at h; simpa using h
  have t3 : ((w5.setCell ⟨g, k * 3 + 2, none⟩ (.int .i64 (z - o))).alloc (.cells #[.int .i64 x, .int .i64 y, .int .i64 o] 41)).cell? ⟨w5.heap.size, 1, none⟩ = some (.int .i64 y) := by have h := cell_of_row ((w5.setCell ⟨g, k * 3 + 2, none⟩ (.int .i64 (z - o))).alloc (.cells #[.int .i64 x, .int .i64 y, .int .i64 o] 41)) (w5.setCell ⟨g, k * 3 + 2, none⟩ (.int .i64 (z - o))).heap.size 1 #[.int .i64 x, .int .i64 y, .int .i64 o] 41 (0, 0) (heap_alloc_new (w5.setCell ⟨g, k * 3 + 2, none⟩ (.int .i64 (z - o))) _); rw [hls] at h; simpa using h
  have t4 : ((w5.setCell ⟨g, k * 3 + 2, none⟩ (.int .i64 (z - o))).alloc (.cells #[.int .i64 x, .int .i64 y, .int .i64 o] 41)).cell? ⟨w5.heap.size, 2, none⟩ = some (.int .i64 o) := by have h := cell_of_row ((w5.setCell ⟨g, k * 3 + 2, none⟩ (.int .i64 (z - o))).alloc (.cells #[.int .i64 x, .int .i64 y, .int .i64 o] 41)) (w5.setCell ⟨g, k * 3 + 2, none⟩ (.int .i64 (z - o))).heap.size 2 #[.int .i64 x, .int .i64 y, .int .i64 o] 41 (0, 0) (heap_alloc_new (w5.setCell ⟨g, k * 3 + 2, none⟩ (.int .i64 (z - o))) _); rw [hls] at h; simpa using h
  have HBL6 := Lib.hid (blankP_kept (below_al (w5.setCell ⟨g, k * 3 + 2, none⟩ (.int .i64 (z - o))) (.cells #[.int .i64 x, .int .i64 y, .int .i64 o] 41)) (by omega) hbs)
  have HR6 := Lib.hid (rowAt_alloc HRS.out (.cells #[.int .i64 x, .int .i64 y, .int .i64 o] 41))
  have HB6 := Lib.hid (show Below w.heap.size w ((w5.setCell ⟨g, k * 3 + 2, none⟩ (.int .i64 (z - o))).alloc (.cells #[.int .i64 x, .int .i64 y, .int .i64 o] 41)) from (HB5.out.trans (gb_below gs HB5.out.size (fun q hq => by simp only [Option.some.injEq] at hq; omega))).alloc (by have := HB5.out.size; omega) _)
  have hl6 : w5.heap.size < ((w5.setCell ⟨g, k * 3 + 2, none⟩ (.int .i64 (z - o))).alloc (.cells #[.int .i64 x, .int .i64 y, .int .i64 o] 41)).heap.size := by rw [← hls]; exact alloc_lt2 _ _
  clear HBL5 HRS gs s0 s1 hbs hls HROW
  go_wp2
  clear e0 e1 e2 f2 p0 p1
  generalize ((w5.setCell ⟨g, k * 3 + 2, none⟩ (.int .i64 (z - o))).alloc (.cells #[.int .i64 x, .int .i64 y, .int .i64 o] 41)) = wB at *
  have hzB : w.heap.size < wB.heap.size := by omega
  have hgB : g < wB.heap.size := by omega
  go_region_held3 (fun w' => w'.cell? ⟨w.heap.size, 0, none⟩ = some (.string s) ∧ w'.cell? ⟨w.heap.size, 1, none⟩ = some (.slice a n c) ∧ w'.cell? ⟨w5.heap.size, 0, none⟩ = some (.int .i64 x) ∧ w'.cell? ⟨w5.heap.size, 1, none⟩ = some (.int .i64 y) ∧ w'.cell? ⟨w5.heap.size, 2, none⟩ = some (.int .i64 o))
    (first | exact ⟨t0, t1, t2, t3, t4⟩ | exact hk6 | exact hk7 | exact k5_below (w := wB.drew) ⟨t0, t1, t2, t3, t4⟩ hzB hl6 (below_al _ _) | exact k5_set2 hk7 (by omega) (by omega))
    (first
      | (go_at_call 19; refine (insertR_any (rs.set k (x, y, z - o)) (x, y, o) n k g wB.heap.size g (wB.drew.alloc (.cells #[.int .i64 x, .int .i64 y, .int .i64 o] 41)) HLS.out (by omega) (by omega) (rowAt_alloc (w := wB.drew) HR6.out _) (heap_alloc_new wB.drew _) (by omega) (Nat.le_refl _)).mono ?_; rintro e w6 ⟨rfl, hX, hg6⟩; have hk6 := k5_gb (k5_below (w := wB.drew) ⟨t0, t1, t2, t3, t4⟩ hzB hl6 (below_al _ _)) (Nat.lt_trans hzB (alloc_lt2 wB.drew _)) (Nat.lt_trans hl6 (alloc_lt2 wB.drew _)) hg6 (by simp; omega) (by simp; omega); rw [HSF.out] at hX; have hz6 : wB.heap.size < w6.heap.size := Nat.lt_of_lt_of_le (alloc_lt2 wB.drew _) hg6.size; have HRR := Lib.hid (rings_of_row (cap := n + 1) hX (List.take_of_length_le (by rw [i64s_length, flat_len, HSL.out]; exact Nat.le_refl _)) HSL.out (by omega)))
      | (go_at_call 18; refine (withRings_any s a n c _ (splF rs k (x, y, o) (x, y, z - o)) w6 HRR.out hs).mono ?_; rintro e w7 ⟨rfl, hb7⟩; rw [HQ.out, show resC s (splF rs k (x, y, o) (x, y, z - o)) = 6 from by unfold resC; rw [HQ.out]; rfl, show resS s 6 = ⟨#[]⟩ from rfl]; have hk7 := k5_below hk6 (Nat.lt_trans hzB hz6) (Nat.lt_trans hl6 hz6) hb7; obtain ⟨⟨b0, b1⟩, f0, f1⟩ := blankP_kept hb7 (show w.heap.size + 1 < w6.heap.size by omega) (blankP_gb hg6 (show w.heap.size + 1 < (wB.drew.alloc _).heap.size from Nat.lt_trans (by show w.heap.size + 1 < wB.heap.size; omega) (alloc_lt2 wB.drew _)) (by simp; omega) (blankP_kept (w := wB.drew) (below_al _ _) (show w.heap.size + 1 < wB.heap.size by omega) HBL6.out))))
  have HBF := Lib.hid (show Below w.heap.size w w7 from (HB6.out.trans (show Below w.heap.size wB (wB.drew.alloc (.cells #[.int .i64 x, .int .i64 y, .int .i64 o] 41)) from (show Below w.heap.size wB wB.drew from ⟨rfl, rfl, rfl, Nat.le_refl _, fun _ _ => rfl⟩).alloc (by show w.heap.size ≤ wB.heap.size; omega) _)).trans ((gb_below hg6 (Nat.le_trans (Nat.le_of_lt hzB) (Nat.le_of_lt (alloc_lt2 wB.drew _))) (fun q hq => by simp only [Option.some.injEq] at hq; omega)).trans (hb7.mono (by omega))))
  clear hg6 hb7 hX hk6 hk7 t0 t1 t2 t3 t4
  go_wp2
  try simp only [Exit.inBlock, Exit.then]
  refine bodyPost_ret_by (v := .tuple #[.agg #[.string ⟨#[]⟩, .slice none 0 0], .int .i64 6]) (by rw [results_cellP rfl]; go_simp) rfl ?_
  refine ⟨_, rfl, .inl ⟨rfl, rfl⟩, ?_⟩
  exact (HBF.out.setCell (by show _ ≤ w.heap.size + 1; omega) _).setCell (by show _ ≤ w.heap.size + 1; omega) _
set_option maxRecDepth 20000 in
set_option maxHeartbeats 2000000 in
theorem implSplit_bad (s : ByteArray) (a : Option Addr) (n c : Nat) (rs : List Rg) (h : Int) (w : World) (HI : Hid (RingsAt w (.slice a n c) rs)) (hs : s.size ≤ maxLen) (hh : Hid (-9223372036854775808 ≤ h ∧ h ≤ 9223372036854775807)) (d : Int) (hd : Hid (askC s rs h = d)) (hd0 : (d != 0) = true) :
    Calls Try.prog 7 #[.agg #[.string s, .slice a n c], .int .i64 h] w (ProfU ⟨#[]⟩ [] d w) := by
  have hBA := ((Below.refl w.heap.size w).alloc (Nat.le_refl _) (.cells #[.string s, .slice a n c] 28)).alloc (by simp) (.cells #[.string ⟨#[]⟩, .slice none 0 0] 28)
  have z0 : ((w.alloc (.cells #[.string s, .slice a n c] 28)).alloc (.cells #[.string ⟨#[]⟩, .slice none 0 0] 28)).cell? ⟨w.heap.size, 0, none⟩ = some (.string s) := by go_simp
  have z1 : ((w.alloc (.cells #[.string s, .slice a n c] 28)).alloc (.cells #[.string ⟨#[]⟩, .slice none 0 0] 28)).cell? ⟨w.heap.size, 1, none⟩ = some (.slice a n c) := by go_simp
  have hbl : BlankP ((w.alloc (.cells #[.string s, .slice a n c] 28)).alloc (.cells #[.string ⟨#[]⟩, .slice none 0 0] 28)) (w.heap.size + 1) := ⟨⟨by go_simp, by go_simp⟩, by go_simp, by go_simp⟩
  have hl1 : w.heap.size + 1 < ((w.alloc (.cells #[.string s, .slice a n c] 28)).alloc (.cells #[.string ⟨#[]⟩, .slice none 0 0] 28)).heap.size := by simp
  have HBA := Lib.hid hBA
  have HIA := Lib.hid (rings_kept hBA HI.out)
  go_enter Try.func7, Try.ntmps7
  go_wp2_with fail
  clear hBA
  generalize ((w.alloc (.cells #[.string s, .slice a n c] 28)).alloc (.cells #[.string ⟨#[]⟩, .slice none 0 0] 28)) = wA at *
  refine (implFind_any s _ rs h _ HIA.out hs hh.out).mono ?_
  rintro e w1 ⟨⟨k, o, q, rfl, hq, -, -⟩, hb⟩
  obtain rfl : q = d := hq.trans hd.out
  clear hq
  have q0 := (below_cell hb _ _ (by omega)).trans z0
  have q1 := (below_cell hb _ _ (by omega)).trans z1
  obtain ⟨⟨b0, b1⟩, f0, f1⟩ := blankP_kept hb hl1 hbl
  have HB := Lib.hid (below_of HBA.out hb HBA.out.size)
  clear hb hbl z0 z1
  go_wp2
  try simp only [Exit.inBlock, Exit.then]
  refine bodyPost_ret_by (v := .tuple #[.agg #[.string ⟨#[]⟩, .slice none 0 0], .int .i64 q]) (by rw [results_cellP rfl]; go_simp) rfl ?_
  refine ⟨_, rfl, .inl ⟨rfl, rfl⟩, ?_⟩
  exact (HB.out.setCell (by show _ ≤ w.heap.size + 1; omega) _).setCell (by show _ ≤ w.heap.size + 1; omega) _
set_option maxRecDepth 20000 in
set_option maxHeartbeats 2000000 in
theorem implSplit_full (s : ByteArray) (a : Option Addr) (c : Nat) (rs : List Rg) (h : Int) (w : World) (n : Nat) (hn : n = 32) (HI : Hid (RingsAt w (.slice a n c) rs)) (hs : s.size ≤ maxLen) (hh : Hid (-9223372036854775808 ≤ h ∧ h ≤ 9223372036854775807)) (HA0 : Hid (askC s rs h = 0)) :
    Calls Try.prog 7 #[.agg #[.string s, .slice a n c], .int .i64 h] w (ProfU ⟨#[]⟩ [] 5 w) := by
  subst hn
  obtain ⟨n, hn⟩ : ∃ n, 32 = n := ⟨_, rfl⟩
  rw [hn] at HI ⊢
  have HN := Lib.hid hn
  have h32 : ((n : Int) == 32) = true := by rw [← hn]; rfl
  clear hn
  have hBA := ((Below.refl w.heap.size w).alloc (Nat.le_refl _) (.cells #[.string s, .slice a n c] 28)).alloc (by simp) (.cells #[.string ⟨#[]⟩, .slice none 0 0] 28)
  have z0 : ((w.alloc (.cells #[.string s, .slice a n c] 28)).alloc (.cells #[.string ⟨#[]⟩, .slice none 0 0] 28)).cell? ⟨w.heap.size, 0, none⟩ = some (.string s) := by go_simp
  have z1 : ((w.alloc (.cells #[.string s, .slice a n c] 28)).alloc (.cells #[.string ⟨#[]⟩, .slice none 0 0] 28)).cell? ⟨w.heap.size, 1, none⟩ = some (.slice a n c) := by go_simp
  have hbl : BlankP ((w.alloc (.cells #[.string s, .slice a n c] 28)).alloc (.cells #[.string ⟨#[]⟩, .slice none 0 0] 28)) (w.heap.size + 1) := ⟨⟨by go_simp, by go_simp⟩, by go_simp, by go_simp⟩
  have hl1 : w.heap.size + 1 < ((w.alloc (.cells #[.string s, .slice a n c] 28)).alloc (.cells #[.string ⟨#[]⟩, .slice none 0 0] 28)).heap.size := by simp
  have HBA := Lib.hid hBA
  have HIA := Lib.hid (rings_kept hBA HI.out)
  go_enter Try.func7, Try.ntmps7
  go_wp2_with fail
  clear hBA
  generalize ((w.alloc (.cells #[.string s, .slice a n c] 28)).alloc (.cells #[.string ⟨#[]⟩, .slice none 0 0] 28)) = wA at *
  refine (implFind_any s _ rs h _ HIA.out hs hh.out).mono ?_
  rintro e w1 ⟨⟨k, o, q, rfl, hq, -, -⟩, hb⟩
  obtain rfl : q = 0 := hq.trans HA0.out
  clear hq
  have q0 := (below_cell hb _ _ (by omega)).trans z0
  have q1 := (below_cell hb _ _ (by omega)).trans z1
  obtain ⟨⟨b0, b1⟩, f0, f1⟩ := blankP_kept hb hl1 hbl
  have HB := Lib.hid (below_of HBA.out hb HBA.out.size)
  clear hb hbl z0 z1
  go_wp2
  try simp only [Exit.inBlock, Exit.then]
  refine bodyPost_ret_by (v := .tuple #[.agg #[.string ⟨#[]⟩, .slice none 0 0], .int .i64 5]) (by rw [results_cellP rfl]; go_simp) rfl ?_
  refine ⟨_, rfl, .inl ⟨rfl, rfl⟩, ?_⟩
  exact (HB.out.setCell (by show _ ≤ w.heap.size + 1; omega) _).setCell (by show _ ≤ w.heap.size + 1; omega) _
theorem at_some {s : ByteArray} {rs : List Rg} {h : Int} (h0 : askC s rs h = 0) : ∃ k, IsAt rs h k := by
  obtain ⟨g1, g2, g3⟩ := ask_0 h0
  have key : ∀ j, j ≤ rs.length → h < heights (rs.take j) → ∃ k, IsAt rs h k := by
    intro j
    induction j with
    | zero => intro _ hlt; simp [heights] at hlt; omega
    | succ j ih =>
      intro hj hlt
      by_cases e : h < heights (rs.take j)
      · exact ih (by omega) e
      · exact ⟨j, by omega, by omega, hlt⟩
  exact key rs.length (Nat.le_refl _) (by rw [List.take_of_length_le (Nat.le_refl _)]; exact g3)
theorem implSplit_any (s : ByteArray) (v : Value) (rs : List Rg) (h : Int) (w : World) (hv : RingsAt w v rs) (hs : s.size ≤ maxLen) (hh : -9223372036854775808 ≤ h ∧ h ≤ 9223372036854775807) (j : Nat) (hj : askC s rs h = 0 → IsAt rs h j) :
    Calls Try.prog 7 #[.agg #[.string s, v], .int .i64 h] w (ProfU (resS s (splC s rs h j)) (resL (splL rs h j) (splC s rs h j)) (splC s rs h j) w) := by
  have HI := Lib.hid hv
  obtain ⟨a, c, rfl⟩ := rings_form hv
  by_cases h0 : askC s rs h = 0
  · obtain ⟨-, ⟨n1, n2⟩, -, -⟩ := prof_iff.1 (ask_0 h0).1
    by_cases h32 : rs.length = 32
    · rw [show splC s rs h j = 5 by unfold splC; rw [if_pos h0, if_pos h32]]
      exact implSplit_full s a c rs h w rs.length h32 HI hs (Lib.hid hh) (Lib.hid h0)
    · rcases Bool.eq_false_or_eq_true (decide (10 ≤ h - heights (rs.take j) ∧ 10 ≤ (rs.getD j zR).2.2 - (h - heights (rs.take j)))) with hd | hd
      · rw [show splC s rs h j = 0 by unfold splC; rw [if_pos h0, if_neg h32, if_pos (of_decide_eq_true hd)]]
        exact implSplit_yes s a rs.length c rs h w (Lib.hid rfl) n1 (by omega) HI hs (Lib.hid hh) (Lib.hid h0) j (Lib.hid (hj h0)) (Lib.hid hd)
      · rw [show splC s rs h j = 6 by unfold splC; rw [if_pos h0, if_neg h32, if_neg (of_decide_eq_false hd)]]
        exact implSplit_no s a rs.length c rs h w (Lib.hid rfl) n1 (by omega) HI hs (Lib.hid hh) (Lib.hid h0) j (Lib.hid (hj h0)) (Lib.hid hd)
  · rw [show splC s rs h j = askC s rs h by unfold splC; rw [if_neg h0]]
    rw [show resS s (askC s rs h) = ⟨#[]⟩ by unfold resS; rw [if_neg h0], show resL (splL rs h j) (askC s rs h) = [] by unfold resL; rw [if_neg h0]]
    exact implSplit_bad s a rs.length c rs h w HI hs (Lib.hid hh) _ (Lib.hid rfl) (by simpa using h0)
theorem spl_len (s : ByteArray) (rs : List Rg) (h : Int) (j : Nat) (hj : askC s rs h = 0 → IsAt rs h j) : (resL (splL rs h j) (splC s rs h j)).length ≤ 64 := by
  by_cases h0 : askC s rs h = 0
  · obtain ⟨-, ⟨n1, n2⟩, -, -⟩ := prof_iff.1 (ask_0 h0).1
    exact resL_len _ _ (by unfold splL; rw [splF_len _ _ _ _ (hj h0).1]; omega)
  · rw [show splC s rs h j = askC s rs h by unfold splC; rw [if_neg h0], show resL (splL rs h j) (askC s rs h) = [] by unfold resL; rw [if_neg h0]]
    simp
end Go.Proofs.Ytojkijcdfnfnlab
