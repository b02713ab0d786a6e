/- SplitRing: the reference model's walk. -/
import Derived.Test.YtojkijcdfnfnlabSplI
set_option linter.unusedVariables false
namespace Go.Proofs.Ytojkijcdfnfnlab
open Go.ChangeShapes Go.WideShapes Go.ChangeAt Go.RowKit

theorem set_same {l : List Int} {i : Nat} {a : Int} (h : l[i]? = some a) : l.set i a = l := by
  apply List.ext_getElem?
  intro j
  rw [List.getElem?_set]
  split
  · rename_i e
    subst e
    split
    · exact h.symm
    · rename_i hl
      rw [List.getElem?_eq_none (by omega)]
  · rfl
theorem flat_setH (L : List Rg) (j : Nat) (x y z z' : Int) (h : L.getD j zR = (x, y, z)) (hj : j < L.length) : (flat L).set (j * 3 + 2) z' = flat (L.set j (x, y, z')) := by
  obtain ⟨h0, h1, h2⟩ := flat_get L j hj
  rw [h] at h0 h1 h2
  rw [← flat_set, set_same h0, set_same h1]
theorem insR_get (rs : List Rg) (k : Nat) (r : Rg) (h : k < rs.length) : (insR rs k r).getD (k + 1) zR = rs.getD k zR := by
  unfold insR
  have hl : (rs.take k).length = k := by rw [List.length_take]; omega
  rw [List.getD_eq_getElem?_getD, List.getElem?_append_right (by omega), hl, show k + 1 - k = 1 by omega, List.getElem?_cons_succ, List.getElem?_drop, List.getD_eq_getElem?_getD]
  rfl
set_option maxRecDepth 20000 in
set_option maxHeartbeats 4000000 in
theorem specSplit_bad (s : ByteArray) (a : Option Addr) (n c : Nat) (rs : List Rg) (h : Int) (w : World) (HI : Hid (RingsAt w (.slice a n c) rs)) (hs : s.size ≤ maxLen) (d : Int) (hd : Hid (askC s rs h = d)) (hd0 : (d != 0) = true) :
    Calls Try.prog 5 #[.agg #[.string s, .slice a n c], .int .i64 h] w (ProfU ⟨#[]⟩ [] d w) := by
  have hBA := ((Below.refl w.heap.size w).alloc (Nat.le_refl _) (.cells #[.string s, .slice a n c] 28)).alloc (by simp) (.cells #[.string ⟨#[]⟩, .slice none 0 0] 28)
  have z0 : ((w.alloc (.cells #[.string s, .slice a n c] 28)).alloc (.cells #[.string ⟨#[]⟩, .slice none 0 0] 28)).cell? ⟨w.heap.size, 0, none⟩ = some (.string s) := by go_simp
  have z1 : ((w.alloc (.cells #[.string s, .slice a n c] 28)).alloc (.cells #[.string ⟨#[]⟩, .slice none 0 0] 28)).cell? ⟨w.heap.size, 1, none⟩ = some (.slice a n c) := by go_simp
  have hbl : BlankP ((w.alloc (.cells #[.string s, .slice a n c] 28)).alloc (.cells #[.string ⟨#[]⟩, .slice none 0 0] 28)) (w.heap.size + 1) := ⟨⟨by go_simp, by go_simp⟩, by go_simp, by go_simp⟩
  have hl1 : w.heap.size + 1 < ((w.alloc (.cells #[.string s, .slice a n c] 28)).alloc (.cells #[.string ⟨#[]⟩, .slice none 0 0] 28)).heap.size := by simp
  have HBA := Lib.hid hBA
  have HIA := Lib.hid (rings_kept hBA HI.out)
  go_enter Try.func5, Try.ntmps5
  go_wp2_with fail
  clear hBA
  generalize ((w.alloc (.cells #[.string s, .slice a n c] 28)).alloc (.cells #[.string ⟨#[]⟩, .slice none 0 0] 28)) = wA at *
  refine (l05Ask_any _ s _ rs h _ ⟨z0, z1⟩ (by omega) HIA.out hs).mono ?_
  rintro e w1 ⟨rfl, hb⟩
  rw [hd.out]
  have q0 := (below_cell hb _ _ (by omega)).trans z0
  have q1 := (below_cell hb _ _ (by omega)).trans z1
  have HBL := Lib.hid (blankP_kept hb hl1 hbl)
  have hl2 := Nat.lt_of_lt_of_le hl1 hb.size
  have HI1 := Lib.hid (rings_kept hb HIA.out)
  have HB := Lib.hid (below_of HBA.out hb HBA.out.size)
  clear hb hbl z0 z1
  obtain ⟨⟨b0, b1⟩, f0, f1⟩ := HBL.out
  go_wp2
  try simp only [Exit.inBlock, Exit.then]
  refine bodyPost_ret_by (v := .tuple #[.agg #[.string ⟨#[]⟩, .slice none 0 0], .int .i64 d]) (by rw [results_cellP rfl]; go_simp) rfl ?_
  refine ⟨_, rfl, .inl ⟨rfl, rfl⟩, ?_⟩
  exact (HB.out.setCell (by show _ ≤ w.heap.size + 1; omega) _).setCell (by show _ ≤ w.heap.size + 1; omega) _
set_option maxRecDepth 20000 in
set_option maxHeartbeats 4000000 in
theorem specSplit_full (s : ByteArray) (b off n c : Nat) (rs : List Rg) (h : Int) (w : World) (hn : n = 32) (HI : Hid (RingsAt w (.slice (some ⟨b, off, none⟩) n c) rs)) (hs : s.size ≤ maxLen) (HA0 : Hid (askC s rs h = 0)) :
    Calls Try.prog 5 #[.agg #[.string s, .slice (some ⟨b, off, none⟩) n c], .int .i64 h] w (ProfU ⟨#[]⟩ [] 5 w) := by
  have h32 : ((n : Int) == 32) = true := by rw [hn]; rfl
  clear hn
  have hBA := ((Below.refl w.heap.size w).alloc (Nat.le_refl _) (.cells #[.string s, .slice (some ⟨b, off, none⟩) n c] 28)).alloc (by simp) (.cells #[.string ⟨#[]⟩, .slice none 0 0] 28)
  have z0 : ((w.alloc (.cells #[.string s, .slice (some ⟨b, off, none⟩) n c] 28)).alloc (.cells #[.string ⟨#[]⟩, .slice none 0 0] 28)).cell? ⟨w.heap.size, 0, none⟩ = some (.string s) := by go_simp
  have z1 : ((w.alloc (.cells #[.string s, .slice (some ⟨b, off, none⟩) n c] 28)).alloc (.cells #[.string ⟨#[]⟩, .slice none 0 0] 28)).cell? ⟨w.heap.size, 1, none⟩ = some (.slice (some ⟨b, off, none⟩) n c) := by go_simp
  have hbl : BlankP ((w.alloc (.cells #[.string s, .slice (some ⟨b, off, none⟩) n c] 28)).alloc (.cells #[.string ⟨#[]⟩, .slice none 0 0] 28)) (w.heap.size + 1) := ⟨⟨by go_simp, by go_simp⟩, by go_simp, by go_simp⟩
  have hl1 : w.heap.size + 1 < ((w.alloc (.cells #[.string s, .slice (some ⟨b, off, none⟩) n c] 28)).alloc (.cells #[.string ⟨#[]⟩, .slice none 0 0] 28)).heap.size := by simp
  have HBA := Lib.hid hBA
  have HIA := Lib.hid (rings_kept hBA HI.out)
  go_enter Try.func5, Try.ntmps5
  go_wp2_with fail
  clear hBA
  generalize ((w.alloc (.cells #[.string s, .slice (some ⟨b, off, none⟩) n c] 28)).alloc (.cells #[.string ⟨#[]⟩, .slice none 0 0] 28)) = wA at *
  refine (l05Ask_any _ s _ rs h _ ⟨z0, z1⟩ (by omega) HIA.out hs).mono ?_
  rintro e w1 ⟨rfl, hb⟩
  rw [HA0.out]
  have q0 := (below_cell hb _ _ (by omega)).trans z0
  have q1 := (below_cell hb _ _ (by omega)).trans z1
  have HBL := Lib.hid (blankP_kept hb hl1 hbl)
  have hl2 := Nat.lt_of_lt_of_le hl1 hb.size
  have HI1 := Lib.hid (rings_kept hb HIA.out)
  have HB := Lib.hid (below_of HBA.out hb HBA.out.size)
  clear hb hbl z0 z1
  obtain ⟨⟨b0, b1⟩, f0, f1⟩ := HBL.out
  go_wp2
  try simp only [Exit.inBlock, Exit.then]
  refine bodyPost_ret_by (v := .tuple #[.agg #[.string ⟨#[]⟩, .slice none 0 0], .int .i64 5]) (by rw [results_cellP rfl]; go_simp) rfl ?_
  refine ⟨_, rfl, .inl ⟨rfl, rfl⟩, ?_⟩
  exact (HB.out.setCell (by show _ ≤ w.heap.size + 1; omega) _).setCell (by show _ ≤ w.heap.size + 1; omega) _
set_option maxRecDepth 20000 in
set_option maxHeartbeats 4000000 in
theorem specSplit_no (s : ByteArray) (b off n c : Nat) (rs : List Rg) (h : Int) (w : World) (hn : Hid (rs.length = n)) (h1 : 1 ≤ n) (h32 : n < 32) (hnc : n ≤ c) (HI : Hid (RingsAt w (.slice (some ⟨b, off, none⟩) n c) rs)) (hs : s.size ≤ maxLen) (HA0 : Hid (askC s rs h = 0)) (j : Nat) (HAT : Hid (IsAt rs h j)) (HDQ : Hid (decide (10 ≤ h - heights (rs.take j) ∧ 10 ≤ (rs.getD j zR).2.2 - (h - heights (rs.take j))) = false)) :
    Calls Try.prog 5 #[.agg #[.string s, .slice (some ⟨b, off, none⟩) n c], .int .i64 h] w (ProfU ⟨#[]⟩ [] 6 w) := by
  have hBA := ((Below.refl w.heap.size w).alloc (Nat.le_refl _) (.cells #[.string s, .slice (some ⟨b, off, none⟩) n c] 28)).alloc (by simp) (.cells #[.string ⟨#[]⟩, .slice none 0 0] 28)
  have z0 : ((w.alloc (.cells #[.string s, .slice (some ⟨b, off, none⟩) n c] 28)).alloc (.cells #[.string ⟨#[]⟩, .slice none 0 0] 28)).cell? ⟨w.heap.size, 0, none⟩ = some (.string s) := by go_simp
  have z1 : ((w.alloc (.cells #[.string s, .slice (some ⟨b, off, none⟩) n c] 28)).alloc (.cells #[.string ⟨#[]⟩, .slice none 0 0] 28)).cell? ⟨w.heap.size, 1, none⟩ = some (.slice (some ⟨b, off, none⟩) n c) := by go_simp
  have hbl : BlankP ((w.alloc (.cells #[.string s, .slice (some ⟨b, off, none⟩) n c] 28)).alloc (.cells #[.string ⟨#[]⟩, .slice none 0 0] 28)) (w.heap.size + 1) := ⟨⟨by go_simp, by go_simp⟩, by go_simp, by go_simp⟩
  have hl1 : w.heap.size + 1 < ((w.alloc (.cells #[.string s, .slice (some ⟨b, off, none⟩) n c] 28)).alloc (.cells #[.string ⟨#[]⟩, .slice none 0 0] 28)).heap.size := by simp
  have HBA := Lib.hid hBA
  have HIA := Lib.hid (rings_kept hBA HI.out)
  go_enter Try.func5, Try.ntmps5
  go_wp2_with fail
  clear hBA
  generalize ((w.alloc (.cells #[.string s, .slice (some ⟨b, off, none⟩) n c] 28)).alloc (.cells #[.string ⟨#[]⟩, .slice none 0 0] 28)) = wA at *
  refine (l05Ask_any _ s _ rs h _ ⟨z0, z1⟩ (by omega) HIA.out hs).mono ?_
  rintro e w1 ⟨rfl, hb⟩
  rw [HA0.out]
  have q0 := (below_cell hb _ _ (by omega)).trans z0
  have q1 := (below_cell hb _ _ (by omega)).trans z1
  have HBL := Lib.hid (blankP_kept hb hl1 hbl)
  have hl2 := Nat.lt_of_lt_of_le hl1 hb.size
  have HI1 := Lib.hid (rings_kept hb HIA.out)
  have HB := Lib.hid (below_of HBA.out hb HBA.out.size)
  clear hb hbl z0 z1
  obtain ⟨hbl1, hcs⟩ := src_of hn.out h1 HI1.out
  have hc : ∀ i, i < n → RingIn w1 b (off + i * 3) (rs.getD i zR) := fun i hi => ring_in (fun j hj => hcs j (by rw [hn.out] at hj; exact hj)) i (by rw [hn.out]; exact hi)
  have HC := Lib.hid hc
  clear hcs hc
  have HP := Lib.hid (ask_0 HA0.out)
  have hne32 : ((n : Int) == 32) = false := by simp; omega
  go_wp2_with fail
  refine (l05At_some _ b off c n s rs h _ hn.out (by omega) ⟨q0, q1⟩ HC.out (fun i hi => prof_ring HP.out.1 i hi) HP.out.2.1 HP.out.2.2).mono ?_
  rintro e w2 ⟨⟨k, hat, rfl⟩, rfl⟩
  obtain rfl : k = j := at_unique (fun i hi => prof_ring HP.out.1 i hi) hat HAT.out
  have hkn : k < n := by have := hat.1; rw [hn.out] at this; exact this
  obtain ⟨o, ho⟩ : ∃ o, h - heights (rs.take k) = o := ⟨_, rfl⟩
  obtain ⟨⟨x, y, z⟩, hxyz⟩ : ∃ r, rs.getD k zR = r := ⟨_, rfl⟩
  have hov : 0 ≤ o ∧ o < z := by
    obtain ⟨_, a2, a3⟩ := hat
    rw [heights_next rs k (by rw [hn.out]; exact hkn), hxyz] at a3
    simp only at a3
    omega
  have hrb := ring_iff.1 (prof_ring HP.out.1 k (by rw [hn.out]; exact hkn))
  rw [hxyz] at hrb
  simp only at hrb
  have hr := HC.out k hkn
  rw [hxyz] at hr
  have e0 : w1.cell? ⟨b, off + k * 3, none⟩ = some (.int .i64 x) := hr.c0
  have e1 : w1.cell? ⟨b, off + k * 3 + 1, none⟩ = some (.int .i64 y) := hr.c1
  have e2 : w1.cell? ⟨b, off + k * 3 + 2, none⟩ = some (.int .i64 z) := hr.c2
  have HQL := Lib.hid (show splL rs h k = splF rs k (x, y, o) (x, y, z - o) by unfold splL; rw [hxyz, ho])
  have hdq := HDQ.out
  rw [hxyz, ho] at hdq
  rw [ho]
  have HXYZ := Lib.hid hxyz
  obtain ⟨ho0, ho1⟩ := hov
  have hz30 : z ≤ 300000 := by omega
  have hk1 : (k : Int) < (n : Int) := by omega
  have hk0 : (0 : Int) ≤ (k : Int) := by omega
  have hwz : IntKind.i64.wrap (z - o) = z - o := IntWalk.i64_in _ (by omega)
  clear hr hat hrb ho hxyz
  have hdd : o < 10 ∨ z - o < 10 := by
    have := of_decide_eq_false hdq
    simp only at this
    omega
  clear hdq
  obtain ⟨⟨b0, b1⟩, f0, f1⟩ := HBL.out
  have HBF := Lib.hid (HB.out.alloc HB.out.size (.cells #[.int .i64 x, .int .i64 y, .int .i64 z] 41))
  by_cases hd1 : o < 10
  · have hd2 : decide (o < 10) = true := decide_eq_true hd1
    go_wp2
    try simp only [Exit.inBlock, Exit.then]
    refine bodyPost_ret_by (v := .tuple #[.agg #[.string ⟨#[]⟩, .slice none 0 0], .int .i64 6]) (by rw [results_cellP rfl]; go_simp) rfl ?_
    refine ⟨_, rfl, .inl ⟨rfl, rfl⟩, ?_⟩
    exact ((HB.out.setCell (by show _ ≤ w.heap.size + 1; omega) _).setCell (by show _ ≤ w.heap.size + 1; omega) _).alloc (by simp; omega) _
  · have hd2 : decide (o < 10) = false := decide_eq_false hd1
    have hd4 : z - o < 10 := by omega
    have hd3 : decide (z - o < 10) = true := decide_eq_true hd4
    clear hdd
    go_wp2
    try simp only [Exit.inBlock, Exit.then]
    refine bodyPost_ret_by (v := .tuple #[.agg #[.string ⟨#[]⟩, .slice none 0 0], .int .i64 6]) (by rw [results_cellP rfl]; go_simp) rfl ?_
    refine ⟨_, rfl, .inl ⟨rfl, rfl⟩, ?_⟩
    exact ((HB.out.setCell (by show _ ≤ w.heap.size + 1; omega) _).setCell (by show _ ≤ w.heap.size + 1; omega) _).alloc (by simp; omega) _
set_option maxRecDepth 20000 in
set_option maxHeartbeats 4000000 in
theorem specSplit_yes (s : ByteArray) (b off n c : Nat) (rs : List Rg) (h : Int) (w : World) (hn : Hid (rs.length = n)) (h1 : 1 ≤ n) (h32 : n < 32) (hnc : n ≤ c) (HI : Hid (RingsAt w (.slice (some ⟨b, off, none⟩) n c) rs)) (hs : s.size ≤ maxLen) (HA0 : Hid (askC s rs h = 0)) (j : Nat) (HAT : Hid (IsAt rs h j)) (HDQ : Hid (decide (10 ≤ h - heights (rs.take j) ∧ 10 ≤ (rs.getD j zR).2.2 - (h - heights (rs.take j))) = true)) :
    Calls Try.prog 5 #[.agg #[.string s, .slice (some ⟨b, off, none⟩) n c], .int .i64 h] w (ProfU s (splL rs h j) 0 w) := by
  have hBA := ((Below.refl w.heap.size w).alloc (Nat.le_refl _) (.cells #[.string s, .slice (some ⟨b, off, none⟩) n c] 28)).alloc (by simp) (.cells #[.string ⟨#[]⟩, .slice none 0 0] 28)
  have z0 : ((w.alloc (.cells #[.string s, .slice (some ⟨b, off, none⟩) n c] 28)).alloc (.cells #[.string ⟨#[]⟩, .slice none 0 0] 28)).cell? ⟨w.heap.size, 0, none⟩ = some (.string s) := by go_simp
  have z1 : ((w.alloc (.cells #[.string s, .slice (some ⟨b, off, none⟩) n c] 28)).alloc (.cells #[.string ⟨#[]⟩, .slice none 0 0] 28)).cell? ⟨w.heap.size, 1, none⟩ = some (.slice (some ⟨b, off, none⟩) n c) := by go_simp
  have hbl : BlankP ((w.alloc (.cells #[.string s, .slice (some ⟨b, off, none⟩) n c] 28)).alloc (.cells #[.string ⟨#[]⟩, .slice none 0 0] 28)) (w.heap.size + 1) := ⟨⟨by go_simp, by go_simp⟩, by go_simp, by go_simp⟩
  have hl1 : w.heap.size + 1 < ((w.alloc (.cells #[.string s, .slice (some ⟨b, off, none⟩) n c] 28)).alloc (.cells #[.string ⟨#[]⟩, .slice none 0 0] 28)).heap.size := by simp
  have HBA := Lib.hid hBA
  have HIA := Lib.hid (rings_kept hBA HI.out)
  go_enter Try.func5, Try.ntmps5
  go_wp2_with fail
  clear hBA
  generalize ((w.alloc (.cells #[.string s, .slice (some ⟨b, off, none⟩) n c] 28)).alloc (.cells #[.string ⟨#[]⟩, .slice none 0 0] 28)) = wA at *
  refine (l05Ask_any _ s _ rs h _ ⟨z0, z1⟩ (by omega) HIA.out hs).mono ?_
  rintro e w1 ⟨rfl, hb⟩
  rw [HA0.out]
  have q0 := (below_cell hb _ _ (by omega)).trans z0
  have q1 := (below_cell hb _ _ (by omega)).trans z1
  have HBL := Lib.hid (blankP_kept hb hl1 hbl)
  have hl2 := Nat.lt_of_lt_of_le hl1 hb.size
  have HI1 := Lib.hid (rings_kept hb HIA.out)
  have HB := Lib.hid (below_of HBA.out hb HBA.out.size)
  clear hb hbl z0 z1
  obtain ⟨hbl1, hcs⟩ := src_of hn.out h1 HI1.out
  have hc : ∀ i, i < n → RingIn w1 b (off + i * 3) (rs.getD i zR) := fun i hi => ring_in (fun j hj => hcs j (by rw [hn.out] at hj; exact hj)) i (by rw [hn.out]; exact hi)
  have HC := Lib.hid hc
  clear hcs hc
  have HP := Lib.hid (ask_0 HA0.out)
  have hne32 : ((n : Int) == 32) = false := by simp; omega
  go_wp2_with fail
  refine (l05At_some _ b off c n s rs h _ hn.out (by omega) ⟨q0, q1⟩ HC.out (fun i hi => prof_ring HP.out.1 i hi) HP.out.2.1 HP.out.2.2).mono ?_
  rintro e w2 ⟨⟨k, hat, rfl⟩, rfl⟩
  obtain rfl : k = j := at_unique (fun i hi => prof_ring HP.out.1 i hi) hat HAT.out
  have hkn : k < n := by have := hat.1; rw [hn.out] at this; exact this
  obtain ⟨o, ho⟩ : ∃ o, h - heights (rs.take k) = o := ⟨_, rfl⟩
  obtain ⟨⟨x, y, z⟩, hxyz⟩ : ∃ r, rs.getD k zR = r := ⟨_, rfl⟩
  have hov : 0 ≤ o ∧ o < z := by
    obtain ⟨_, a2, a3⟩ := hat
    rw [heights_next rs k (by rw [hn.out]; exact hkn), hxyz] at a3
    simp only at a3
    omega
  have hrb := ring_iff.1 (prof_ring HP.out.1 k (by rw [hn.out]; exact hkn))
  rw [hxyz] at hrb
  simp only at hrb
  have hr := HC.out k hkn
  rw [hxyz] at hr
  have e0 : w1.cell? ⟨b, off + k * 3, none⟩ = some (.int .i64 x) := hr.c0
  have e1 : w1.cell? ⟨b, off + k * 3 + 1, none⟩ = some (.int .i64 y) := hr.c1
  have e2 : w1.cell? ⟨b, off + k * 3 + 2, none⟩ = some (.int .i64 z) := hr.c2
  have HQL := Lib.hid (show splL rs h k = splF rs k (x, y, o) (x, y, z - o) by unfold splL; rw [hxyz, ho])
  have hdq := HDQ.out
  rw [hxyz, ho] at hdq
  rw [ho]
  have HXYZ := Lib.hid hxyz
  obtain ⟨ho0, ho1⟩ := hov
  have hz30 : z ≤ 300000 := by omega
  have hk1 : (k : Int) < (n : Int) := by omega
  have hk0 : (0 : Int) ≤ (k : Int) := by omega
  have hwz : IntKind.i64.wrap (z - o) = z - o := IntWalk.i64_in _ (by omega)
  clear hr hat hrb ho hxyz
  have hdd := of_decide_eq_true hdq
  simp only at hdd
  have hd1 : ¬ o < 10 := by omega
  have hd2 : decide (o < 10) = false := decide_eq_false hd1
  have hd4 : ¬ z - o < 10 := by omega
  have hd3 : decide (z - o < 10) = false := decide_eq_false hd4
  clear hdq
  have hal := below_al w1 (.cells #[.int .i64 x, .int .i64 y, .int .i64 o] 41)
  have p0 := (below_cell hal _ _ (show w.heap.size < w1.heap.size by omega)).trans q0
  have p1 := (below_cell hal _ _ (show w.heap.size < w1.heap.size by omega)).trans q1
  have HI2 := Lib.hid (rings_kept hal HI1.out)
  have HBL2 := Lib.hid (blankP_kept hal hl2 HBL.out)
  have HB2 := Lib.hid (HB.out.alloc HB.out.size (.cells #[.int .i64 x, .int .i64 y, .int .i64 o] 41))
  have hl3 := Nat.lt_trans hl2 (alloc_lt2 w1 (.cells #[.int .i64 x, .int .i64 y, .int .i64 o] 41))
  clear hal hdd
  go_wp2_with fail
  generalize w1.alloc (.cells #[.int .i64 x, .int .i64 y, .int .i64 o] 41) = wB at *
  refine (l05With_any _ s b off n c rs k x y o wB hn h1 (by omega) hnc (by omega) ⟨p0, p1⟩ (by omega) HI2).mono ?_
  rintro e w5 ⟨g, cap, rfl, hgB, hown, hb5⟩
  have HIR := Lib.hid (insR_get rs k (x, y, o) (by rw [hn.out]; exact hkn))
  have hil : (insR rs k (x, y, o)).length = n + 1 := by rw [insR_len _ _ _ (by rw [hn.out]; omega), hn.out]
  have HIL := Lib.hid hil
  obtain ⟨c0, c1, c2⟩ := own_in hil hown (k + 1) (by omega)
  rw [HIR.out, HXYZ.out] at c0 c1 c2
  have c2' : w5.cell? ⟨g, (k + 1) * 3 + 2, none⟩ = some (.int .i64 z) := c2
  have fz := hown.frozenAt ((k + 1) * 3 + 2)
  have hgl : g < w5.heap.size := (hown.lt g rfl).2
  have HST := Lib.hid (hown.stored ((k + 1) * 3 + 2) (.int .i64 (z - o))).1
  rw [i64s_set, flat_setH _ _ x y z _ (by rw [HIR.out, HXYZ.out]) (by rw [HIL.out]; omega), splF_set _ _ _ _ (by rw [hn.out]; exact hkn)] at HST
  have HBL5 := Lib.hid (blankP_kept hb5 (show w.heap.size + 1 < wB.heap.size from hl3) HBL2.out)
  have hl5 := Nat.lt_of_lt_of_le hl3 hb5.size
  have HB5 := Lib.hid (below_of HB2.out hb5 HB2.out.size)
  have hw2 : IntKind.i64.wrap ((k : Int) + 1) = (k : Int) + 1 := IntWalk.i64_in _ (by omega)
  have hk2 : (k : Int) + 1 < (n : Int) + 1 := by omega
  have hk3 : (0 : Int) ≤ (k : Int) + 1 := by omega
  have htn : ((k : Int) + 1).toNat = k + 1 := by omega
  obtain ⟨⟨b0, b1⟩, f0, f1⟩ := HBL5.out
  clear hown hb5 hil c0 c1 c2 p0 p1 e0 e1 e2 q0 q1
  have HSL := Lib.hid (show (splF rs k (x, y, o) (x, y, z - o)).length = n + 1 by rw [splF_len _ _ _ _ (by rw [hn.out]; exact hkn), hn.out])
  have hgne : w.heap.size + 1 < g := by omega
  go_wp2
  try simp only [Exit.inBlock, Exit.then]
  refine bodyPost_ret_by (v := .tuple #[.agg #[.string s, .slice (some ⟨g, 0, none⟩) (n + 1) cap], .int .i64 0]) (by rw [results_cellP rfl]; go_simp) rfl ?_
  refine ⟨_, rfl, ?_, ?_⟩
  · rw [HQL.out]
    have ge : ∀ (w1 : World) (k : Nat) (z : Value), w1.grownBy (w1.setCell ⟨w.heap.size + 1, k, none⟩ z) (some (w.heap.size + 1)) := fun w1 k z => gb_set _ _ (gb_refl w1 _)
    have h9 := ((HST.out.kept (ge _ 0 (.string s)) (.inr (by simp [Value.ownBlock]; omega))).kept (ge _ 1 (.slice (some ⟨g, 0, none⟩) (n + 1) cap)) (.inr (by simp [Value.ownBlock]; omega))).alloc (.cells #[.string s, .slice (some ⟨g, 0, none⟩) (n + 1) cap] 28)
    refine .inr ⟨g, cap, by rw [HSL.out], by omega, ?_⟩
    rw [HSL.out]
    exact row_baseR h9 (by omega)
  · exact (((HB5.out.setCell (by show _ ≤ g; omega) _).setCell (by show _ ≤ w.heap.size + 1; omega) _).setCell (by show _ ≤ w.heap.size + 1; omega) _).alloc (by simp; omega) _
theorem specSplit_any (s : ByteArray) (v : Value) (rs : List Rg) (h : Int) (w : World) (hv : RingsC w v rs) (hs : s.size ≤ maxLen) (j : Nat) (hj : askC s rs h = 0 → IsAt rs h j) :
    Calls Try.prog 5 #[.agg #[.string s, v], .int .i64 h] w (ProfU (resS s (splC s rs h j)) (resL (splL rs h j) (splC s rs h j)) (splC s rs h j) w) := by
  obtain ⟨hv, a, c, rfl, hc⟩ := hv
  by_cases h0 : askC s rs h = 0
  · obtain ⟨-, ⟨n1, n2⟩, -, -⟩ := prof_iff.1 (ask_0 h0).1
    obtain ⟨b, off, rfl⟩ : ∃ b off, a = some ⟨b, off, none⟩ := by
      obtain ⟨_, ⟨a', c', e, h0⟩ | ⟨b, off, cap, e, -, -⟩⟩ := hv
      · rw [h0] at n1; simp at n1
      · simp only [Value.slice.injEq] at e; exact ⟨b, off, e.1⟩
    by_cases h32 : rs.length = 32
    · rw [show splC s rs h j = 5 by unfold splC; rw [if_pos h0, if_pos h32]]
      exact specSplit_full s b off rs.length c rs h w h32 (Lib.hid hv) hs (Lib.hid h0)
    · rcases Bool.eq_false_or_eq_true (decide (10 ≤ h - heights (rs.take j) ∧ 10 ≤ (rs.getD j zR).2.2 - (h - heights (rs.take j)))) with hd | hd
      · rw [show splC s rs h j = 0 by unfold splC; rw [if_pos h0, if_neg h32, if_pos (of_decide_eq_true hd)]]
        exact specSplit_yes s b off rs.length c rs h w (Lib.hid rfl) n1 (by omega) hc (Lib.hid hv) hs (Lib.hid h0) j (Lib.hid (hj h0)) (Lib.hid hd)
      · rw [show splC s rs h j = 6 by unfold splC; rw [if_pos h0, if_neg h32, if_neg (of_decide_eq_false hd)]]
        exact specSplit_no s b off rs.length c rs h w (Lib.hid rfl) n1 (by omega) hc (Lib.hid hv) hs (Lib.hid h0) j (Lib.hid (hj h0)) (Lib.hid hd)
  · rw [show splC s rs h j = askC s rs h by unfold splC; rw [if_neg h0]]
    rw [show resS s (askC s rs h) = ⟨#[]⟩ by unfold resS; rw [if_neg h0], show resL (splL rs h j) (askC s rs h) = [] by unfold resL; rw [if_neg h0]]
    exact specSplit_bad s a rs.length c rs h w (Lib.hid hv) hs _ (Lib.hid rfl) (by simpa using h0)
theorem at_atF {s : ByteArray} {rs : List Rg} {h : Int} (h0 : askC s rs h = 0) : IsAt rs h (atF rs h) := by
  obtain ⟨k, hk⟩ := at_some h0
  rw [atF_is (fun i hi => prof_ring (ask_0 h0).1 i hi) hk]
  exact hk
end Go.Proofs.Ytojkijcdfnfnlab
