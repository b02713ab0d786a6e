/- A temperament read back from its text: what both walks answer; the reference model's walk. -/
import Derived.Test.YtndmakimkghihabDoorReadImplE
import Derived.Test.YtndmakimkghihabDoorValidTemp
namespace Go.Proofs.YtndmakimkghihabDoor
open Go.ChangeShapes Go.WideShapes Go.ChangeAt Go.RowKit

theorem digit_no32 (d : Nat) (h : d < 10) : UInt8.ofNat (48 + d) ≠ 32 := by
  rcases (by omega : d = 0 ∨ d = 1 ∨ d = 2 ∨ d = 3 ∨ d = 4 ∨ d = 5 ∨ d = 6 ∨ d = 7 ∨ d = 8 ∨ d = 9) with rfl | rfl | rfl | rfl | rfl | rfl | rfl | rfl | rfl | rfl <;> decide
theorem dec_no32 (u : Nat) : ∀ x ∈ Lib.decDigits u, x ≠ 32 := by
  induction u using Nat.strongRecOn with
  | ind u ih =>
    rw [Lib.decDigits]
    split
    · rename_i h
      intro x hx
      obtain rfl : x = UInt8.ofNat (48 + u) := by simpa using hx
      exact digit_no32 u h
    · intro x hx
      rcases List.mem_append.1 hx with hx | hx
      · exact ih _ (by omega) x hx
      · obtain rfl : x = UInt8.ofNat (48 + u % 10) := by simpa using hx
        exact digit_no32 _ (by omega)
theorem itoa_no32 (n : Int) : ∀ x ∈ Lib.itoa n, x ≠ 32 := by
  unfold Lib.itoa
  split
  · intro x hx
    rcases List.mem_cons.1 hx with rfl | hx
    · decide
    · exact dec_no32 _ x hx
  · exact dec_no32 _
theorem split_mem (c : UInt8) : ∀ l : List UInt8, ∀ x ∈ l, x = c ∨ ∃ p ∈ splitL c l, x ∈ p
  | [], x, h => by cases h
  | b :: l, x, h => by
    rw [splitL]
    by_cases hb : b = c
    · rw [if_pos hb]
      rcases List.mem_cons.1 h with rfl | h
      · exact .inl hb
      · rcases split_mem c l x h with h | ⟨p, hp, hx⟩
        · exact .inl h
        · exact .inr ⟨p, List.mem_cons_of_mem _ hp, hx⟩
    · rw [if_neg hb]
      cases hs : splitL c l with
      | nil => exact absurd hs (splitL_ne c l)
      | cons q t =>
        simp only [headCons]
        rcases List.mem_cons.1 h with rfl | h
        · exact .inr ⟨x :: q, List.mem_cons_self, List.mem_cons_self⟩
        · rcases split_mem c l x h with h | ⟨p, hp, hx⟩
          · exact .inl h
          · rw [hs] at hp
            rcases List.mem_cons.1 hp with rfl | hp
            · exact .inr ⟨b :: p, List.mem_cons_self, List.mem_cons_of_mem _ hx⟩
            · exact .inr ⟨p, List.mem_cons_of_mem _ hp, hx⟩
theorem numIn_no32 {p : List UInt8} {v : Int} (h : numIn p = some v) : ∀ x ∈ p, x ≠ 32 := by
  unfold numIn at h
  cases hs : specNum p with
  | none => rw [hs] at h; cases h
  | some u => rw [← num_back hs]; exact itoa_no32 u
theorem nums_each : ∀ {ps : List (List UInt8)} {zs : List Int}, numsOf ps = some zs → ∀ p ∈ ps, ∃ v, numIn p = some v
  | [], _, _, p, hp => by cases hp
  | q :: ps, zs, h, p, hp => by
    rw [numsOf] at h
    cases hq : numIn q with
    | none => rw [hq] at h; cases h
    | some v =>
      rw [hq] at h
      cases hr : numsOf ps with
      | none => rw [hr] at h; cases h
      | some us =>
        rcases List.mem_cons.1 hp with rfl | hp
        · exact ⟨v, hq⟩
        · exact nums_each hr p hp
theorem readV_no32 {l : List UInt8} {zs : List Int} (h : readV l = some zs) : ∀ x ∈ l, x ≠ 32 := by
  unfold readV at h
  by_cases h1 : l = [45]
  · subst h1; decide
  · rw [if_neg h1] at h
    by_cases h2 : 64 < (splitL 44 l).length
    · rw [if_pos h2] at h; cases h
    · rw [if_neg h2] at h
      intro x hx
      rcases split_mem 44 l x hx with rfl | ⟨p, hp, hxp⟩
      · decide
      · obtain ⟨v, hv⟩ := nums_each h p hp
        exact numIn_no32 hv x hxp
theorem readV_nil : readV [] = none := by decide +kernel

/-- The text s is that of a valid temperament with this name and these numbers. -/
def TemRd (s nm : ByteArray) (zs : List Int) : Prop := ∃ rest, splitL 32 s.data.toList = [nm.data.toList, rest] ∧ readV rest = some zs ∧ tempB nm zs = true
theorem tem_one {s nm nm' : ByteArray} {zs zs' : List Int} (h : TemRd s nm zs) (g : TemRd s nm' zs') : nm = nm' ∧ zs = zs' := by
  obtain ⟨r, h1, h2, -⟩ := h
  obtain ⟨r', g1, g2, -⟩ := g
  rw [h1] at g1
  simp only [List.cons.injEq, and_true] at g1
  obtain ⟨e1, rfl⟩ := g1
  exact ⟨bytes_same e1, Option.some.inj (h2.symm.trans g2)⟩
def TemPost (s : ByteArray) (w : World) (en : Ending) (w' : World) : Prop := Below w.heap.size w w' ∧
  ((∃ nm zs v, TemRd s nm zs ∧ en = .returned (.tuple #[.agg #[.string nm, v], .bool true]) ∧ OwnInts w' w.heap.size v zs) ∨ ((∀ nm zs, ¬ TemRd s nm zs) ∧ en = .returned (.tuple #[.agg #[.string ⟨#[]⟩, .slice none 0 0], .bool false])))
/-- Block g holds no temperament yet, and may be written. -/
def Blank (w : World) (g : Nat) : Prop := (w.cell? ⟨g, 0, none⟩ = some (.string ⟨#[]⟩) ∧ w.cell? ⟨g, 1, none⟩ = some (.slice none 0 0)) ∧ w.frozen? ⟨g, 0, none⟩ = false ∧ w.frozen? ⟨g, 1, none⟩ = false
theorem blank_kept {w w' : World} {B g : Nat} (hb : Below B w w') (hg : g < B) (h : Blank w g) : Blank w' g :=
  ⟨⟨by rw [hb.cell (p := ⟨g, 0, none⟩) hg]; exact h.1.1, by rw [hb.cell (p := ⟨g, 1, none⟩) hg]; exact h.1.2⟩, by rw [hb.frozen (p := ⟨g, 0, none⟩) hg]; exact h.2.1, by rw [hb.frozen (p := ⟨g, 1, none⟩) hg]; exact h.2.2⟩
theorem blank_alloc (w : World) (T : TypeId) : Blank (w.alloc (.cells #[.string ⟨#[]⟩, .slice none 0 0] T)) w.heap.size := ⟨⟨by go_simp, by go_simp⟩, by go_simp, by go_simp⟩
theorem alloc_lt (w : World) (o : Obj) : w.heap.size < (w.alloc o).heap.size := by show _ < (w.heap.push o).size; rw [Array.size_push]; omega
theorem own_store {w : World} {B : Nat} {v : Value} {zs : List Int} (h : OwnInts w B v zs) (g o : Nat) (x : Value) (hg : g < B) : OwnInts (w.setCell ⟨g, o, none⟩ x) B v zs := by
  obtain ⟨b, cap, rfl, h1, h2, h3⟩ := h
  exact ⟨b, cap, rfl, h1, by simpa using h2, ownsRow_setCell_below h3 (by show g < B; exact hg) x⟩
theorem own_base {w : World} {B B' : Nat} {v : Value} {zs : List Int} (h : OwnInts w B v zs) (hB : B' ≤ B) : OwnInts w B' v zs := by
  obtain ⟨b, cap, rfl, h1, h2, h3⟩ := h
  exact ⟨b, cap, rfl, by omega, h2, row_base h3 hB⟩

set_option maxRecDepth 100000 in
set_option maxHeartbeats 4000000 in
theorem specTemRead_any (s : ByteArray) (w : World) (hs : s.size ≤ 1048576) :
    Calls Tryd.prog 29 #[.string s] w (TemPost s w) := by
  go_enter Tryd.func29, Tryd.ntmps29
  go_wp2_with fail
  have hc0 := blank_alloc w 46
  have hcl := alloc_lt w (.cells #[.string ⟨#[]⟩, .slice none 0 0] 46)
  have HBA := Lib.hid ((Below.refl w.heap.size w).alloc (Nat.le_refl _) (.cells #[.string ⟨#[]⟩, .slice none 0 0] 46))
  generalize w.alloc (.cells #[.string ⟨#[]⟩, .slice none 0 0] 46) = wA at *
  refine (split_any s 32 _ hs).mono ?_
  rintro en w1 ⟨v, ps, rfl, hps, ⟨g1, c1, rfl, hB1, hlt1, hown1⟩, hb1⟩
  obtain ⟨n, hn⟩ : ∃ n, ps.length = n := ⟨_, rfl⟩
  rw [hn] at hown1 ⊢
  have HN := Lib.hid hn
  have HPS := Lib.hid hps
  have HO1 := Lib.hid hown1
  have HC1 := Lib.hid (blank_kept hb1 hcl hc0)
  have HB1 := Lib.hid (below_of HBA.out hb1 HBA.out.size)
  have hcl1 : w.heap.size < w1.heap.size := Nat.lt_of_lt_of_le hcl hb1.size
  clear hps hown1 hb1 hn hc0
  by_cases h2 : n = 2
  · subst h2
    obtain ⟨p0, p1, rfl⟩ : ∃ p0 p1, ps = [p0, p1] := by
      match ps, HN.out with
      | [p0, p1], _ => exact ⟨_, _, rfl⟩
    have hc00 : w1.cell? ⟨g1, 0, none⟩ = some (.string p0) := strs_cell (ss := [p0, p1]) (n := 2) rfl HO1.out 0 (by decide)
    have hc01 : w1.cell? ⟨g1, 1, none⟩ = some (.string p1) := strs_cell (ss := [p0, p1]) (n := 2) rfl HO1.out 1 (by decide)
    have q0 : p0.size ≤ s.size := part_size HPS.out 0 (by simp)
    have q1 : p1.size ≤ s.size := part_size HPS.out 1 (by simp)
    go_wp2_with fail
    refine (specReadList_any p1 _ (by omega)).mono ?_
    rintro en w2 ⟨hb2, ⟨hv, rfl⟩ | ⟨zs, v, hv, hl64, rfl, hown⟩⟩
    · have HNO := Lib.hid (show ∀ nm zs, ¬ TemRd s nm zs by
        rintro nm zs ⟨r, h1, h2, -⟩
        rw [← HPS.out] at h1
        simp only [List.map_cons, List.map_nil, List.cons.injEq, and_true] at h1
        rw [← h1.2, hv] at h2; cases h2)
      have hcell : w2.cell? ⟨g1, 0, none⟩ = some (.string p0) := by rw [below_cell hb2 _ _ hlt1]; exact hc00
      have hA := (Below.refl w2.heap.size w2).alloc (Nat.le_refl _) (.cells #[.string p0, .slice none 0 0] 46)
      have hcl2 : w.heap.size < w2.heap.size := Nat.lt_of_lt_of_le hcl1 hb2.size
      obtain ⟨⟨z0, z1⟩, f0, f1⟩ := blank_kept hb2 hcl1 HC1.out
      have HB2 := Lib.hid (below_of HB1.out hb2 HB1.out.size)
      clear hb2 hA hv
      go_wp2
      try simp only [Exit.inBlock, Exit.then]
      refine bodyPost_ret_by (v := .tuple #[.agg #[.string ⟨#[]⟩, .slice none 0 0], .bool false]) (by rw [results_cell_tmp rfl]; go_simp) rfl ?_
      exact ⟨((HB2.out.setCell (Nat.le_refl _) _).setCell (Nat.le_refl _) _).alloc (by simpa using HB2.out.size) _, .inr ⟨HNO.out, rfl⟩⟩
    · obtain ⟨g2, c2, rfl, hg2, hg2l, hrow⟩ := hown
      have HR2 := Lib.hid (show OwnInts w2 w1.heap.size (.slice (some ⟨g2, 0, none⟩) zs.length c2) zs from ⟨g2, c2, rfl, hg2, hg2l, hrow⟩)
      obtain ⟨m, hm⟩ : ∃ m, zs.length = m := ⟨_, rfl⟩
      rw [hm] at HR2 hl64 ⊢
      have hcell : w2.cell? ⟨g1, 0, none⟩ = some (.string p0) := by rw [below_cell hb2 _ _ hlt1]; exact hc00
      have hA := (Below.refl w2.heap.size w2).alloc (Nat.le_refl _) (.cells #[.string p0, .slice (some ⟨g2, 0, none⟩) m c2] 46)
      have hcl2 : w.heap.size < w2.heap.size := Nat.lt_of_lt_of_le hcl1 hb2.size
      have HX := Lib.hid (blank_kept hb2 hcl1 HC1.out)
      have HR3 := Lib.hid (own_kept hA HR2.out)
      have HB2 := Lib.hid (below_of HB1.out hb2 HB1.out.size)
      have HTI := Lib.hid (show TempIn (w2.alloc (.cells #[.string p0, .slice (some ⟨g2, 0, none⟩) m c2] 46)) w2.heap.size p0 (.slice (some ⟨g2, 0, none⟩) m c2) zs from ⟨by go_simp, by go_simp, own_ints (by omega) HR3.out⟩)
      have HV := Lib.hid hv
      clear hb2 hA hrow hv hm
      go_wp2_with fail
      refine (l03Ok_any p0 _ zs w2.heap.size _ HTI.out (by omega)).mono ?_
      rintro en w3 ⟨rfl, rfl⟩
      obtain ⟨⟨z0, z1⟩, f0, f1⟩ := HX.out
      rcases Bool.eq_false_or_eq_true (tempB p0 zs) with ht | ht
      · have HT := Lib.hid ht
        rw [ht]
        go_wp2
        try simp only [Exit.inBlock, Exit.then]
        refine bodyPost_ret_by (v := .tuple #[.agg #[.string p0, .slice (some ⟨g2, 0, none⟩) m c2], .bool true]) (by rw [results_cell_tmp rfl]; go_simp) rfl ?_
        refine ⟨((HB2.out.setCell (Nat.le_refl _) _).setCell (Nat.le_refl _) _).alloc (by simpa using HB2.out.size) _, .inl ⟨p0, zs, _, ⟨_, HPS.out.symm, HV.out, HT.out⟩, rfl, ?_⟩⟩
        exact own_base (own_kept ((Below.refl _ _).alloc (Nat.le_refl _) _) (own_store (own_store HR2.out _ _ _ hcl1) _ _ _ hcl1)) (by omega)
      · have HNO := Lib.hid (show ∀ nm zs, ¬ TemRd s nm zs by
          rintro nm zs' ⟨r, h1, h2, h3⟩
          rw [← HPS.out] at h1
          simp only [List.map_cons, List.map_nil, List.cons.injEq, and_true] at h1
          rw [← h1.2, HV.out] at h2
          obtain rfl := Option.some.inj h2
          rw [← bytes_same h1.1, ht] at h3; cases h3)
        rw [ht]
        go_wp2
        try simp only [Exit.inBlock, Exit.then]
        refine bodyPost_ret_by (v := .tuple #[.agg #[.string ⟨#[]⟩, .slice none 0 0], .bool false]) (by rw [results_cell_tmp rfl]; go_simp) rfl ?_
        exact ⟨((HB2.out.setCell (Nat.le_refl _) _).setCell (Nat.le_refl _) _).alloc (by simpa using HB2.out.size) _, .inr ⟨HNO.out, rfl⟩⟩
  · have HNO := Lib.hid (show ∀ nm zs, ¬ TemRd s nm zs by
      rintro nm zs ⟨r, h1, -, -⟩
      rw [← HPS.out] at h1
      have := congrArg List.length h1
      rw [List.length_map, HN.out] at this
      exact h2 this)
    have hne : ((n : Int) != 2) = true := by simp; omega
    obtain ⟨⟨z0, z1⟩, f0, f1⟩ := HC1.out
    clear h2
    go_wp2
    try simp only [Exit.inBlock, Exit.then]
    refine bodyPost_ret_by (v := .tuple #[.agg #[.string ⟨#[]⟩, .slice none 0 0], .bool false]) (by rw [results_cell_tmp rfl]; go_simp) rfl ?_
    exact ⟨(HB1.out.setCell (Nat.le_refl _) _).setCell (Nat.le_refl _) _, .inr ⟨HNO.out, rfl⟩⟩
end Go.Proofs.YtndmakimkghihabDoor
