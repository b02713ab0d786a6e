/- An ingot read back from its text: the mathematics, and the reference model. -/
import Derived.Test.YtikoehjalcljnaaDoorIngI
import Derived.Test.YtikoehjalcljnaaDoorReadSpec
import Derived.Deep.RegionHeld3
set_option linter.unusedVariables false
namespace Go.Proofs.YtikoehjalcljnaaDoor
open Go.ChangeShapes Go.WideShapes Go.ChangeAt Go.RowKit Go.Deep

theorem digit_no32 (d : Nat) (h : d < 10) : UInt8.ofNat (48 + d) ≠ 32 := by
  rcases (by omega : d = 0 ∨ d = 1 ∨ d = 2 ∨ d = 3 ∨ d = 4 ∨ d = 5 ∨ d = 6 ∨ d = 7 ∨ d = 8 ∨ d = 9) with rfl | rfl | rfl | rfl | rfl | rfl | rfl | rfl | rfl | rfl <;> decide
theorem dec_no32 (u : Nat) : ∀ x ∈ Lib.decDigits u, x ≠ 32 := by
  induction u using Nat.strongRecOn with
  | ind u ih =>
    rw [Lib.decDigits]
    split
    · rename_i h
      intro x hx
      obtain rfl : x = UInt8.ofNat (48 + u) := by simpa using hx
      exact digit_no32 u h
    · intro x hx
      rcases List.mem_append.1 hx with hx | hx
      · exact ih _ (by omega) x hx
      · obtain rfl : x = UInt8.ofNat (48 + u % 10) := by simpa using hx
        exact digit_no32 _ (by omega)
theorem itoa_no32 (n : Int) : ∀ x ∈ Lib.itoa n, x ≠ 32 := by
  unfold Lib.itoa
  split
  · intro x hx
    rcases List.mem_cons.1 hx with rfl | hx
    · decide
    · exact dec_no32 _ x hx
  · exact dec_no32 _
theorem num_textG {l : List UInt8} {u : Int} (h : specNum l = some u) : Lib.itoa u = l := by
  rw [← impl_spec] at h
  unfold implNum at h
  split at h
  · cases h
  · split at h
    · split at h
      · rename_i h2
        obtain rfl := Option.some.inj h
        exact h2
      · cases h
    · cases h
theorem num_no32 {l : List UInt8} {u : Int} (h : specNum l = some u) : ∀ x ∈ l, x ≠ 32 := by
  rw [← num_textG h]; exact itoa_no32 u
theorem numIn_no32 {l : List UInt8} {u : Int} (h : numIn l = some u) : ∀ x ∈ l, x ≠ 32 := by
  unfold numIn at h
  cases hs : specNum l with
  | none => rw [hs] at h; cases h
  | some v => exact num_no32 hs
theorem nums_no32 : ∀ (ps : List (List UInt8)) (zs : List Int), numsOf ps = some zs → ∀ p ∈ ps, ∀ x ∈ p, x ≠ 32
  | [], _, _, p, hp => by simp at hp
  | q :: r, zs, h, p, hp => by
    rw [numsOf] at h
    cases hq : numIn q with
    | none => rw [hq] at h; cases h
    | some v =>
      cases hr : numsOf r with
      | none => rw [hq, hr] at h; cases h
      | some vs =>
        rcases List.mem_cons.1 hp with rfl | hp
        · exact numIn_no32 hq
        · exact nums_no32 r vs hr p hp
theorem splitL_mem (c : UInt8) : ∀ (l : List UInt8) (x : UInt8), x ∈ l → x = c ∨ ∃ p ∈ splitL c l, x ∈ p
  | [], x, h => by simp at h
  | b :: l, x, h => by
    rw [splitL]
    by_cases hb : b = c
    · rw [if_pos hb]
      rcases List.mem_cons.1 h with rfl | h
      · exact .inl hb
      · rcases splitL_mem c l x h with h | ⟨p, hp, hx⟩
        · exact .inl h
        · exact .inr ⟨p, List.mem_cons_of_mem _ hp, hx⟩
    · rw [if_neg hb]
      obtain ⟨q, t, hq⟩ : ∃ q t, splitL c l = q :: t := by
        cases hs : splitL c l with
        | nil => exact absurd hs (splitL_ne c l)
        | cons q t => exact ⟨q, t, rfl⟩
      rw [hq]
      rcases List.mem_cons.1 h with rfl | h
      · exact .inr ⟨_, List.mem_cons_self, by simp⟩
      · rcases splitL_mem c l x h with h | ⟨p, hp, hx⟩
        · exact .inl h
        · rw [hq] at hp
          rcases List.mem_cons.1 hp with rfl | hp
          · exact .inr ⟨_, List.mem_cons_self, List.mem_cons_of_mem _ hx⟩
          · exact .inr ⟨p, List.mem_cons_of_mem _ hp, hx⟩
theorem read_no32 {l : List UInt8} {zs : List Int} (h : readV l = some zs) : ∀ x ∈ l, x ≠ 32 := by
  unfold readV at h
  split at h
  · rename_i h2
    subst h2
    intro x hx
    obtain rfl : x = 45 := by simpa using hx
    decide
  · split at h
    · cases h
    · intro x hx
      rcases splitL_mem 44 l x hx with rfl | ⟨p, hp, hx⟩
      · decide
      · exact nums_no32 _ _ h p hp x hx
theorem read_nil : readV [] = none := by
  unfold readV
  rw [if_neg (by simp), if_neg (by simp [splitL])]
  show numsOf [[]] = none
  rw [numsOf]
  have : numIn [] = none := by unfold numIn; rw [show specNum [] = none from spec_empty (s := ⟨#[]⟩) rfl]; rfl
  rw [this]; rfl

def rgNo : Value := .tuple #[.agg #[.string ⟨#[]⟩, .int .i64 0, .int .i64 0, .int .i64 0, .int .i64 0], .bool false]
def rgYes (r : Gt) : Value := .tuple #[.agg #[.string r.1, .int .i64 r.2.1, .int .i64 r.2.2.1, .int .i64 r.2.2.2.1, .int .i64 r.2.2.2.2], .bool true]
def rgV (r : Gt) : Value := if ingB r = true then rgYes r else rgNo
def rgB (nm : ByteArray) (r : Option (List Int)) : Value := match r with | some [a, x, y, z] => rgV (nm, a, x, y, z) | _ => rgNo
def rgA (l : List (List UInt8)) : Value := match l with | [a, b] => rgB ⟨a.toArray⟩ (readV b) | _ => rgNo
theorem rgB_form (nm : ByteArray) (r : Option (List Int)) : ∃ (s : ByteArray) (a x y z : Int) (o : Bool), rgB nm r = .tuple #[.agg #[.string s, .int .i64 a, .int .i64 x, .int .i64 y, .int .i64 z], .bool o] := by
  unfold rgB
  split
  · unfold rgV
    split
    · exact ⟨_, _, _, _, _, _, rfl⟩
    · exact ⟨_, _, _, _, _, _, rfl⟩
  · exact ⟨_, _, _, _, _, _, rfl⟩
theorem rgA_form (l : List (List UInt8)) : ∃ (s : ByteArray) (a x y z : Int) (o : Bool), rgA l = .tuple #[.agg #[.string s, .int .i64 a, .int .i64 x, .int .i64 y, .int .i64 z], .bool o] := by
  unfold rgA
  split
  · exact rgB_form _ _
  · exact ⟨_, _, _, _, _, _, rfl⟩
theorem rgA_two (p0 p1 : ByteArray) : rgA ([p0, p1].map (·.data.toList)) = rgB p0 (readV p1.data.toList) := rfl
theorem rgA_not {l : List (List UInt8)} (h : l.length ≠ 2) : rgA l = rgNo := by
  unfold rgA
  split
  · exact absurd rfl h
  · rfl
theorem rgB_none (nm : ByteArray) : rgB nm none = rgNo := rfl
theorem rgB_not {nm : ByteArray} {zs : List Int} (h : zs.length ≠ 4) : rgB nm (some zs) = rgNo := by
  unfold rgB
  split
  · rename_i e
    obtain rfl := Option.some.inj e
    exact absurd rfl h
  · rfl
theorem rgB_four (nm : ByteArray) (a x y z : Int) : rgB nm (some [a, x, y, z]) = rgV (nm, a, x, y, z) := rfl
theorem cut_at (l : List UInt8) : (Lib.cut l [32] = (l, [], false) ∧ splitL 32 l = [l]) ∨ (∃ i, Lib.cut l [32] = (l.take i, l.drop (i + 1), true) ∧ splitL 32 l = l.take i :: splitL 32 (l.drop (i + 1))) := by
  obtain ⟨h1, h2⟩ := splitL_index 32 l
  by_cases hi : 0 ≤ Lib.index l [32]
  · obtain ⟨i, hi2⟩ := Int.eq_ofNat_of_zero_le hi
    refine .inr ⟨i, ?_, h2 i hi2⟩
    unfold Lib.cut
    rw [if_pos hi, hi2]; rfl
  · have hm : Lib.index l [32] = -1 := by have := Lib.index_ge l [32]; omega
    refine .inl ⟨?_, h1 hm⟩
    unfold Lib.cut
    rw [if_neg hi]
theorem cut_len (l : List UInt8) : (Lib.cut l [32]).1.length ≤ l.length ∧ (Lib.cut l [32]).2.1.length ≤ l.length := by
  rcases cut_at l with ⟨e, -⟩ | ⟨i, e, -⟩
  · rw [e]; simp
  · rw [e]; simp only [List.length_take, List.length_drop]; omega
theorem rg_cut (l : List UInt8) : rgB ⟨(Lib.cut l [32]).1.toArray⟩ (readV (Lib.cut l [32]).2.1) = rgA (splitL 32 l) := by
  rcases cut_at l with ⟨e, hs⟩ | ⟨i, e, hs⟩
  · rw [e, hs]
    simp only [read_nil]
    rfl
  · rw [e, hs]
    simp only []
    generalize l.take i = a
    generalize l.drop (i + 1) = c
    cases hr : readV c with
    | some zs =>
      rw [splitL_none 32 c (read_no32 hr)]
      show _ = rgB _ (readV c)
      rw [hr]
    | none =>
      rw [rgB_none]
      by_cases hl : (splitL 32 c).length = 1
      · obtain ⟨d, hd⟩ : ∃ d, splitL 32 c = [d] := by
          match splitL 32 c, hl with
          | [d], _ => exact ⟨d, rfl⟩
        have hc : d = c := by
          rcases cut_at c with ⟨-, h⟩ | ⟨m, -, h⟩
          · rw [h] at hd; exact (List.cons.inj hd).1.symm
          · rw [h] at hd
            exact absurd (List.cons.inj hd).2 (splitL_ne _ _)
        subst hc
        rw [hd]
        show rgNo = rgB _ (readV d)
        rw [hr]
        rfl
      · rw [rgA_not (by simp only [List.length_cons]; omega)]
theorem list_two {ps : List ByteArray} (h : ps.length = 2) : ∃ a b, ps = [a, b] := by
  match ps, h with
  | [a, b], _ => exact ⟨_, _, rfl⟩
theorem list_four {ps : List Int} (h : ps.length = 4) : ∃ a b c e, ps = [a, b, c, e] := by
  match ps, h with
  | [a, b, c, e], _ => exact ⟨_, _, _, _, rfl⟩
theorem part2G {s p0 p1 : ByteArray} (h : [p0, p1].map (·.data.toList) = splitL 32 s.data.toList) : p0.size ≤ s.size ∧ p1.size ≤ s.size := by
  have hA : ∀ p ∈ splitL 32 s.data.toList, p.length ≤ s.size := fun p hp => by have := splitL_part 32 _ p hp; rw [size_list] at this; exact this
  rw [← h] at hA
  simp only [List.map_cons, List.map_nil, List.mem_cons, List.not_mem_nil, or_false] at hA
  have h0 := hA _ (.inl rfl)
  have h1 := hA _ (.inr rfl)
  rw [size_list] at h0 h1
  exact ⟨h0, h1⟩
/-- Block g holds an ingot, and may be written. -/
def IngF (w : World) (g : Nat) (r : Gt) : Prop := GBlk w g r ∧ w.frozen? ⟨g, 0, none⟩ = false ∧ w.frozen? ⟨g, 1, none⟩ = false ∧ w.frozen? ⟨g, 2, none⟩ = false ∧ w.frozen? ⟨g, 3, none⟩ = false ∧ w.frozen? ⟨g, 4, none⟩ = false
theorem ingF_kept {w w' : World} {B g : Nat} {r : Gt} (hb : Below B w w') (hg : g < B) (h : IngF w g r) : IngF w' g r :=
  ⟨⟨by rw [hb.cell (p := ⟨g, 0, none⟩) hg]; exact h.1.c0, by rw [hb.cell (p := ⟨g, 0 + 1, none⟩) hg]; exact h.1.c1, by rw [hb.cell (p := ⟨g, 0 + 2, none⟩) hg]; exact h.1.c2, by rw [hb.cell (p := ⟨g, 0 + 3, none⟩) hg]; exact h.1.c3, by rw [hb.cell (p := ⟨g, 0 + 4, none⟩) hg]; exact h.1.c4⟩,
    by rw [hb.frozen (p := ⟨g, 0, none⟩) hg]; exact h.2.1, by rw [hb.frozen (p := ⟨g, 1, none⟩) hg]; exact h.2.2.1, by rw [hb.frozen (p := ⟨g, 2, none⟩) hg]; exact h.2.2.2.1, by rw [hb.frozen (p := ⟨g, 3, none⟩) hg]; exact h.2.2.2.2.1, by rw [hb.frozen (p := ⟨g, 4, none⟩) hg]; exact h.2.2.2.2.2⟩
theorem ingF_alloc (w : World) (s : ByteArray) (a x y z : Int) (T : TypeId) : IngF (w.alloc (.cells #[.string s, .int .i64 a, .int .i64 x, .int .i64 y, .int .i64 z] T)) w.heap.size (s, a, x, y, z) :=
  ⟨Gblk_new w (s, a, x, y, z) T, by go_simp, by go_simp, by go_simp, by go_simp, by go_simp⟩
theorem below_aldG (w : World) (o : Obj) : Below w.heap.size w (w.alloc o).drew := (let h := below_alG w o; ⟨h.os, h.tape, h.output, h.size, h.block⟩)
theorem ret_valG {a b : Value} (h : a = b) : Ending.returned a = .returned b := by rw [h]
theorem strs_atG {w : World} {B g cap n : Nat} {ss : List ByteArray} (hn : ss.length = n) (hown : w.ownsRow B 9 1 (.slice (some ⟨g, 0, none⟩) n cap) n (strVs ss)) (j : Nat) (hj : j < n) : w.cell? ⟨g, j, none⟩ = some (.string (ss.getD j ByteArray.empty)) := by
  rw [hown.cellAt j (by omega)]
  simp [strVs, List.getD, show j < ss.length by omega]
set_option maxRecDepth 100000 in
set_option maxHeartbeats 4000000 in
theorem l13Read_any (s : ByteArray) (w : World) (hs : s.size ≤ 1048576) :
    Calls Tryd.prog 29 #[.string s] w fun en w' => en = .returned (rgA (splitL 32 s.data.toList)) ∧ Below w.heap.size w w' := by
  obtain ⟨V, hV⟩ : ∃ V, rgA (splitL 32 s.data.toList) = V := ⟨_, rfl⟩
  rw [hV]
  have HVA0 := Lib.hid hV
  clear hV
  go_enter Tryd.func29, Tryd.ntmps29
  go_wp2_with fail
  have hc0 := ingF_alloc w ⟨#[]⟩ 0 0 0 0 36
  have hcl := alloc_ltG w (.cells #[.string ⟨#[]⟩, .int .i64 0, .int .i64 0, .int .i64 0, .int .i64 0] 36)
  have HBA := Lib.hid (below_alG w (.cells #[.string ⟨#[]⟩, .int .i64 0, .int .i64 0, .int .i64 0, .int .i64 0] 36))
  generalize w.alloc (.cells #[.string ⟨#[]⟩, .int .i64 0, .int .i64 0, .int .i64 0, .int .i64 0] 36) = wA at *
  refine (split_any s 32 _ hs).mono ?_
  rintro en w1 ⟨v, ps, rfl, hps, ⟨g1, c1, rfl, hB1, hlt1, hown1⟩, hb1⟩
  obtain ⟨n, hn⟩ : ∃ n, ps.length = n := ⟨_, rfl⟩
  rw [hn] at hown1 ⊢
  have HN := Lib.hid hn
  have HPS := Lib.hid hps
  have HO1 := Lib.hid hown1
  have HX1 := Lib.hid (ingF_kept hb1 hcl hc0)
  have HB1 := Lib.hid (below_of HBA.out hb1 HBA.out.size)
  have hcl1 : w.heap.size < w1.heap.size := Nat.lt_of_lt_of_le hcl hb1.size
  clear hps hown1 hb1 hn hc0
  by_cases h2 : n = 2
  · subst h2
    obtain ⟨p0, p1, rfl⟩ := list_two HN.out
    obtain ⟨zz0, zz1⟩ := part2G HPS.out
    have d0 : w1.cell? ⟨g1, 0, none⟩ = some (.string p0) := strs_atG rfl HO1.out 0 (by simp)
    have d1 : w1.cell? ⟨g1, 1, none⟩ = some (.string p1) := strs_atG rfl HO1.out 1 (by simp)
    have HVA := Lib.hid (show V = rgB p0 (readV p1.data.toList) by rw [← HVA0.out, ← HPS.out]; exact rgA_two p0 p1)
    clear HVA0 HPS HN HO1
    have hz0 : p0.size ≤ maxLen := by unfold maxLen; omega
    go_wp2_with fail
    refine (specReadList_any p1 _ (by omega)).mono ?_
    rintro en w2 ⟨hb2, ⟨hr, rfl⟩ | ⟨zs, v2, hr, hz64, rfl, g2, c2, rfl, hB2, hlt2, hown2⟩⟩
    · have HR2 := Lib.hid (show rgNo = V by rw [HVA.out, hr]; rfl)
      have HX2 := Lib.hid (ingF_kept hb2 hcl1 HX1.out)
      have HB2 := Lib.hid (below_of HB1.out hb2 HB1.out.size)
      clear hb2 d0 d1 HVA hr
      obtain ⟨⟨x0, x1, x2, x3, x4⟩, y0, y1, y2, y3, y4⟩ := HX2.out
      simp only [Nat.zero_add] at x0 x1 x2 x3 x4
      go_wp2
      try simp only [Exit.inBlock, Exit.then]
      refine bodyPost_ret_by (v := rgNo) (by rw [results_cell_tmp rfl]; unfold rgNo; go_simp) rfl ?_
      exact ⟨ret_valG HR2.out, (((((HB2.out.setCell (Nat.le_refl _) _).setCell (Nat.le_refl _) _).setCell (Nat.le_refl _) _).setCell (Nat.le_refl _) _).setCell (Nat.le_refl _) _)⟩
    · have HRD := Lib.hid hr
      have e0 := (below_cell hb2 g1 0 hlt1).trans d0
      have hlg1 := Nat.lt_of_lt_of_le hlt1 hb2.size
      have hcl2 := Nat.lt_of_lt_of_le hcl1 hb2.size
      have HX2 := Lib.hid (ingF_kept hb2 hcl1 HX1.out)
      have HB2 := Lib.hid (below_of HB1.out hb2 HB1.out.size)
      clear hb2 d0 d1 hr
      by_cases h4 : zs.length = 4
      · obtain ⟨a, x, y, z, rfl⟩ := list_four h4
        have HVB := Lib.hid (show V = rgV (p0, a, x, y, z) by rw [HVA.out, HRD.out]; rfl)
        have q0 : w2.cell? ⟨g2, 0, none⟩ = some (.int .i64 a) := hown2.cellAt 0 (by simp)
        have q1 : w2.cell? ⟨g2, 1, none⟩ = some (.int .i64 x) := hown2.cellAt 1 (by simp)
        have q2 : w2.cell? ⟨g2, 2, none⟩ = some (.int .i64 y) := hown2.cellAt 2 (by simp)
        have q3 : w2.cell? ⟨g2, 3, none⟩ = some (.int .i64 z) := hown2.cellAt 3 (by simp)
        simp only [List.length_cons, List.length_nil, Nat.zero_add, Nat.reduceAdd]
        clear HVA HRD h4 hown2
        have hAL := below_alG w2 (.cells #[.string p0, .int .i64 a, .int .i64 x, .int .i64 y, .int .i64 z] 36)
        have HS0 := Lib.hid (show (fun w' => w'.cell? ⟨g1, 0, none⟩ = some (.string p0) ∧ w'.cell? ⟨g2, 0, none⟩ = some (.int .i64 a) ∧ w'.cell? ⟨g2, 1, none⟩ = some (.int .i64 x) ∧ w'.cell? ⟨g2, 2, none⟩ = some (.int .i64 y) ∧ w'.cell? ⟨g2, 3, none⟩ = some (.int .i64 z) ∧ Below w2.heap.size w2 w') w2.drew from ⟨e0, q0, q1, q2, q3, ⟨rfl, rfl, rfl, Nat.le_refl _, fun _ _ => rfl⟩⟩)
        have HSK := Lib.hid (show ∀ W, Below w2.heap.size w2 W → W.cell? ⟨g1, 0, none⟩ = some (.string p0) ∧ W.cell? ⟨g2, 0, none⟩ = some (.int .i64 a) ∧ W.cell? ⟨g2, 1, none⟩ = some (.int .i64 x) ∧ W.cell? ⟨g2, 2, none⟩ = some (.int .i64 y) ∧ W.cell? ⟨g2, 3, none⟩ = some (.int .i64 z) ∧ Below w2.heap.size w2 W from fun W hW => ⟨(below_cell hW _ _ hlg1).trans e0, (below_cell hW _ _ hlt2).trans q0, (below_cell hW _ _ hlt2).trans q1, (below_cell hW _ _ hlt2).trans q2, (below_cell hW _ _ hlt2).trans q3, hW⟩)
        go_wp2
        go_region_held3 (fun w' => w'.cell? ⟨g1, 0, none⟩ = some (.string p0) ∧ w'.cell? ⟨g2, 0, none⟩ = some (.int .i64 a) ∧ w'.cell? ⟨g2, 1, none⟩ = some (.int .i64 x) ∧ w'.cell? ⟨g2, 2, none⟩ = some (.int .i64 y) ∧ w'.cell? ⟨g2, 3, none⟩ = some (.int .i64 z) ∧ Below w2.heap.size w2 w')
          (first | exact HS0.out | (refine HSK.out _ ?_; repeat (first | with_reducible exact below_aldG _ _ | with_reducible exact below_alG _ _ | refine Below.setCell ?_ (Nat.le_refl _) _)) | assumption)
          (fail)
        have HX5 := Lib.hid (show IngF (w2.alloc (.cells #[.string p0, .int .i64 a, .int .i64 x, .int .i64 y, .int .i64 z] 36)).drew w.heap.size (⟨#[]⟩, 0, 0, 0, 0) from ingF_kept (below_aldG w2 (.cells #[.string p0, .int .i64 a, .int .i64 x, .int .i64 y, .int .i64 z] 36)) hcl2 HX2.out)
        have HM5 := Lib.hid (show IngF (w2.alloc (.cells #[.string p0, .int .i64 a, .int .i64 x, .int .i64 y, .int .i64 z] 36)).drew w2.heap.size (p0, a, x, y, z) from (let h := ingF_alloc w2 p0 a x y z 36; ⟨⟨h.1.c0, h.1.c1, h.1.c2, h.1.c3, h.1.c4⟩, h.2⟩))
        have HB5 := Lib.hid (below_of HB2.out (below_aldG w2 (.cells #[.string p0, .int .i64 a, .int .i64 x, .int .i64 y, .int .i64 z] 36)) HB2.out.size)
        have hl5 : w2.heap.size < (w2.alloc (.cells #[.string p0, .int .i64 a, .int .i64 x, .int .i64 y, .int .i64 z] 36)).drew.heap.size := alloc_ltG w2 (.cells #[.string p0, .int .i64 a, .int .i64 x, .int .i64 y, .int .i64 z] 36)
        have hcl5 : w.heap.size < (w2.alloc (.cells #[.string p0, .int .i64 a, .int .i64 x, .int .i64 y, .int .i64 z] 36)).drew.heap.size := Nat.lt_trans hcl2 hl5
        clear HS0 HSK hAL q0 q1 q2 q3 e0
        generalize (w2.alloc (.cells #[.string p0, .int .i64 a, .int .i64 x, .int .i64 y, .int .i64 z] 36)).drew = w5 at *
        rcases Bool.eq_false_or_eq_true (ingB (p0, a, x, y, z)) with hv | hv
        · have HV := Lib.hid hv
          have HR2 := Lib.hid (show rgYes (p0, a, x, y, z) = V by rw [HVB.out]; unfold rgV; rw [if_pos hv])
          clear hv
          have HM5B := HM5
          skip
          go_wp2_with fail
          skip
          refine (l13One_any w2.heap.size 0 p0 a x y z _ HM5.out.1 hz0).mono ?_
          rintro en w6 ⟨rfl, m, rfl⟩
          rw [HV.out]
          have hb := below_drewNG w5 m
          have HX6 := Lib.hid (ingF_kept hb hcl5 HX5.out)
          have HM6 := Lib.hid (ingF_kept hb hl5 HM5.out)
          have HB6 := Lib.hid (below_of HB5.out hb HB5.out.size)
          clear hb
          obtain ⟨⟨x0, x1, x2, x3, x4⟩, y0, y1, y2, y3, y4⟩ := HX6.out
          obtain ⟨m0, m1, m2, m3, m4⟩ := HM6.out.1
          simp only [Nat.zero_add] at x0 x1 x2 x3 x4 m0 m1 m2 m3 m4
          go_wp2
          try simp only [Exit.inBlock, Exit.then]
          refine bodyPost_ret_by (v := rgYes (p0, a, x, y, z)) (by rw [results_cell_tmp rfl]; unfold rgYes; go_simp) rfl ?_
          exact ⟨ret_valG HR2.out, (((((HB6.out.setCell (Nat.le_refl _) _).setCell (Nat.le_refl _) _).setCell (Nat.le_refl _) _).setCell (Nat.le_refl _) _).setCell (Nat.le_refl _) _)⟩
        · have HV := Lib.hid hv
          have HR2 := Lib.hid (show rgNo = V by rw [HVB.out]; unfold rgV; rw [if_neg (by rw [hv]; simp)])
          clear hv
          have HM5B := HM5
          skip
          go_wp2_with fail
          skip
          refine (l13One_any w2.heap.size 0 p0 a x y z _ HM5.out.1 hz0).mono ?_
          rintro en w6 ⟨rfl, m, rfl⟩
          rw [HV.out]
          have hb := below_drewNG w5 m
          have HX6 := Lib.hid (ingF_kept hb hcl5 HX5.out)
          have HM6 := Lib.hid (ingF_kept hb hl5 HM5.out)
          have HB6 := Lib.hid (below_of HB5.out hb HB5.out.size)
          clear hb
          obtain ⟨⟨x0, x1, x2, x3, x4⟩, y0, y1, y2, y3, y4⟩ := HX6.out
          simp only [Nat.zero_add] at x0 x1 x2 x3 x4
          go_wp2
          try simp only [Exit.inBlock, Exit.then]
          refine bodyPost_ret_by (v := rgNo) (by rw [results_cell_tmp rfl]; unfold rgNo; go_simp) rfl ?_
          exact ⟨ret_valG HR2.out, (((((HB6.out.setCell (Nat.le_refl _) _).setCell (Nat.le_refl _) _).setCell (Nat.le_refl _) _).setCell (Nat.le_refl _) _).setCell (Nat.le_refl _) _)⟩
      · have HR2 := Lib.hid (show rgNo = V by rw [HVA.out, HRD.out]; exact (rgB_not h4).symm)
        have hne4 : ((zs.length : Int) != 4) = true := by simp; omega
        generalize hzl : zs.length = n4 at *
        clear hzl HVA HRD hown2
        obtain ⟨⟨x0, x1, x2, x3, x4⟩, y0, y1, y2, y3, y4⟩ := HX2.out
        simp only [Nat.zero_add] at x0 x1 x2 x3 x4
        go_wp2
        try simp only [Exit.inBlock, Exit.then]
        refine bodyPost_ret_by (v := rgNo) (by rw [results_cell_tmp rfl]; unfold rgNo; go_simp) rfl ?_
        exact ⟨ret_valG HR2.out, (((((HB2.out.setCell (Nat.le_refl _) _).setCell (Nat.le_refl _) _).setCell (Nat.le_refl _) _).setCell (Nat.le_refl _) _).setCell (Nat.le_refl _) _)⟩
  · have HR2 := Lib.hid (show rgNo = V from HVA0.out ▸ (rgA_not (by rw [← HPS.out, List.length_map, HN.out]; exact h2)).symm)
    have hne : ((n : Int) != 2) = true := by simp; omega
    clear h2
    obtain ⟨⟨x0, x1, x2, x3, x4⟩, y0, y1, y2, y3, y4⟩ := HX1.out
    simp only [Nat.zero_add] at x0 x1 x2 x3 x4
    go_wp2
    try simp only [Exit.inBlock, Exit.then]
    refine bodyPost_ret_by (v := rgNo) (by rw [results_cell_tmp rfl]; unfold rgNo; go_simp) rfl ?_
    exact ⟨ret_valG HR2.out, (((((HB1.out.setCell (Nat.le_refl _) _).setCell (Nat.le_refl _) _).setCell (Nat.le_refl _) _).setCell (Nat.le_refl _) _).setCell (Nat.le_refl _) _)⟩
set_option maxRecDepth 20000 in
set_option maxHeartbeats 1000000 in
theorem specRI_any (s : ByteArray) (w : World) (hs : s.size ≤ 1048576) :
    Calls Tryd.prog 15 #[.string s] w fun en w' => en = .returned (rgA (splitL 32 s.data.toList)) ∧ Below w.heap.size w w' := by
  obtain ⟨q, a, x, y, z, o, hm⟩ := rgA_form (splitL 32 s.data.toList)
  have HL := Lib.hid (fun w => (hm ▸ l13Read_any s w hs : Calls Tryd.prog 29 #[.string s] w fun en w' => en = .returned (.tuple #[.agg #[.string q, .int .i64 a, .int .i64 x, .int .i64 y, .int .i64 z], .bool o]) ∧ Below w.heap.size w w'))
  rw [hm]
  clear hm
  go_enter Tryd.func15, Tryd.ntmps15
  go_wp2_with fail
  have hc0 := ingF_alloc w ⟨#[]⟩ 0 0 0 0 36
  have hcl := alloc_ltG w (.cells #[.string ⟨#[]⟩, .int .i64 0, .int .i64 0, .int .i64 0, .int .i64 0] 36)
  have HBA := Lib.hid (below_alG w (.cells #[.string ⟨#[]⟩, .int .i64 0, .int .i64 0, .int .i64 0, .int .i64 0] 36))
  generalize w.alloc (.cells #[.string ⟨#[]⟩, .int .i64 0, .int .i64 0, .int .i64 0, .int .i64 0] 36) = wA at *
  refine (HL.out _).mono ?_
  rintro en w1 ⟨rfl, hb⟩
  obtain ⟨⟨x0, x1, x2, x3, x4⟩, y0, y1, y2, y3, y4⟩ := ingF_kept hb hcl hc0
  simp only [Nat.zero_add] at x0 x1 x2 x3 x4
  have HB := Lib.hid (below_of HBA.out hb HBA.out.size)
  clear hb hc0
  go_wp2
  try simp only [Exit.inBlock, Exit.then]
  refine bodyPost_ret_by (v := .tuple #[.agg #[.string q, .int .i64 a, .int .i64 x, .int .i64 y, .int .i64 z], .bool o]) (by rw [results_cell_tmp rfl]; go_simp) rfl ?_
  exact ⟨rfl, (((((HB.out.setCell (Nat.le_refl _) _).setCell (Nat.le_refl _) _).setCell (Nat.le_refl _) _).setCell (Nat.le_refl _) _).setCell (Nat.le_refl _) _)⟩
end Go.Proofs.YtikoehjalcljnaaDoor
