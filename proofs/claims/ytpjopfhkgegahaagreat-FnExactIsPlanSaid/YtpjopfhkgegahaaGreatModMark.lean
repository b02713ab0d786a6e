/- A model in memory of its own: copied, read, marked, and the marks looked for again. -/
import Derived.Test.YtpjopfhkgegahaaGreatMk
import Derived.Test.YtpjopfhkgegahaaGreatModLaw
import Derived.Test.YtpjopfhkgegahaaGreatG2
set_option linter.unusedVariables false
namespace Go.Proofs.YtpjopfhkgegahaaGreat
open Go.ChangeShapes Go.WideShapes Go.ChangeAt Go.RowKit Go.Deep

/-- A model whose lists lie in blocks of their own, from B on and below hi, no two of them in one. -/
def ModOwn (w : World) (B hi : Nat) (y0 y1 y2 : Value) (zs : List Int) (ws : List (List Int)) (bs : List Int) : Prop :=
  hi ≤ w.heap.size ∧ ∃ us g cap, y1 = .slice (some ⟨g, 0, none⟩) ws.length cap ∧ B ≤ g ∧ g < hi ∧ w.ownsRow B 22 1 y1 ws.length us ∧
    RowsOwn w B (y0 :: y2 :: us) (zs :: bs :: ws) ∧ ∀ j k, j < ws.length + 2 → ((y0 :: y2 :: us).getD j undef).ownBlock = some k → k < hi
theorem intsT : 2 ≠ 22 := by decide
theorem own_blk {w w' : World} {B : Nat} {v : Value} {zs : List Int} (h : OwnInts w B v zs) (hs : w.heap.size ≤ w'.heap.size) (hb : ∀ k, v.ownBlock = some k → w'.heap[k]? = w.heap[k]?) : OwnInts w' B v zs := by
  obtain ⟨g, cap, rfl, h1, h2, h3⟩ := h
  exact ⟨g, cap, rfl, h1, by omega, row_blk h3 hb⟩
theorem rowsOwn_blk {w w' : World} {B : Nat} {us : List Value} {ws : List (List Int)} (h : RowsOwn w B us ws) (hs : w.heap.size ≤ w'.heap.size) (hb : ∀ j k, j < ws.length → (us.getD j undef).ownBlock = some k → w'.heap[k]? = w.heap[k]?) : RowsOwn w' B us ws :=
  ⟨h.len, fun j hj => own_blk (h.each j hj) hs (fun k hk => hb j k hj hk), h.apart⟩
theorem modOwn_blk {w w' : World} {B hi : Nat} {y0 y1 y2 : Value} {zs bs : List Int} {ws : List (List Int)} (h : ModOwn w B hi y0 y1 y2 zs ws bs) (hs : w.heap.size ≤ w'.heap.size) (hb : ∀ k, B ≤ k → k < hi → w'.heap[k]? = w.heap[k]?) : ModOwn w' B hi y0 y1 y2 zs ws bs := by
  obtain ⟨hh, us, g, cap, rfl, h1, h2, h3, h4, h5⟩ := h
  refine ⟨by omega, us, g, cap, rfl, h1, h2, row_blk h3 (fun k hk => ?_), rowsOwn_blk h4 hs (fun j k hj hk => ?_), h5⟩
  · simp only [Value.ownBlock, Option.some.injEq] at hk; subst hk; exact hb _ h1 h2
  · obtain ⟨g1, e1, q1, q2⟩ := ownInts_block (h4.each j hj)
    rw [e1, Option.some.injEq] at hk; subst hk
    exact hb _ q1 (h5 j _ (by simpa using hj) e1)
theorem modOwn_kept {w w' : World} {B hi : Nat} {y0 y1 y2 : Value} {zs bs : List Int} {ws : List (List Int)} (hb : Below w.heap.size w w') (h : ModOwn w B hi y0 y1 y2 zs ws bs) : ModOwn w' B hi y0 y1 y2 zs ws bs :=
  modOwn_blk h hb.size (fun k _ hk => hb.block k (by have := h.1; omega))
theorem modOwn_mk {w w' : World} {l u B hi : Nat} {y0 y1 y2 : Value} {zs bs : List Int} {ws : List (List Int)} (hg : Mk l u w w') (h : ModOwn w B hi y0 y1 y2 zs ws bs) (ho : hi ≤ l ∨ u ≤ B) : ModOwn w' B hi y0 y1 y2 zs ws bs :=
  modOwn_blk h hg.size (fun k h1 h2 => hg.block k (by have := h.1; omega) (by omega))
theorem modOwn_parts {w : World} {B hi : Nat} {y0 y1 y2 : Value} {zs bs : List Int} {ws : List (List Int)} (hz : zs.length ≤ 1048576) (hw : ws.length ≤ 1048576) (hr : ∀ j, j < ws.length → (ws.getD j []).length ≤ 1048576) (hbs : bs.length ≤ 1048576) (h : ModOwn w B hi y0 y1 y2 zs ws bs) :
    IntsAt w y0 zs ∧ RowsAt w y1 ws ∧ IntsAt w y2 bs := by
  obtain ⟨hh, us, g, cap, rfl, h1, h2, h3, h4, h5⟩ := h
  have hl := h4.len
  simp only [List.length_cons] at hl
  refine ⟨own_ints hz (h4.each 0 (by simp)), ⟨hw, .inr ⟨g, 0, cap, rfl, by omega, fun j hj => ⟨us.getD j undef, ?_, ?_⟩⟩⟩, own_ints hbs (h4.each 1 (by simp))⟩
  · rw [Nat.zero_add, h3.cellAt j (by omega), List.getD_eq_getElem?_getD, List.getElem?_eq_getElem (by omega)]; rfl
  · have := h4.each (j + 2) (by simp; omega)
    exact own_ints (hr j hj) this
theorem modOwn_form {w : World} {B hi : Nat} {y0 y1 y2 : Value} {zs bs : List Int} {ws : List (List Int)} (h : ModOwn w B hi y0 y1 y2 zs ws bs) : (∃ a c, y0 = .slice a zs.length c) ∧ (∃ a c, y1 = .slice a ws.length c) ∧ ∃ a c, y2 = .slice a bs.length c := by
  obtain ⟨hh, us, g, cap, rfl, h1, h2, h3, h4, h5⟩ := h
  obtain ⟨g0, c0, e0, -⟩ := h4.each 0 (by simp)
  obtain ⟨g2, c2, e2, -⟩ := h4.each 1 (by simp)
  exact ⟨⟨_, _, e0⟩, ⟨_, _, rfl⟩, ⟨_, _, e2⟩⟩
theorem rowsOwn_mark {w w' : World} {B : Nat} {us : List Value} {ws : List (List Int)} {z : List Int} (j : Nat) (h : RowsOwn w B us ws) (hj : j < ws.length) (hg : w.grownBy w' (us.getD j undef).ownBlock) (hz : OwnInts w' B (us.getD j undef) z) : RowsOwn w' B us (ws.set j z) := by
  refine ⟨by rw [List.length_set]; exact h.len, fun i hi => ?_, fun i k hik hk => h.apart i k hik (by rwa [List.length_set] at hk)⟩
  rw [List.length_set] at hi
  by_cases e : i = j
  · subst e
    rw [List.getD_eq_getElem?_getD (l := ws.set i z), List.getElem?_set_self hj]
    exact hz
  · rw [List.getD_eq_getElem?_getD (l := ws.set j z), List.getElem?_set_ne (by omega), ← List.getD_eq_getElem?_getD]
    refine own_blk (h.each i hi) hg.size (fun k hk => hg.block k ?_ ?_)
    · obtain ⟨g1, e1, _, h1⟩ := ownInts_block (h.each i hi)
      rw [e1, Option.some.injEq] at hk; omega
    · rw [← hk]
      rcases Nat.lt_or_gt_of_ne e with h1 | h1
      · exact h.apart i j h1 hj
      · exact fun e => h.apart j i h1 hi e.symm
/-- The lengths of the first rows, added. -/
def lenS (ws : List (List Int)) (k : Nat) : Nat := sumL (fun j => (ws.getD j []).length) k
theorem lenS_next (ws : List (List Int)) (k : Nat) : lenS ws (k + 1) = lenS ws k + (ws.getD k []).length := rfl
theorem lenS_mono (ws : List (List Int)) (k n : Nat) (h : k ≤ n) : lenS ws k ≤ lenS ws n := by
  induction n with
  | zero => obtain rfl : k = 0 := by omega
            exact Nat.le_refl _
  | succ n ih => by_cases e : k = n + 1
                 · rw [e]; exact Nat.le_refl _
                 · rw [lenS_next]; have := ih (by omega); omega
theorem lenS_at (ws : List (List Int)) (k n : Nat) (h : k < n) : (ws.getD k []).length ≤ lenS ws n := by
  have := lenS_mono ws (k + 1) n h; rw [lenS_next] at this; omega
/-- The rows, the first k of them marked from m on. -/
def mrows (m : Int) (ws : List (List Int)) (k : Nat) : List (List Int) := (List.range ws.length).map fun j => if j < k then marksI (m + lenS ws j) (ws.getD j []).length else ws.getD j []
theorem mrows_len (m : Int) (ws : List (List Int)) (k : Nat) : (mrows m ws k).length = ws.length := by simp [mrows]
theorem mrows_zero (m : Int) (ws : List (List Int)) : mrows m ws 0 = ws := by
  refine List.ext_getElem (by simp [mrows]) fun j h1 h2 => ?_
  simp [mrows, List.getD, h2]
theorem mrows_get (m : Int) (ws : List (List Int)) (k j : Nat) (h : j < ws.length) : (mrows m ws k).getD j [] = if j < k then marksI (m + lenS ws j) (ws.getD j []).length else ws.getD j [] := by
  rw [List.getD_eq_getElem?_getD (l := mrows m ws k), mrows, List.getElem?_map, List.getElem?_range h]; rfl
theorem mrows_next (m : Int) (ws : List (List Int)) (k : Nat) (h : k < ws.length) : (mrows m ws k).set k (marksI (m + lenS ws k) (ws.getD k []).length) = mrows m ws (k + 1) := by
  refine List.ext_getElem (by simp [mrows]) fun j h1 h2 => ?_
  have hj : j < ws.length := by simpa [mrows] using h2
  rw [List.getElem_set]
  by_cases e : k = j
  · subst e; simp [mrows]
  · rw [if_neg e]
    simp only [mrows, List.getElem_map, List.getElem_range]
    by_cases hk : j < k
    · rw [if_pos hk, if_pos (by omega)]
    · rw [if_neg hk, if_neg (by omega)]
/-- Rows in blocks from B on and below U. -/
def OwnRowsIn (w : World) (B U : Nat) (v : Value) (ws : List (List Int)) : Prop := ∃ g cap us, v = .slice (some ⟨g, 0, none⟩) ws.length cap ∧ B ≤ g ∧ g < U ∧ w.ownsRow B 22 1 v ws.length us ∧ RowsOwn w B us ws ∧ ∀ j k, j < ws.length → (us.getD j undef).ownBlock = some k → k < U
theorem ownRowsIn_of {w : World} {B : Nat} {v : Value} {ws : List (List Int)} (h : OwnRows w B v ws) : OwnRowsIn w B w.heap.size v ws := by
  obtain ⟨g, cap, us, rfl, h1, h2, h3, h4, h5⟩ := h
  refine ⟨g, cap, us, rfl, h1, h2, h3, h4, fun j k hj hk => ?_⟩
  obtain ⟨g1, e1, _, q⟩ := ownInts_block (h4.each j hj)
  rw [e1, Option.some.injEq] at hk; omega
theorem ownRowsIn_kept {w w' : World} {B U : Nat} {v : Value} {ws : List (List Int)} (hb : Below w.heap.size w w') (h : OwnRowsIn w B U v ws) : OwnRowsIn w' B U v ws := by
  obtain ⟨g, cap, us, rfl, h1, h2, h3, h4, h5⟩ := h
  exact ⟨g, cap, us, rfl, h1, h2, row_keep1 hb h3, rowsOwn_kept hb h4, h5⟩
theorem ownRowsIn_set {w : World} {B U : Nat} {v : Value} {ws : List (List Int)} (h : OwnRowsIn w B U v ws) (b o : Nat) (x : Value) (hb : b < B) : OwnRowsIn (w.setCell ⟨b, o, none⟩ x) B U v ws := by
  obtain ⟨g, cap, us, rfl, h1, h2, hown, h4, h5⟩ := h
  refine ⟨g, cap, us, rfl, h1, h2, hown.kept (row := some b) ⟨rfl, rfl, rfl, by simp, fun k _ hk => Below.heap_setCell _ _ _ _ (by intro e; exact hk (by simp only at e; rw [e]))⟩ (.inr (by simp [Value.ownBlock]; omega)), rowsOwn_set h4 b o x hb, h5⟩
theorem row_base1 {w : World} {B B' sz : Nat} {e : TypeId} {v : Value} {n : Nat} {xs : List Value} (h : w.ownsRow B e sz v n xs) (hB : B' ≤ B) : w.ownsRow B' e sz v n xs := by
  refine ⟨h.1, ?_⟩
  rcases h.2 with hn | ⟨g, cap, cur, rfl, hb, rest⟩
  · exact .inl hn
  · exact .inr ⟨g, cap, cur, rfl, by omega, rest⟩
theorem modOwn_join {w : World} {B u1 u2 q0 : Nat} {v0 v1 v2 : Value} {zs bs : List Int} {ws : List (List Int)} (h0 : OwnInts w B v0 zs) (e0 : v0.ownBlock = some q0) (hq : q0 < u1) (h1 : OwnRowsIn w u1 u2 v1 ws) (h2 : OwnInts w u2 v2 bs)
    (hB : B ≤ u1) (hu : u1 ≤ u2) (hs : u2 ≤ w.heap.size) : ModOwn w B w.heap.size v0 v1 v2 zs ws bs := by
  obtain ⟨g, cap, us, rfl, r1, r2, r3, r4, r5⟩ := h1
  obtain ⟨g2, e2, p2, p3⟩ := ownInts_block h2
  obtain ⟨g0, e0', p0, p1⟩ := ownInts_block h0
  refine ⟨Nat.le_refl _, us, g, cap, rfl, by omega, by omega, row_base1 r3 hB, ⟨by simp [r4.len], fun j hj => ?_, fun i j hij hj => ?_⟩, fun j k hj hk => ?_⟩
  · match j, hj with
    | 0, _ => exact h0
    | 1, _ => exact ownInts_base h2 (by omega)
    | j + 2, hj => exact ownInts_base (r4.each j (by simpa using hj)) hB
  · match i, j, hij, hj with
    | 0, 0, hij, _ => omega
    | 0, 1, _, _ => show v0.ownBlock ≠ v2.ownBlock; rw [e0, e2]; simp; omega
    | 0, j + 2, _, hj =>
      show v0.ownBlock ≠ (us.getD j undef).ownBlock
      obtain ⟨g3, e3, q3, _⟩ := ownInts_block (r4.each j (by simpa using hj))
      rw [e0, e3]; simp; omega
    | 1, 1, hij, _ => omega
    | 1, j + 2, _, hj =>
      show v2.ownBlock ≠ (us.getD j undef).ownBlock
      obtain ⟨g3, e3, q3, _⟩ := ownInts_block (r4.each j (by simpa using hj))
      have := r5 j g3 (by simpa using hj) e3
      rw [e2, e3]; simp; omega
    | i + 2, j + 2, hij, hj => exact r4.apart i j (by omega) (by simpa using hj)
  · match j, hj with
    | 0, _ => have hk' : v0.ownBlock = some k := hk
              rw [e0', Option.some.injEq] at hk'; omega
    | 1, _ => have hk' : v2.ownBlock = some k := hk
              rw [e2, Option.some.injEq] at hk'; omega
    | j + 2, hj => have := r5 j k (by omega) hk
                   omega
set_option maxRecDepth 20000 in
set_option maxHeartbeats 4000000 in
theorem toModX_any (x0 x1 x2 : Value) (zs : List Int) (ws : List (List Int)) (bs : List Int) (w : World) (h0 : IntsAt w x0 zs) (h1 : RowsAt w x1 ws) (h2 : IntsAt w x2 bs) :
    Calls Tryz.prog 9 #[.agg #[x0, x1, x2]] w fun e w' => ∃ v0 v1 v2, e = .returned (.agg #[v0, v1, v2]) ∧ ModOwn w' w.heap.size w'.heap.size v0 v1 v2 zs ws bs ∧ Below w.heap.size w w' := by
  have HI0 := Lib.hid h0
  have HI1 := Lib.hid h1
  have HI2 := Lib.hid h2
  clear h0 h1 h2
  go_enter Tryz.func9, Tryz.ntmps9
  go_wp2_with fail
  have HBA := Lib.hid ((((Below.refl w.heap.size w).alloc (Nat.le_refl _) (.cells #[x0, x1, x2] 25)).alloc (by simp) (.cells #[.slice none 0 0, .slice none 0 0, .slice none 0 0] 38)).alloc (by simp <;> omega) (.cells #[.slice none 0 0, .slice none 0 0, .slice none 0 0] 38))
  refine (toInts_any zs x0 _ (ints_kept HBA.out HI0.out)).mono ?_
  rintro e w1 ⟨y0, rfl, ho, hb⟩
  have hz : w.heap.size + 3 ≤ w1.heap.size := by have := hb.size; simp at this; omega
  have a1 : w1.cell? ⟨w.heap.size, 1, none⟩ = some x1 := by rw [below_cell hb _ _ (by simp; omega)]; go_simp
  have a2 : w1.cell? ⟨w.heap.size, 2, none⟩ = some x2 := by rw [below_cell hb _ _ (by simp; omega)]; go_simp
  have b0 : w1.cell? ⟨w.heap.size + 1, 0, none⟩ = some (.slice none 0 0) := by rw [below_cell hb _ _ (by simp)]; go_simp
  have b1 : w1.cell? ⟨w.heap.size + 1, 1, none⟩ = some (.slice none 0 0) := by rw [below_cell hb _ _ (by simp)]; go_simp
  have b2 : w1.cell? ⟨w.heap.size + 1, 2, none⟩ = some (.slice none 0 0) := by rw [below_cell hb _ _ (by simp)]; go_simp
  have c0 : w1.cell? ⟨w.heap.size + 1 + 1, 0, none⟩ = some (.slice none 0 0) := by rw [below_cell hb _ _ (by simp)]; go_simp
  have c1 : w1.cell? ⟨w.heap.size + 1 + 1, 1, none⟩ = some (.slice none 0 0) := by rw [below_cell hb _ _ (by simp)]; go_simp
  have c2 : w1.cell? ⟨w.heap.size + 1 + 1, 2, none⟩ = some (.slice none 0 0) := by rw [below_cell hb _ _ (by simp)]; go_simp
  have f0 : w1.frozen? ⟨w.heap.size + 1, 0, none⟩ = false := by rw [below_frozen hb _ _ (by simp)]; go_simp
  have f1 : w1.frozen? ⟨w.heap.size + 1, 1, none⟩ = false := by rw [below_frozen hb _ _ (by simp)]; go_simp
  have f2 : w1.frozen? ⟨w.heap.size + 1, 2, none⟩ = false := by rw [below_frozen hb _ _ (by simp)]; go_simp
  have g0 : w1.frozen? ⟨w.heap.size + 1 + 1, 0, none⟩ = false := by rw [below_frozen hb _ _ (by simp)]; go_simp
  have g1 : w1.frozen? ⟨w.heap.size + 1 + 1, 1, none⟩ = false := by rw [below_frozen hb _ _ (by simp)]; go_simp
  have g2 : w1.frozen? ⟨w.heap.size + 1 + 1, 2, none⟩ = false := by rw [below_frozen hb _ _ (by simp)]; go_simp
  have HO0 := Lib.hid (ownInts_base (B' := w.heap.size + 3) ho (by simp))
  have HB1 := Lib.hid (HBA.out.trans (hb.mono (by simp <;> omega)))
  obtain ⟨q0, k0, rfl, -, hq0, -⟩ := ho
  clear hb
  generalize zs.length = n0 at *
  have HOS := Lib.hid (ownInts_set HO0.out (w.heap.size + 1 + 1) 0 (.slice (some ⟨q0, 0, none⟩) n0 k0) (by omega))
  have HBS := Lib.hid (HB1.out.setCell (p := ⟨w.heap.size + 1 + 1, 0, none⟩) (by simp <;> omega) (.slice (some ⟨q0, 0, none⟩) n0 k0))
  go_wp2_with fail
  refine (toRows_any ws x1 _ (mrows_kept HBS.out HI1.out)).mono ?_
  rintro e w2 ⟨y1, rfl, ho, hb⟩
  have hz2 : w.heap.size + 3 ≤ w2.heap.size := by have := hb.size; simp at this; omega
  have hsz1 : w1.heap.size ≤ w2.heap.size := by have := hb.size; simpa using this
  have a2' : w2.cell? ⟨w.heap.size, 2, none⟩ = some x2 := by rw [below_cell hb _ _ (by simp; omega)]; go_simp
  have b0' : w2.cell? ⟨w.heap.size + 1, 0, none⟩ = some (.slice none 0 0) := by rw [below_cell hb _ _ (by simp; omega)]; go_simp
  have b1' : w2.cell? ⟨w.heap.size + 1, 1, none⟩ = some (.slice none 0 0) := by rw [below_cell hb _ _ (by simp; omega)]; go_simp
  have b2' : w2.cell? ⟨w.heap.size + 1, 2, none⟩ = some (.slice none 0 0) := by rw [below_cell hb _ _ (by simp; omega)]; go_simp
  have c0' : w2.cell? ⟨w.heap.size + 1 + 1, 0, none⟩ = some (.slice (some ⟨q0, 0, none⟩) n0 k0) := by rw [below_cell hb _ _ (by simp; omega)]; go_simp
  have c1' : w2.cell? ⟨w.heap.size + 1 + 1, 1, none⟩ = some (.slice none 0 0) := by rw [below_cell hb _ _ (by simp; omega)]; go_simp
  have c2' : w2.cell? ⟨w.heap.size + 1 + 1, 2, none⟩ = some (.slice none 0 0) := by rw [below_cell hb _ _ (by simp; omega)]; go_simp
  have f0' : w2.frozen? ⟨w.heap.size + 1, 0, none⟩ = false := by rw [below_frozen hb _ _ (by simp; omega)]; go_simp
  have f1' : w2.frozen? ⟨w.heap.size + 1, 1, none⟩ = false := by rw [below_frozen hb _ _ (by simp; omega)]; go_simp
  have f2' : w2.frozen? ⟨w.heap.size + 1, 2, none⟩ = false := by rw [below_frozen hb _ _ (by simp; omega)]; go_simp
  have g1' : w2.frozen? ⟨w.heap.size + 1 + 1, 1, none⟩ = false := by rw [below_frozen hb _ _ (by simp; omega)]; go_simp
  have g2' : w2.frozen? ⟨w.heap.size + 1 + 1, 2, none⟩ = false := by rw [below_frozen hb _ _ (by simp; omega)]; go_simp
  have HO1 := Lib.hid (own_kept hb HOS.out)
  have HP1 := Lib.hid (show OwnRowsIn w2 w1.heap.size w2.heap.size y1 ws from by have := ownRowsIn_of ho; simpa using this)
  have HB2 := Lib.hid (HBS.out.trans (hb.mono (by simp <;> omega)))
  obtain ⟨q1, k1, us, rfl, -⟩ := ho
  clear hb a1 a2 b0 b1 b2 c0 c1 c2 f0 f1 f2 g0 g1 g2
  generalize ws.length = n1 at *
  have HOS1 := Lib.hid (ownInts_set HO1.out (w.heap.size + 1 + 1) 1 (.slice (some ⟨q1, 0, none⟩) n1 k1) (by omega))
  have HPS1 := Lib.hid (ownRowsIn_set HP1.out (w.heap.size + 1 + 1) 1 (.slice (some ⟨q1, 0, none⟩) n1 k1) (by omega))
  have HBS1 := Lib.hid (HB2.out.setCell (p := ⟨w.heap.size + 1 + 1, 1, none⟩) (by simp <;> omega) (.slice (some ⟨q1, 0, none⟩) n1 k1))
  go_wp2_with fail
  refine (toInts_any bs x2 _ (ints_kept HBS1.out HI2.out)).mono ?_
  rintro e w3 ⟨y2, rfl, ho, hb⟩
  have hz3 : w.heap.size + 3 ≤ w3.heap.size := by have := hb.size; simp at this; omega
  have b0'' : w3.cell? ⟨w.heap.size + 1, 0, none⟩ = some (.slice none 0 0) := by rw [below_cell hb _ _ (by simp; omega)]; go_simp
  have b1'' : w3.cell? ⟨w.heap.size + 1, 1, none⟩ = some (.slice none 0 0) := by rw [below_cell hb _ _ (by simp; omega)]; go_simp
  have b2'' : w3.cell? ⟨w.heap.size + 1, 2, none⟩ = some (.slice none 0 0) := by rw [below_cell hb _ _ (by simp; omega)]; go_simp
  have c0'' : w3.cell? ⟨w.heap.size + 1 + 1, 0, none⟩ = some (.slice (some ⟨q0, 0, none⟩) n0 k0) := by rw [below_cell hb _ _ (by simp; omega)]; go_simp
  have c1'' : w3.cell? ⟨w.heap.size + 1 + 1, 1, none⟩ = some (.slice (some ⟨q1, 0, none⟩) n1 k1) := by rw [below_cell hb _ _ (by simp; omega)]; go_simp
  have c2'' : w3.cell? ⟨w.heap.size + 1 + 1, 2, none⟩ = some (.slice none 0 0) := by rw [below_cell hb _ _ (by simp; omega)]; go_simp
  have f0'' : w3.frozen? ⟨w.heap.size + 1, 0, none⟩ = false := by rw [below_frozen hb _ _ (by simp; omega)]; go_simp
  have f1'' : w3.frozen? ⟨w.heap.size + 1, 1, none⟩ = false := by rw [below_frozen hb _ _ (by simp; omega)]; go_simp
  have f2'' : w3.frozen? ⟨w.heap.size + 1, 2, none⟩ = false := by rw [below_frozen hb _ _ (by simp; omega)]; go_simp
  have g2'' : w3.frozen? ⟨w.heap.size + 1 + 1, 2, none⟩ = false := by rw [below_frozen hb _ _ (by simp; omega)]; go_simp
  have HO2 := Lib.hid (own_kept hb HOS1.out)
  have HP2 := Lib.hid (ownRowsIn_kept hb HPS1.out)
  have hsz2 : w2.heap.size ≤ w3.heap.size := by have := hb.size; simpa using this
  have HQ2 := Lib.hid (ownInts_base (B' := w2.heap.size) ho (by simp))
  have HB3 := Lib.hid (HBS1.out.trans (hb.mono (by simp <;> omega)))
  obtain ⟨q2, k2, rfl, -⟩ := ho
  clear hb a2' b0' b1' b2' c0' c1' c2' f0' f1' f2' g1' g2'
  generalize bs.length = n2 at *
  go_wp2
  refine bodyPost_ret (v := .agg #[.slice (some ⟨q0, 0, none⟩) n0 k0, .slice (some ⟨q1, 0, none⟩) n1 k1, .slice (some ⟨q2, 0, none⟩) n2 k2]) (by simp [results, Tryz.results9, go_sem, b0'', b1'', b2'']) rfl ⟨_, _, _, rfl, ?_, ?_⟩
  · have R0 := ownInts_base (ownInts_set (ownInts_set (ownInts_set (ownInts_set HO2.out (w.heap.size + 1 + 1) 2 (.slice (some ⟨q2, 0, none⟩) n2 k2) (by omega)) (w.heap.size + 1) 0 (.slice (some ⟨q0, 0, none⟩) n0 k0) (by omega)) (w.heap.size + 1) 1 (.slice (some ⟨q1, 0, none⟩) n1 k1) (by omega)) (w.heap.size + 1) 2 (.slice (some ⟨q2, 0, none⟩) n2 k2) (by omega)) (show w.heap.size ≤ w.heap.size + 3 by omega)
    have R1 := ownRowsIn_set (ownRowsIn_set (ownRowsIn_set (ownRowsIn_set HP2.out (w.heap.size + 1 + 1) 2 (.slice (some ⟨q2, 0, none⟩) n2 k2) (by omega)) (w.heap.size + 1) 0 (.slice (some ⟨q0, 0, none⟩) n0 k0) (by omega)) (w.heap.size + 1) 1 (.slice (some ⟨q1, 0, none⟩) n1 k1) (by omega)) (w.heap.size + 1) 2 (.slice (some ⟨q2, 0, none⟩) n2 k2) (by omega)
    have R2 := ownInts_set (ownInts_set (ownInts_set (ownInts_set HQ2.out (w.heap.size + 1 + 1) 2 (.slice (some ⟨q2, 0, none⟩) n2 k2) (by omega)) (w.heap.size + 1) 0 (.slice (some ⟨q0, 0, none⟩) n0 k0) (by omega)) (w.heap.size + 1) 1 (.slice (some ⟨q1, 0, none⟩) n1 k1) (by omega)) (w.heap.size + 1) 2 (.slice (some ⟨q2, 0, none⟩) n2 k2) (by omega)
    exact modOwn_join R0 rfl hq0 R1 R2 (by omega) (by omega) (by simpa using hsz2)
  · exact (((HB3.out.setCell (by simp <;> omega) _).setCell (by simp) _).setCell (by simp) _).setCell (by simp) _
end Go.Proofs.YtpjopfhkgegahaaGreat
