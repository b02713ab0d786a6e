/- StandardModel: a model that is being built in a box: its three lists in blocks of their own. -/
import Derived.Test.YtpjopfhkgegahaaStdO
import Derived.Laws.ResultCell
set_option linter.unusedVariables false
namespace Go.Proofs.Ytpjopfhkgegahaa
open Go.ChangeShapes Go.WideShapes Go.ChangeAt Go.RowKit

theorem infoSlQ : (Try.prog.info? 22).map (fun i => (i.zero, i.size, i.bytes)) = some (some (.slice none 0 0), 1, 24) := by kernel_rfl
def thou (m : Nat) : List Int := List.replicate m 1000
theorem thou_len (m : Nat) : (thou m).length = m := by simp [thou]
theorem thou_next (m : Nat) : i64s (thou m) ++ [.int .i64 1000] = i64s (thou (m + 1)) := by unfold thou i64s; rw [List.replicate_succ', List.map_append]; rfl
/-- Box bx holds the slices y0, y1, y2; they lie apart. -/
structure StdSt (w : World) (B bx m : Nat) (y0 y1 y2 : Value) (us : List Value) (zs : List Int) (ws : List (List Int)) : Prop where
  row1 : w.ownsRow B 22 1 y1 ws.length us
  row2 : w.ownsRow B 2 1 y2 m (i64s (thou m))
  own : RowsOwn w B (y0 :: us) (zs :: ws)
  apart : ∀ j, j < ws.length + 1 → y2.ownBlock ≠ ((y0 :: us).getD j undef).ownBlock
  far1 : y1.ownBlock ≠ some bx
  far2 : y2.ownBlock ≠ some bx
  far : ∀ j, j < ws.length + 1 → ((y0 :: us).getD j undef).ownBlock ≠ some bx
  c0 : w.cell? ⟨bx, 0, none⟩ = some y0
  c1 : w.cell? ⟨bx, 1, none⟩ = some y1
  c2 : w.cell? ⟨bx, 2, none⟩ = some y2
  fz : ∀ j, w.frozen? ⟨bx, j, none⟩ = false
  lt : bx < w.heap.size
  le : B ≤ bx
section
variable {w w' : World} {B bx m : Nat} {y0 y1 y2 : Value} {us : List Value} {zs : List Int} {ws : List (List Int)}
theorem std_kept (hb : Below w.heap.size w w') (h : StdSt w B bx m y0 y1 y2 us zs ws) : StdSt w' B bx m y0 y1 y2 us zs ws :=
  ⟨row_keep1 hb h.row1, row_keep1 hb h.row2, rowsOwn_kept hb h.own, h.apart, h.far1, h.far2, h.far, (below_cell hb _ _ h.lt).trans h.c0, (below_cell hb _ _ h.lt).trans h.c1, (below_cell hb _ _ h.lt).trans h.c2,
    fun j => (below_frozen hb _ _ h.lt).trans (h.fz j), Nat.lt_of_lt_of_le h.lt hb.size, h.le⟩
theorem own_type {w : World} {B : Nat} {v : Value} {zs : List Int} (h : OwnInts w B v zs) {B' n : Nat} {y : Value} {us : List Value} (hr : w.ownsRow B' 22 1 y n us) : y.ownBlock ≠ v.ownBlock := by
  obtain ⟨g, e, -, -⟩ := ownInts_block h
  obtain ⟨g', c', e', -, -, ho⟩ := h
  rw [e]
  intro e2
  exact row_apart hr ho (Ne.symm intsT) g e2 e
theorem gb_blkQ {b o : Nat} {row : Option Nat} (hg : w.grownBy w' row) (hb : b < w.heap.size) (hne : some b ≠ row) : w'.cell? ⟨b, o, none⟩ = w.cell? ⟨b, o, none⟩ := World.cell?_of_block (hg.block b hb hne)
theorem gb_frzQ {b o : Nat} {row : Option Nat} (hg : w.grownBy w' row) (hb : b < w.heap.size) (hne : some b ≠ row) : w'.frozen? ⟨b, o, none⟩ = w.frozen? ⟨b, o, none⟩ := World.frozen?_of_block (hg.block b hb hne)
theorem row_baseQ {w : World} {B B' sz : Nat} {e : TypeId} {v : Value} {n : Nat} {xs : List Value} (h : w.ownsRow B e sz v n xs) (hB : B' ≤ B) : w.ownsRow B' e sz v n xs := by
  refine ⟨h.1, ?_⟩
  rcases h.2 with h | ⟨g, cap, cur, e, hb, rest⟩
  · exact .inl h
  · exact .inr ⟨g, cap, cur, e, by omega, rest⟩
/-- A step that turns the block 'row' alone, and none of the rows. -/
theorem rowsOwn_gb {row : Option Nat} {vs : List Value} {xs : List (List Int)} (hg : w.grownBy w' row) (h : RowsOwn w B vs xs) (hne : ∀ j, j < xs.length → row ≠ (vs.getD j undef).ownBlock) : RowsOwn w' B vs xs :=
  rowsOwn_blk h hg.size (fun j k hj hk => by
    obtain ⟨g, e, -, hl⟩ := ownInts_block (h.each j hj)
    rw [e] at hk
    obtain rfl : g = k := by simpa using hk
    refine hg.block g hl (fun e2 => hne j hj ?_)
    rw [← e2, e])
theorem gb_setQ (w : World) (b o : Nat) (x : Value) : w.grownBy (w.setCell ⟨b, o, none⟩ x) (some b) :=
  ⟨rfl, rfl, rfl, by simp, fun k _ hk => Below.heap_setCell _ _ _ _ (by intro e; exact hk (by simp only at e; rw [e]))⟩
/-- A row has been appended, and the box told. -/
theorem std_row1 {w5 : World} {y1' u : Value} {z : List Int} (h : StdSt w B bx m y0 y1 y2 us zs ws) (hu : OwnInts w B u z) (hne : ∀ j, j < ws.length + 1 → ((y0 :: us).getD j undef).ownBlock ≠ u.ownBlock) (hne2 : y2.ownBlock ≠ u.ownBlock) (hub : u.ownBlock ≠ some bx)
    (hown : w5.ownsRow B 22 1 y1' (ws.length + 1) (us ++ [u])) (hgrow : w.grownBy w5 y1.ownBlock) (hat : y1'.ownBlock = y1.ownBlock ∨ y1'.ownBlock = some w.heap.size) :
    StdSt (w5.setCell ⟨bx, 1, none⟩ y1') B bx m y0 y1' y2 (us ++ [u]) zs (ws ++ [z]) := by
  have hlt5 : bx < w5.heap.size := Nat.lt_of_lt_of_le h.lt hgrow.size
  have hb1 : some bx ≠ y1.ownBlock := Ne.symm h.far1
  have far1' : y1'.ownBlock ≠ some bx := by
    rcases hat with e | e
    · rw [e]; exact h.far1
    · rw [e]; intro e2; have := Option.some.inj e2; have := h.lt; omega
  have hlen : us.length = ws.length := by have := h.own.len; simpa using this
  have e0 : y0 :: (us ++ [u]) = (y0 :: us) ++ [u] := rfl
  have e1 : zs :: (ws ++ [z]) = (zs :: ws) ++ [z] := rfl
  have hR : RowsOwn w B (y0 :: (us ++ [u])) (zs :: (ws ++ [z])) := by
    rw [e0, e1]
    exact rowsOwn_snoc h.own hu (fun j hj => hne j (by simpa using hj))
  have hget : ∀ j, j < (ws ++ [z]).length + 1 → (j < ws.length + 1 ∧ (y0 :: (us ++ [u])).getD j undef = (y0 :: us).getD j undef) ∨ (y0 :: (us ++ [u])).getD j undef = u := by
    intro j hj
    rw [e0]
    by_cases e : j < ws.length + 1
    · exact .inl ⟨e, getD_snoc_old _ _ _ _ (by simp; omega)⟩
    · refine .inr (getD_snoc_new _ _ _ _ ?_)
      simp at hj ⊢; omega
  have hty : ∀ j, j < (zs :: (ws ++ [z])).length → y1.ownBlock ≠ ((y0 :: (us ++ [u])).getD j undef).ownBlock := fun j hj => own_type (hR.each j hj) h.row1
  have hR5 := rowsOwn_gb hgrow hR hty
  have h2 : w5.ownsRow B 2 1 y2 m (i64s (thou m)) := h.row2.kept hgrow (by
    cases hv : y2.ownBlock with
    | none => exact .inl rfl
    | some g => exact .inr (fun e => row_apart h.row1 h.row2 (Ne.symm intsT) g e.symm hv))
  have hgs := gb_setQ w5 bx 1 y1'
  refine ⟨?_, ?_, rowsOwn_gb hgs hR5 (fun j hj => ?_), fun j hj => ?_, far1', h.far2, fun j hj => ?_, ?_, ?_, ?_, fun j => ?_, by simpa using hlt5, h.le⟩
  · have := hown.kept hgs (by
      cases hv : y1'.ownBlock with
      | none => exact .inl rfl
      | some g => exact .inr (fun e => far1' (by rw [hv]; exact e)))
    simpa using this
  · exact h2.kept hgs (by
      cases hv : y2.ownBlock with
      | none => exact .inl rfl
      | some g => exact .inr (fun e => h.far2 (by rw [hv]; exact e)))
  · rcases hget j (by simpa using hj) with ⟨q, e⟩ | e
    · rw [e]; exact Ne.symm (h.far j q)
    · rw [e]; exact Ne.symm hub
  · rcases hget j hj with ⟨q, e⟩ | e
    · rw [e]; exact h.apart j q
    · rw [e]; exact hne2
  · rcases hget j hj with ⟨q, e⟩ | e
    · rw [e]; exact h.far j q
    · rw [e]; exact hub
  · rw [World.cell?_setCell_other (h := show (⟨bx, 1, none⟩ : Addr) ≠ ⟨bx, 0, none⟩ by simp)]; exact (gb_blkQ hgrow h.lt hb1).trans h.c0
  · exact World.cell?_setCell_same' _ _ _ (by rw [gb_blkQ hgrow h.lt hb1, h.c1]; rfl)
  · rw [World.cell?_setCell_other (h := show (⟨bx, 1, none⟩ : Addr) ≠ ⟨bx, 2, none⟩ by simp)]; exact (gb_blkQ hgrow h.lt hb1).trans h.c2
  · rw [World.frozen?_setCell]; exact (gb_frzQ hgrow h.lt hb1).trans (h.fz j)
/-- A number has been appended, and the box told. -/
theorem std_row2 {w5 : World} {y2' : Value} (h : StdSt w B bx m y0 y1 y2 us zs ws)
    (hown : w5.ownsRow B 2 1 y2' (m + 1) (i64s (thou (m + 1)))) (hgrow : w.grownBy w5 y2.ownBlock) (hat : y2'.ownBlock = y2.ownBlock ∨ y2'.ownBlock = some w.heap.size) :
    StdSt (w5.setCell ⟨bx, 2, none⟩ y2') B bx (m + 1) y0 y1 y2' us zs ws := by
  have hlt5 : bx < w5.heap.size := Nat.lt_of_lt_of_le h.lt hgrow.size
  have hb2 : some bx ≠ y2.ownBlock := Ne.symm h.far2
  have far2' : y2'.ownBlock ≠ some bx := by
    rcases hat with e | e
    · rw [e]; exact h.far2
    · rw [e]; intro e2; have := Option.some.inj e2; have := h.lt; omega
  have hR5 := rowsOwn_gb hgrow h.own (fun j hj => h.apart j (by simpa using hj))
  have h1 : w5.ownsRow B 22 1 y1 ws.length us := h.row1.kept hgrow (by
    cases hv : y1.ownBlock with
    | none => exact .inl rfl
    | some g => exact .inr (fun e => row_apart h.row1 h.row2 (Ne.symm intsT) g hv e.symm))
  have hgs := gb_setQ w5 bx 2 y2'
  refine ⟨?_, ?_, rowsOwn_gb hgs hR5 (fun j hj => Ne.symm (h.far j (by simpa using hj))), fun j hj => ?_, h.far1, far2', h.far, ?_, ?_, ?_, fun j => ?_, by simpa using hlt5, h.le⟩
  · exact h1.kept hgs (by
      cases hv : y1.ownBlock with
      | none => exact .inl rfl
      | some g => exact .inr (fun e => h.far1 (by rw [hv]; exact e)))
  · exact hown.kept hgs (by
      cases hv : y2'.ownBlock with
      | none => exact .inl rfl
      | some g => exact .inr (fun e => far2' (by rw [hv]; exact e)))
  · rcases hat with e | e
    · rw [e]; exact h.apart j hj
    · obtain ⟨g, e2, -, hl⟩ := ownInts_block (h.own.each j (by simpa using hj))
      rw [e, e2]; intro e3; have := Option.some.inj e3; omega
  · rw [World.cell?_setCell_other (h := show (⟨bx, 2, none⟩ : Addr) ≠ ⟨bx, 0, none⟩ by simp)]; exact (gb_blkQ hgrow h.lt hb2).trans h.c0
  · rw [World.cell?_setCell_other (h := show (⟨bx, 2, none⟩ : Addr) ≠ ⟨bx, 1, none⟩ by simp)]; exact (gb_blkQ hgrow h.lt hb2).trans h.c1
  · exact World.cell?_setCell_same' _ _ _ (by rw [gb_blkQ hgrow h.lt hb2, h.c2]; rfl)
  · rw [World.frozen?_setCell]; exact (gb_frzQ hgrow h.lt hb2).trans (h.fz j)
/-- What has been built is a model in memory of its own. -/
theorem std_end {w5 : World} {r B' : Nat} (h : StdSt w B bx m y0 y1 y2 us zs ws) (hm : 0 < m) (hw : 0 < ws.length) (hr : r < B) (hB : B' ≤ B) (hg : w.grownBy w5 (some r)) : ModOwn w5 B' w5.heap.size y0 y1 y2 zs ws (thou m) := by
  obtain ⟨g1, k1, e1, b1, l1⟩ : ∃ g k, y1 = .slice (some ⟨g, 0, none⟩) ws.length k ∧ B ≤ g ∧ g < w.heap.size := by
    rcases h.row1.2 with ⟨-, e⟩ | ⟨g, cap, cur, e, hb, hgg, _⟩
    · omega
    · exact ⟨g, cap, e, hb, (Array.getElem?_eq_some_iff.1 hgg).1⟩
  obtain ⟨g2, k2, e2, b2, l2⟩ : ∃ g k, y2 = .slice (some ⟨g, 0, none⟩) m k ∧ B ≤ g ∧ g < w.heap.size := by
    rcases h.row2.2 with ⟨-, e⟩ | ⟨g, cap, cur, e, hb, hgg, _⟩
    · omega
    · exact ⟨g, cap, e, hb, (Array.getElem?_eq_some_iff.1 hgg).1⟩
  have hlen : us.length = ws.length := by have := h.own.len; simpa using this
  have ho2 : OwnInts w B y2 (thou m) := ⟨g2, k2, by rw [thou_len]; exact e2, b2, l2, by rw [thou_len]; exact h.row2⟩
  have hR : RowsOwn w B (y0 :: y2 :: us) (zs :: thou m :: ws) := by
    refine ⟨by simp [hlen], fun j hj => ?_, fun i j hij hj => ?_⟩
    · match j, hj with
      | 0, _ => exact h.own.each 0 (by simp)
      | 1, _ => exact ho2
      | j + 2, hj => exact h.own.each (j + 1) (by simp at hj ⊢; omega)
    · match i, j, hij, hj with
      | 0, 1, _, _ => exact Ne.symm (h.apart 0 (by omega))
      | 0, j + 2, _, hj => exact h.own.apart 0 (j + 1) (by omega) (by simp at hj ⊢; omega)
      | 1, j + 2, _, hj => exact h.apart (j + 1) (by simp at hj; omega)
      | i + 2, j + 2, hij, hj => exact h.own.apart (i + 1) (j + 1) (by omega) (by simp at hj ⊢; omega)
  have hR5 : RowsOwn w5 B (y0 :: y2 :: us) (zs :: thou m :: ws) := rowsOwn_gb hg hR (fun j hj e => by
    obtain ⟨g, e3, hb, -⟩ := ownInts_block (hR.each j hj)
    rw [e3] at e; have := Option.some.inj e; omega)
  have h1 : w5.ownsRow B 22 1 y1 ws.length us := h.row1.kept hg (.inr (by rw [e1]; simp [Value.ownBlock]; omega))
  have hs := hg.size
  refine ⟨Nat.le_refl _, us, g1, k1, e1, by omega, by omega, row_baseQ h1 hB, rowsOwn_base hR5 hB, fun j k hj hk => ?_⟩
  obtain ⟨g, e3, -, hl⟩ := ownInts_block (hR5.each j (by simpa using hj))
  rw [e3] at hk
  have := Option.some.inj hk; omega
end
end Go.Proofs.Ytpjopfhkgegahaa
