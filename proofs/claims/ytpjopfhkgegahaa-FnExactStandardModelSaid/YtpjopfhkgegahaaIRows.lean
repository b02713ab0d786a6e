/- Slices of slices of numbers, as arguments: measured, copied, compared. -/
import Derived.Test.YtpjopfhkgegahaaInts
import Derived.Deep.Matrix
import Derived.Lib.SmallJoins
namespace Go.Proofs.Ytpjopfhkgegahaa
open Go.ChangeShapes Go.WideShapes Go.ChangeAt Go.RowKit Go.Deep

/-- The slice v reads as the rows ws. -/
def RowsAt (w : World) (v : Value) (ws : List (List Int)) : Prop :=
  ws.length ≤ 1048576 ∧ ((∃ a c, v = .slice a 0 c ∧ ws = []) ∨ ∃ b off cap, v = .slice (some ⟨b, off, none⟩) ws.length cap ∧ b < w.heap.size ∧ ∀ j, j < ws.length → ∃ u, w.cell? ⟨b, off + j, none⟩ = some u ∧ IntsAt w u (ws.getD j []))
/-- The slice v has n elements, slices with the lengths L. -/
def SzAt (w : World) (v : Value) (n : Nat) (L : Nat → Nat) : Prop :=
  (∃ a c, v = .slice a 0 c ∧ n = 0) ∨ ∃ b off c, v = .slice (some ⟨b, off, none⟩) n c ∧ b < w.heap.size ∧ ∀ j, j < n → ∃ x y, w.cell? ⟨b, off + j, none⟩ = some (.slice x (L j) y) ∧ L j ≤ 9223372036854775807
def sumL (L : Nat → Nat) : Nat → Nat
  | 0 => 0
  | n + 1 => sumL L n + L n
theorem sumL_le (L : Nat → Nat) (n j : Nat) (h : j < n) : L j ≤ sumL L n := by
  induction n with
  | zero => omega
  | succ n ih =>
    unfold sumL
    by_cases e : j = n
    · subst e; omega
    · have := ih (by omega); omega
theorem sumL_mono (L : Nat → Nat) {m n : Nat} (h : m ≤ n) : sumL L m ≤ sumL L n := by
  induction n with
  | zero => obtain rfl : m = 0 := by omega
            exact Nat.le_refl _
  | succ n ih =>
    by_cases e : m = n + 1
    · subst e; exact Nat.le_refl _
    · have := ih (by omega); show sumL L m ≤ sumL L n + L n; omega
theorem mrows_kept {w w' : World} {v : Value} {ws : List (List Int)} (hb : Below w.heap.size w w') (h : RowsAt w v ws) : RowsAt w' v ws := by
  obtain ⟨hl, h | ⟨b, off, cap, rfl, hlt, hc⟩⟩ := h
  · exact ⟨hl, .inl h⟩
  · refine ⟨hl, .inr ⟨b, off, cap, rfl, by have := hb.size; omega, fun j hj => ?_⟩⟩
    obtain ⟨u, h1, h2⟩ := hc j hj
    exact ⟨u, by rw [hb.cell (p := ⟨b, off + j, none⟩) hlt]; exact h1, ints_kept hb h2⟩
theorem sz_kept {w w' : World} {v : Value} {n : Nat} {L : Nat → Nat} (hb : Below w.heap.size w w') (h : SzAt w v n L) : SzAt w' v n L := by
  rcases h with h | ⟨b, off, c, rfl, hlt, hc⟩
  · exact .inl h
  · refine .inr ⟨b, off, c, rfl, by have := hb.size; omega, fun j hj => ?_⟩
    obtain ⟨x, y, h1, h2⟩ := hc j hj
    exact ⟨x, y, by rw [hb.cell (p := ⟨b, off + j, none⟩) hlt]; exact h1, h2⟩
theorem ints_form {w : World} {v : Value} {zs : List Int} (h : IntsAt w v zs) : ∃ a c, v = .slice a zs.length c := by
  obtain ⟨_, ⟨a, c, rfl, rfl⟩ | ⟨b, off, cap, rfl, _⟩⟩ := h
  · exact ⟨_, _, rfl⟩
  · exact ⟨_, _, rfl⟩
theorem mrows_form {w : World} {v : Value} {ws : List (List Int)} (h : RowsAt w v ws) : ∃ a c, v = .slice a ws.length c := by
  obtain ⟨_, ⟨a, c, rfl, rfl⟩ | ⟨b, off, cap, rfl, _⟩⟩ := h
  · exact ⟨_, _, rfl⟩
  · exact ⟨_, _, rfl⟩
theorem sz_form {w : World} {v : Value} {n : Nat} {L : Nat → Nat} (h : SzAt w v n L) : ∃ a c, v = .slice a n c := by
  rcases h with ⟨a, c, rfl, rfl⟩ | ⟨b, off, c, rfl, _⟩
  · exact ⟨_, _, rfl⟩
  · exact ⟨_, _, rfl⟩

section
variable {H : Type} {enc : TypeId × Value → H}
set_option maxRecDepth 20000 in
theorem rows_arg {W : World} {fuel : Nat} {a : Option Addr} {len cap : Nat} {d : DataW H} {p : List MemPlace} (hf : DataW.trod enc Try.prog W 0 (fun _ => true) true fuel 23 (Value.slice a len cap).cells.toList = some (d, p))
    (hlt : ∀ x ∈ p, x.block < W.heap.size) : len ≤ 9223372036854775807 ∧ ∃ L : Nat → Nat, SzAt W (.slice a len cap) len L ∧
      ((len ≤ 1048576 ∧ ∀ j, j < len → L j ≤ 1048576) → ∃ ws : List (List Int), ws.length = len ∧ RowsAt W (.slice a len cap) ws ∧ ∀ j, j < len → (ws.getD j []).length = L j) := by
  have c1 : Try.prog.cellsOf 22 = 1 := by kernel_rfl
  have c2 : Try.prog.cellsOf 2 = 1 := by kernel_rfl
  rcases open_int_rows Try.underlying23 Try.underlying22 Try.underlying2 c1 c2 hf with ⟨hcs, hx⟩ | ⟨a', len', cap', A, L, C, Z, hcs, hb, hl, hm, hx, hel⟩
  · simp [Value.cells] at hcs
    obtain ⟨rfl, rfl, rfl⟩ := hcs
    exact ⟨by omega, fun _ => 0, .inl ⟨_, _, rfl, rfl⟩, fun _ => ⟨[], rfl, ⟨by simp, .inl ⟨_, _, rfl, rfl⟩⟩, fun j hj => by omega⟩⟩
  · simp [Value.cells] at hcs
    obtain ⟨rfl, rfl, rfl⟩ := hcs
    simp only [Prod.mk.injEq] at hx
    obtain ⟨rfl, rfl⟩ := hx
    unfold maxLen at hm
    by_cases hl0 : len = 0
    · subst hl0
      exact ⟨by omega, fun _ => 0, .inl ⟨_, _, rfl, rfl⟩, fun _ => ⟨[], rfl, ⟨by simp, .inl ⟨_, _, rfl, rfl⟩⟩, fun j hj => by omega⟩⟩
    · obtain ⟨b, off, spot⟩ := a'
      have hspot : spot = none := by simpa [Addr.add] using World.cell?_spot (hel 0 (by omega)).1
      subst hspot
      have hbW : b < W.heap.size := hlt (.cell b off) (List.mem_append.2 (.inl (MemPlace.mem_row.2 ⟨0, by omega, by simp⟩)))
      refine ⟨by omega, L, .inr ⟨b, off, cap, rfl, hbW, fun j hj => ?_⟩, fun hs => ?_⟩
      · obtain ⟨h1, h2, h3, -⟩ := hel j (by omega)
        unfold maxLen at h3
        exact ⟨_, _, by rw [← add_plain]; exact h1, by omega⟩
      · refine ⟨(List.range len).map fun r => (Z r).take (L r), by simp, ⟨by simp; omega, .inr ⟨b, off, cap, by simp, hbW, fun j hj => ?_⟩⟩, fun j hj => ?_⟩
        · have hj' : j < len := by simpa using hj
          obtain ⟨h1, h2, h3, h4, h5, h6, h7⟩ := hel j (by omega)
          have hLj := hs.2 j hj'
          have hzl : ((Z j).take (L j)).length = L j := by rw [List.length_take]; omega
          have hg : ((List.range len).map fun r => (Z r).take (L r)).getD j [] = (Z j).take (L j) := by simp [List.getD, hj']
          rw [hg]
          refine ⟨_, by rw [← add_plain]; exact h1, by omega, ?_⟩
          by_cases hL0 : L j = 0
          · exact .inl ⟨_, _, by rw [hL0], by rw [hL0]; simp⟩
          · cases hA : A j with
            | none => have := h6 hA; omega
            | some a2 =>
              obtain ⟨h8, h9⟩ := h7 a2 hA
              obtain ⟨b2, off2, spot2⟩ := a2
              have hspot2 : spot2 = none := by simpa [Addr.add] using World.cell?_spot (h9 0 (by omega))
              subst hspot2
              have hb2 : b2 < W.heap.size := hlt (.cell b2 off2) (List.mem_append.2 (.inr (List.mem_flatMap.2 ⟨j, List.mem_range.2 (by omega), by
                rw [hA]; exact MemPlace.mem_row.2 ⟨0, by omega, by simp⟩⟩)))
              refine .inr ⟨b2, off2, C j, by rw [hzl], hb2, fun i hi => ?_⟩
              rw [hzl] at hi
              rw [← add_plain, h9 i (by omega), List.getD_eq_getElem?_getD, List.getD_eq_getElem?_getD, List.getElem?_take, if_pos hi]
        · obtain ⟨h1, h2, h3, h4, -⟩ := hel j (by omega)
          simp [List.getD, hj]
          omega
end
/-- Rows in blocks of the call's own, one for each. -/
structure RowsOwn (w : World) (B : Nat) (us : List Value) (ws : List (List Int)) : Prop where
  len : us.length = ws.length
  each : ∀ j, j < ws.length → OwnInts w B (us.getD j undef) (ws.getD j [])
  apart : ∀ i j, i < j → j < ws.length → (us.getD i undef).ownBlock ≠ (us.getD j undef).ownBlock
/-- .. and the slice of them in one of its own. -/
def OwnRows (w : World) (B : Nat) (v : Value) (ws : List (List Int)) : Prop := ∃ g cap us, v = .slice (some ⟨g, 0, none⟩) ws.length cap ∧ B ≤ g ∧ g < w.heap.size ∧ w.ownsRow B 22 1 v ws.length us ∧ RowsOwn w B us ws ∧ ∀ j, j < ws.length → (us.getD j undef).ownBlock ≠ some g
theorem rowsOwn_kept {w w' : World} {B : Nat} {us : List Value} {ws : List (List Int)} (hb : Below w.heap.size w w') (h : RowsOwn w B us ws) : RowsOwn w' B us ws :=
  ⟨h.len, fun j hj => own_kept hb (h.each j hj), h.apart⟩
theorem row_keep1 {w w' : World} {B sz : Nat} {e : TypeId} {v : Value} {n : Nat} {xs : List Value} (hb : Below w.heap.size w w') (h : w.ownsRow B e sz v n xs) : w'.ownsRow B e sz v n xs :=
  h.kept (row := none) ⟨hb.os, hb.tape, hb.output, hb.size, fun k hk _ => hb.block k hk⟩ (by cases hv : v.ownBlock <;> simp)
theorem ownRows_kept {w w' : World} {B : Nat} {v : Value} {ws : List (List Int)} (hb : Below w.heap.size w w') (h : OwnRows w B v ws) : OwnRows w' B v ws := by
  obtain ⟨g, cap, us, rfl, h1, h2, h3, h4, h5⟩ := h
  have hs := hb.size
  exact ⟨g, cap, us, rfl, h1, by omega, row_keep1 hb h3, rowsOwn_kept hb h4, h5⟩
theorem ownRows_rows {w : World} {B : Nat} {v : Value} {ws : List (List Int)} (hl : ws.length ≤ 1048576) (hz : ∀ j, j < ws.length → (ws.getD j []).length ≤ 1048576) (h : OwnRows w B v ws) : RowsAt w v ws := by
  obtain ⟨g, cap, us, rfl, h1, h2, h3, h4, h5⟩ := h
  refine ⟨hl, .inr ⟨g, 0, cap, rfl, h2, fun j hj => ⟨us.getD j undef, ?_, own_ints (hz j hj) (h4.each j hj)⟩⟩⟩
  rw [Nat.zero_add, h3.cellAt j (by omega), List.getD_eq_getElem?_getD]
  have := h4.len
  rw [List.getElem?_eq_getElem (by omega)]
  rfl
end Go.Proofs.Ytpjopfhkgegahaa
