/- Answers that are five numbers in a slice of the call's own, or none and a code. -/
import Derived.Test.YtblkbjeongmgdaaGreatDoorMarksE
namespace Go.Proofs.YtblkbjeongmgdaaGreatDoor
open Go.ChangeShapes Go.WideShapes Go.ChangeAt Go.RowKit

/-- Block g is the call's own and holds five numbers. -/
def OwnFive (E : TypeId) (w : World) (g cap : Nat) (zs : List Int) (w' : World) : Prop := w.heap.size ≤ g ∧ w'.ownsRow w.heap.size E 1 (.slice (some ⟨g, 0, none⟩) 5 cap) 5 (i64s zs)
def FiveIs (E : TypeId) (ok : Bool) (zs : List Int) (cd : Int) (w : World) (en : Ending) (w' : World) : Prop :=
  Below w.heap.size w w' ∧ ((ok = true ∧ ∃ g cap, en = .returned (.tuple #[.slice (some ⟨g, 0, none⟩) 5 cap, .int .i64 0]) ∧ OwnFive E w g cap zs w') ∨ (ok = false ∧ en = .returned (.tuple #[.slice none 0 0, .int .i64 cd])))
theorem row_low5 {w : World} {B B' : Nat} {e : TypeId} {v : Value} {n : Nat} {xs : List Value} (h : w.ownsRow B e 1 v n xs) (hB : B' ≤ B) : w.ownsRow B' e 1 v n xs := by
  obtain ⟨h1, h2 | ⟨g, cap, cur, h3, h4, h5⟩⟩ := h
  · exact ⟨h1, .inl h2⟩
  · exact ⟨h1, .inr ⟨g, cap, cur, h3, Nat.le_trans hB h4, h5⟩⟩
theorem row_keep5 {w w' : World} {B : Nat} {e : TypeId} {v : Value} {n : Nat} {xs : List Value} (hb : Below w.heap.size w w') (h : w.ownsRow B e 1 v n xs) : w'.ownsRow B e 1 v n xs :=
  h.kept (row := none) ⟨hb.os, hb.tape, hb.output, hb.size, fun k hk _ => hb.block k hk⟩ (by cases hv : v.ownBlock <;> simp)
theorem row_cells {E : TypeId} {w : World} {B g cap n : Nat} {zs : List Int} (hn : zs.length = n) (hown : w.ownsRow B E 1 (.slice (some ⟨g, 0, none⟩) n cap) n (i64s zs)) : ∀ j, j < n → w.cell? ⟨g, 0 + j, none⟩ = some (.int .i64 (zs.getD j 0)) := by
  intro j hj
  rw [Nat.zero_add, hown.cellAt j (by omega)]
  exact i64s_get zs j (by omega)
end Go.Proofs.YtblkbjeongmgdaaGreatDoor
