/- Goals by value: an argument opened, a copy of one. -/
import Derived.Test.YtblkbjeongmgdaaGreatDoorSnd
import Derived.Test.YtblkbjeongmgdaaGreatDoorBase
set_option linter.unusedVariables false
namespace Go.Proofs.YtblkbjeongmgdaaGreatDoor
open Go.ChangeShapes Go.WideShapes Go.ChangeAt Go.RowKit Go.Deep

theorem alloc_ltG (w : World) (o : Obj) : w.heap.size < (w.alloc o).heap.size := by show _ < (w.heap.push o).size; rw [Array.size_push]; omega
theorem below_alG (w : World) (o : Obj) : Below w.heap.size w (w.alloc o) := (Below.refl _ _).alloc (Nat.le_refl _) o
theorem cell_intG (w : World) (x : Int) (T : TypeId) (n : Nat) (hn : n = w.heap.size) : ∀ j, j < 1 → (w.alloc (.cells #[.int .i64 x] T)).cell? ⟨n, 0 + j, none⟩ = some (.int .i64 ([x].getD j 0)) := by
  intro j hj
  obtain rfl : j = 0 := by omega
  subst hn
  go_simp
theorem array7 {α : Type} {cs : Array α} (h : cs.size = 7) : ∃ c0 c1 c2 c3 c4 c5 c6, cs = #[c0, c1, c2, c3, c4, c5, c6] := by
  obtain ⟨l⟩ := cs
  match l, h with
  | [c0, c1, c2, c3, c4, c5, c6], _ => exact ⟨c0, c1, c2, c3, c4, c5, c6, rfl⟩
section
variable {H : Type} {enc : TypeId × Value → H}
end
/-- The seven numbers lie in block g. -/
def Seven (w : World) (g : Nat) (a b c e f t q : Int) : Prop := Five w g a b c e f ∧ w.cell? ⟨g, 5, none⟩ = some (.int .i64 t) ∧ w.cell? ⟨g, 6, none⟩ = some (.int .i64 q)
theorem seven_kept {w w' : World} {g : Nat} {a b c e f t q : Int} (hb : Below w.heap.size w w') (hg : g < w.heap.size) (h : Seven w g a b c e f t q) : Seven w' g a b c e f t q :=
  ⟨five_kept hb hg h.1, (below_cell hb _ _ hg).trans h.2.1, (below_cell hb _ _ hg).trans h.2.2⟩
theorem seven_alloc (w : World) (a b c e f t q : Int) (T : TypeId) : Seven (w.alloc (.cells #[.int .i64 a, .int .i64 b, .int .i64 c, .int .i64 e, .int .i64 f, .int .i64 t, .int .i64 q] T)) w.heap.size a b c e f t q :=
  ⟨⟨by go_simp, by go_simp, by go_simp, by go_simp, by go_simp⟩, by go_simp, by go_simp⟩
def Clean7 (w : World) (g : Nat) : Prop := Seven w g 0 0 0 0 0 0 0 ∧ ∀ i, w.frozen? ⟨g, i, none⟩ = false
end Go.Proofs.YtblkbjeongmgdaaGreatDoor
