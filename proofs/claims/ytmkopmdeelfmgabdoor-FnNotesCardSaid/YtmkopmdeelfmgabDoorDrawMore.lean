/- More choices of the reference model's source: yes once in n times; one of some numbers. -/
import Derived.Test.YtmkopmdeelfmgabDoorDrawPick
namespace Go.Proofs.YtmkopmdeelfmgabDoor
open Go.ChangeShapes Go.WideShapes Go.ChangeAt Go.RowKit

/-- A number between two bounds; the source after at most k draws; nothing else has turned. -/
def DrawIn (g k : Nat) (lo hi : Int) (w : World) (e : Ending) (w' : World) : Prop := ∃ r : Int, lo ≤ r ∧ r ≤ hi ∧ e = .returned (.int .i64 r) ∧ SrcAt w' g k ∧ w.grownBy w' (some g)
def DrawOne (g k : Nat) (w : World) (e : Ending) (w' : World) : Prop := ∃ b : Bool, e = .returned (.bool b) ∧ SrcAt w' g k ∧ w.grownBy w' (some g)
theorem grown_alloc (w : World) (o : Obj) (g : Nat) : w.grownBy (w.alloc o) (some g) :=
  ⟨rfl, rfl, rfl, by simp, fun k hk _ => ((Below.refl w.heap.size w).alloc (Nat.le_refl _) o).block k hk⟩
theorem src_alloc {w : World} {g k : Nat} (h : SrcAt w g k) (o : Obj) : SrcAt (w.alloc o) g k := by
  have hlt : g < w.heap.size := by
    obtain ⟨v, p, s, h⟩ := h
    exact cell_lt h.code
  exact src_kept (row := none) h ⟨rfl, rfl, rfl, by simp, fun k hk _ => ((Below.refl w.heap.size w).alloc (Nat.le_refl _) o).block k hk⟩ (fun r hr => by cases hr) hlt


end Go.Proofs.YtmkopmdeelfmgabDoor
