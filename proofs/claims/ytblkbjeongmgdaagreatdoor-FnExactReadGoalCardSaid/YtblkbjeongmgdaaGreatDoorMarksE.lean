/- Marks laid into a slice of numbers, or an array's, and looked for again. -/
import Derived.Test.YtblkbjeongmgdaaGreatDoorInts
namespace Go.Proofs.YtblkbjeongmgdaaGreatDoor
open Go.ChangeShapes Go.WideShapes Go.ChangeAt Go.RowKit

def marksTo (zs : List Int) (m : Int) (k : Nat) : List Int := (List.range k).map (fun (j : Nat) => m + (j : Int)) ++ zs.drop k
def marks (m : Int) (n : Nat) : List Int := (List.range n).map (fun (j : Nat) => m + (j : Int))
theorem marks_next (zs : List Int) (m : Int) (k : Nat) (h : k < zs.length) : (i64s (marksTo zs m k)).set k (.int .i64 (m + k)) = i64s (marksTo zs m (k + 1)) := by
  unfold marksTo i64s
  rw [List.drop_eq_getElem_cons h, List.range_succ, List.map_append, List.map_append, List.map_cons, List.set_append_right _ _ (by simp)]
  simp
theorem marks_at (zs : List Int) (m : Int) (k : Nat) (h : k < zs.length) : ∃ old, (i64s (marksTo zs m k))[k]? = some (.int .i64 old) := by
  refine ⟨(marksTo zs m k).getD k 0, i64s_get _ k ?_⟩
  unfold marksTo
  rw [List.length_append, List.length_map, List.length_range, List.length_drop]; omega
theorem marks_len (m : Int) (n : Nat) : (marks m n).length = n := by simp [marks]
theorem marks_get (m : Int) (n j : Nat) (h : j < n) : (marks m n).getD j 0 = m + j := by simp [marks, List.getD, h]

theorem cell_set_ne {w : World} {g b : Nat} (k j : Nat) (u : Value) (h : b ≠ g) : (w.setCell ⟨g, k, none⟩ u).cell? ⟨b, j, none⟩ = w.cell? ⟨b, j, none⟩ := World.cell?_of_block (Below.heap_setCell _ _ _ _ h)
end Go.Proofs.YtblkbjeongmgdaaGreatDoor
