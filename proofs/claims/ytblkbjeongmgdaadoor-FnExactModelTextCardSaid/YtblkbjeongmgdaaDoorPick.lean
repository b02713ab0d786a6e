/- The least and the greatest of some numbers. -/
import Derived.Test.YtblkbjeongmgdaaDoorWithin
namespace Go.Proofs.YtblkbjeongmgdaaDoor
open Go.ChangeShapes Go.WideShapes Go.ChangeAt Go.RowKit

/-- The list's values, one after the other. -/
def pickLeast (a z : Int) : Int := if z < a then z else a
def pickMost (a z : Int) : Int := if a < z then z else a
theorem fold_snoc (f : Int → Int → Int) (x : Int) (zs : List Int) (k : Nat) (h : k < zs.length) : (zs.take (k + 1)).foldl f x = f ((zs.take k).foldl f x) (zs.getD k 0) := by
  rw [List.take_succ_eq_append_getElem h, List.foldl_append, List.getD_eq_getElem?_getD, List.getElem?_eq_getElem h]; rfl

end Go.Proofs.YtblkbjeongmgdaaDoor
