/- The shape of the starting world gives bytealg.MaxLen's cell. -/
import Derived.Test.YtblkbjeongmgdaaGreatDoorReadPt
import Derived.Test.YtblkbjeongmgdaaGreatDoorShelfE
namespace Go.Proofs.YtblkbjeongmgdaaGreatDoor
open Go.ChangeShapes Go.WideShapes Go.ChangeAt Go.RowKit
theorem max_of {W : World} (h : W.ShapedOpen Tryz.prog) : MaxOk W := Tryz.laysM154.s1_3 W h
theorem mx_kept {w w' : World} (hb : Below w.heap.size w w') (h : MaxOk w) : MaxOk w' := by
  obtain ⟨m, hm⟩ := h
  exact ⟨m, by rw [hb.cell (p := ⟨_, 0, none⟩) (Lib.lt_of_cell hm)]; exact hm⟩
end Go.Proofs.YtblkbjeongmgdaaGreatDoor
