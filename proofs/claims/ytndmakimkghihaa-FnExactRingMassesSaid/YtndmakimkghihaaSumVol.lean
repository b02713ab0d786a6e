/- Sums over the rings of a profile: the program's sumOf with VolumeOf$1. -/
import Derived.Test.YtndmakimkghihaaSums
set_option linter.unusedVariables false
namespace Go.Proofs.Ytndmakimkghihaa
open Go.ChangeShapes Go.WideShapes Go.ChangeAt Go.RowKit Go.Shelf
attribute [local go_sem] Oper.semAt_some encPl
end Go.Proofs.Ytndmakimkghihaa
