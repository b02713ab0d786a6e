/- Sums over the rings of a profile: the program's sumOfRings with VolumeOf$1. -/
import Derived.Test.YtndmakimkghihaaSumR
import Derived.Test.YtndmakimkghihaaSumVol
import Derived.Test.YtndmakimkghihaaVolSpec
set_option linter.unusedVariables false
namespace Go.Proofs.Ytndmakimkghihaa
open Go.ChangeShapes Go.WideShapes Go.ChangeAt Go.RowKit

end Go.Proofs.Ytndmakimkghihaa
