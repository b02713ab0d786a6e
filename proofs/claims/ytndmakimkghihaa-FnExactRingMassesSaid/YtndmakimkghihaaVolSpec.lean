/- The volume of a profile: the reference model's walk. -/
import Derived.Test.YtndmakimkghihaaMassSpec
set_option linter.unusedVariables false
namespace Go.Proofs.Ytndmakimkghihaa
open Go.ChangeShapes Go.WideShapes Go.ChangeAt Go.RowKit

def volC (s : ByteArray) (rs : List Rg) : Int := if profB s rs = true then volP rs else 0
end Go.Proofs.Ytndmakimkghihaa
