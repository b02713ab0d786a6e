/- The reference model writes a number below 0 in decimal. -/
import Derived.Test.YtblkbjeongmgdaaGreatDoorDecPos
namespace Go.Proofs.YtblkbjeongmgdaaGreatDoor
open Go.ChangeShapes Go.WideShapes Go.ChangeAt Go.RowKit
end Go.Proofs.YtblkbjeongmgdaaGreatDoor
