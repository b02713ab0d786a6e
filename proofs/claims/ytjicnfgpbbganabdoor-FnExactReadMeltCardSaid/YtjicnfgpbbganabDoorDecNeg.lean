/- The reference model writes a number below 0 in decimal. -/
import Derived.Test.YtjicnfgpbbganabDoorDecPos
namespace Go.Proofs.YtjicnfgpbbganabDoor
open Go.ChangeShapes Go.WideShapes Go.ChangeAt Go.RowKit
end Go.Proofs.YtjicnfgpbbganabDoor
