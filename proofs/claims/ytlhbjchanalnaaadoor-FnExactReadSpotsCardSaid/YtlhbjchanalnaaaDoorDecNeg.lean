/- The reference model writes a number below 0 in decimal. -/
import Derived.Test.YtlhbjchanalnaaaDoorDecPos
namespace Go.Proofs.YtlhbjchanalnaaaDoor
open Go.ChangeShapes Go.WideShapes Go.ChangeAt Go.RowKit
end Go.Proofs.YtlhbjchanalnaaaDoor
