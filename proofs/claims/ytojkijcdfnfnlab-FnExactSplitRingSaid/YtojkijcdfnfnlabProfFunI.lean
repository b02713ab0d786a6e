/- Profiles: the program's functions that read a profile and a number. -/
import Derived.Test.YtojkijcdfnfnlabProfVal
import Derived.Test.YtojkijcdfnfnlabProfAt
import Derived.Test.YtojkijcdfnfnlabProfBest
namespace Go.Proofs.Ytojkijcdfnfnlab
open Go.ChangeShapes Go.WideShapes Go.ChangeAt Go.RowKit

theorem prof_take {s : ByteArray} {rs : List Rg} (h : profB s rs = true) (k : Nat) (hk : k ≤ rs.length) : 0 ≤ heights (rs.take k) ∧ heights (rs.take k) ≤ 300000 * k := heights_bd2 k (fun i hi => prof_ring h i (by omega)) hk
end Go.Proofs.Ytojkijcdfnfnlab
