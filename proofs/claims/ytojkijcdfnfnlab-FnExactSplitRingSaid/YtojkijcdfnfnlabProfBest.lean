/- Profiles: the thinnest ring and the widest one, the reference model's. -/
import Derived.Test.YtojkijcdfnfnlabProfFuns
namespace Go.Proofs.Ytojkijcdfnfnlab
open Go.ChangeShapes Go.WideShapes Go.ChangeAt Go.RowKit

/-- The first index at which g is least, among 0 to i. -/
def minI (g : Nat → Int) : Nat → Nat
  | 0 => 0
  | i + 1 => if g (i + 1) < g (minI g i) then i + 1 else minI g i
theorem minI_le (g : Nat → Int) (i : Nat) : minI g i ≤ i := by
  induction i with
  | zero => exact Nat.le_refl _
  | succ i ih => unfold minI; split <;> omega
def wallF (rs : List Rg) (i : Nat) : Int := (rs.getD i zR).1 - (rs.getD i zR).2.1
def wideF (rs : List Rg) (i : Nat) : Int := -(rs.getD i zR).1
def thinR (s : ByteArray) (rs : List Rg) : Int := if profB s rs = true then (minI (wallF rs) (rs.length - 1) : Nat) else 0
def widR (s : ByteArray) (rs : List Rg) : Int := if profB s rs = true then (minI (wideF rs) (rs.length - 1) : Nat) else 0
end Go.Proofs.Ytojkijcdfnfnlab
