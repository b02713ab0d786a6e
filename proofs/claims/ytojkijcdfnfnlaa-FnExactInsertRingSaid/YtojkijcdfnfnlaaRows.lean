/-
  No cell of these rows narrows 'for every input' (looked for: loops, veiled, ifaces, maps, wideKeys, modest, calm, conditions, laid).
  DERIVED. THE GIVEN ROWS OF THIS SEAT. 11 by the template 'for every input the law returns true; each argument reads behind the call as it read before'; 0 by the template 'total and deterministic' (their statements: YtojkijcdfnfnlaaTotals.lean).
  GIVEN WITH THE SEED: the statements are not yours to turn. If you find one false, say at which input.
  Laid BY PROGRAM, IN A SANDBOX (cutbox-rows.mjs): the forced cells as the released guide's own fill.sh prints them over the translation cdd4ecb9161e39cc… (all of the seat's roots in one cut). By AI agents, Wed Nov 11 2026. No macro, syntax, notation, axiom, sorry.
-/
import Derived.Test.YtojkijcdfnfnlaaChecked
import GoSem.Claim
import GoSem.ClaimJoined
import GoSem.ClaimMapViews
import Derived.JoinedTies
import Derived.KernelRfl
namespace Go.Proofs.Ytojkijcdfnfnlaa
/- THE CELL 'sum', in the pinned program and in every row, IS THE sha256 OF THE DUMP (.gsa) THAT YtojkijcdfnfnlaaProg.lean LOADS. Nothing in Lean hashes anything: it is a label: what it is worth is what the hold of that sum in a sandbox is worth. -/
noncomputable def Try.pinned : Pinned := { name := "ytojkijcdfnfnlaa", sum := "cdd4ecb9161e39cc15820203827ae3c190c1bc197ee37cf6ed694d68da87de50", checked := Try.checked }
namespace Rows
def none {H : Type} : Left H := { results := [], args := [] }

/-- 'laws.FnExactValidRing': WHATEVER THE INPUT: true; the input reads as it did. -/
def fnExactValidRingSpec : ChangeSpec := { name := "fnExactValidRing", fn := fun _ => fun
  | [d] => { results := [.lit (.bool true)], args := [d] }
  | _ => none }
def fnExactValidRingRow : OpenClaim := { program := "ytojkijcdfnfnlaa", sum := "cdd4ecb9161e39cc15820203827ae3c190c1bc197ee37cf6ed694d68da87de50", func := "loop.example/g00952/laws.FnExactValidRing", spec := "fnExactValidRing", apart := false }
def FnExactValidRingSaid : Prop := fnExactValidRingRow.holds Try.pinned (OpenSpec.ofChange fnExactValidRingSpec)

/-- ITS FALSE NEIGHBOUR: 'it returns false'. Refute it at one input. -/
def fnExactValidRingWrong : ChangeSpec := { name := "fnExactValidRing", fn := fun _ => fun
  | [d] => { results := [.lit (.bool false)], args := [d] }
  | _ => none }
def FnExactValidRingWrongFalsely : Prop := fnExactValidRingRow.holds Try.pinned (OpenSpec.ofChange fnExactValidRingWrong)

/-- 'laws.FnExactValidProfile': WHATEVER THE INPUT: true; the input reads as it did. -/
def fnExactValidProfileSpec : ChangeSpec := { name := "fnExactValidProfile", fn := fun _ => fun
  | [d] => { results := [.lit (.bool true)], args := [d] }
  | _ => none }
def fnExactValidProfileRow : OpenClaim := { program := "ytojkijcdfnfnlaa", sum := "cdd4ecb9161e39cc15820203827ae3c190c1bc197ee37cf6ed694d68da87de50", func := "loop.example/g00952/laws.FnExactValidProfile", spec := "fnExactValidProfile", apart := false }
def FnExactValidProfileSaid : Prop := fnExactValidProfileRow.holds Try.pinned (OpenSpec.ofChange fnExactValidProfileSpec)

/-- ITS FALSE NEIGHBOUR: 'it returns false'. Refute it at one input. -/
def fnExactValidProfileWrong : ChangeSpec := { name := "fnExactValidProfile", fn := fun _ => fun
  | [d] => { results := [.lit (.bool false)], args := [d] }
  | _ => none }
def FnExactValidProfileWrongFalsely : Prop := fnExactValidProfileRow.holds Try.pinned (OpenSpec.ofChange fnExactValidProfileWrong)

/-- 'laws.FnExactSameProfile': WHATEVER THE INPUT: true; the input reads as it did. -/
def fnExactSameProfileSpec : ChangeSpec := { name := "fnExactSameProfile", fn := fun _ => fun
  | [d1, d2] => { results := [.lit (.bool true)], args := [d1, d2] }
  | _ => none }
def fnExactSameProfileRow : OpenClaim := { program := "ytojkijcdfnfnlaa", sum := "cdd4ecb9161e39cc15820203827ae3c190c1bc197ee37cf6ed694d68da87de50", func := "loop.example/g00952/laws.FnExactSameProfile", spec := "fnExactSameProfile", apart := false }
def FnExactSameProfileSaid : Prop := fnExactSameProfileRow.holds Try.pinned (OpenSpec.ofChange fnExactSameProfileSpec)

/-- ITS FALSE NEIGHBOUR: 'it returns false'. Refute it at one input. -/
def fnExactSameProfileWrong : ChangeSpec := { name := "fnExactSameProfile", fn := fun _ => fun
  | [d1, d2] => { results := [.lit (.bool false)], args := [d1, d2] }
  | _ => none }
def FnExactSameProfileWrongFalsely : Prop := fnExactSameProfileRow.holds Try.pinned (OpenSpec.ofChange fnExactSameProfileWrong)

/-- 'laws.FnExactHeightOf': WHATEVER THE INPUT: true; the input reads as it did. -/
def fnExactHeightOfSpec : ChangeSpec := { name := "fnExactHeightOf", fn := fun _ => fun
  | [d] => { results := [.lit (.bool true)], args := [d] }
  | _ => none }
def fnExactHeightOfRow : OpenClaim := { program := "ytojkijcdfnfnlaa", sum := "cdd4ecb9161e39cc15820203827ae3c190c1bc197ee37cf6ed694d68da87de50", func := "loop.example/g00952/laws.FnExactHeightOf", spec := "fnExactHeightOf", apart := false }
def FnExactHeightOfSaid : Prop := fnExactHeightOfRow.holds Try.pinned (OpenSpec.ofChange fnExactHeightOfSpec)

/-- ITS FALSE NEIGHBOUR: 'it returns false'. Refute it at one input. -/
def fnExactHeightOfWrong : ChangeSpec := { name := "fnExactHeightOf", fn := fun _ => fun
  | [d] => { results := [.lit (.bool false)], args := [d] }
  | _ => none }
def FnExactHeightOfWrongFalsely : Prop := fnExactHeightOfRow.holds Try.pinned (OpenSpec.ofChange fnExactHeightOfWrong)

/-- 'laws.FnExactLipDiameter': WHATEVER THE INPUT: true; the input reads as it did. -/
def fnExactLipDiameterSpec : ChangeSpec := { name := "fnExactLipDiameter", fn := fun _ => fun
  | [d] => { results := [.lit (.bool true)], args := [d] }
  | _ => none }
def fnExactLipDiameterRow : OpenClaim := { program := "ytojkijcdfnfnlaa", sum := "cdd4ecb9161e39cc15820203827ae3c190c1bc197ee37cf6ed694d68da87de50", func := "loop.example/g00952/laws.FnExactLipDiameter", spec := "fnExactLipDiameter", apart := false }
def FnExactLipDiameterSaid : Prop := fnExactLipDiameterRow.holds Try.pinned (OpenSpec.ofChange fnExactLipDiameterSpec)

/-- ITS FALSE NEIGHBOUR: 'it returns false'. Refute it at one input. -/
def fnExactLipDiameterWrong : ChangeSpec := { name := "fnExactLipDiameter", fn := fun _ => fun
  | [d] => { results := [.lit (.bool false)], args := [d] }
  | _ => none }
def FnExactLipDiameterWrongFalsely : Prop := fnExactLipDiameterRow.holds Try.pinned (OpenSpec.ofChange fnExactLipDiameterWrong)

/-- 'laws.FnExactRingAt': WHATEVER THE INPUT: true; the input reads as it did. -/
def fnExactRingAtSpec : ChangeSpec := { name := "fnExactRingAt", fn := fun _ => fun
  | [d1, d2] => { results := [.lit (.bool true)], args := [d1, d2] }
  | _ => none }
def fnExactRingAtRow : OpenClaim := { program := "ytojkijcdfnfnlaa", sum := "cdd4ecb9161e39cc15820203827ae3c190c1bc197ee37cf6ed694d68da87de50", func := "loop.example/g00952/laws.FnExactRingAt", spec := "fnExactRingAt", apart := false }
def FnExactRingAtSaid : Prop := fnExactRingAtRow.holds Try.pinned (OpenSpec.ofChange fnExactRingAtSpec)

/-- ITS FALSE NEIGHBOUR: 'it returns false'. Refute it at one input. -/
def fnExactRingAtWrong : ChangeSpec := { name := "fnExactRingAt", fn := fun _ => fun
  | [d1, d2] => { results := [.lit (.bool false)], args := [d1, d2] }
  | _ => none }
def FnExactRingAtWrongFalsely : Prop := fnExactRingAtRow.holds Try.pinned (OpenSpec.ofChange fnExactRingAtWrong)

/-- 'laws.FnExactWallAt': WHATEVER THE INPUT: true; the input reads as it did. -/
def fnExactWallAtSpec : ChangeSpec := { name := "fnExactWallAt", fn := fun _ => fun
  | [d1, d2] => { results := [.lit (.bool true)], args := [d1, d2] }
  | _ => none }
def fnExactWallAtRow : OpenClaim := { program := "ytojkijcdfnfnlaa", sum := "cdd4ecb9161e39cc15820203827ae3c190c1bc197ee37cf6ed694d68da87de50", func := "loop.example/g00952/laws.FnExactWallAt", spec := "fnExactWallAt", apart := false }
def FnExactWallAtSaid : Prop := fnExactWallAtRow.holds Try.pinned (OpenSpec.ofChange fnExactWallAtSpec)

/-- ITS FALSE NEIGHBOUR: 'it returns false'. Refute it at one input. -/
def fnExactWallAtWrong : ChangeSpec := { name := "fnExactWallAt", fn := fun _ => fun
  | [d1, d2] => { results := [.lit (.bool false)], args := [d1, d2] }
  | _ => none }
def FnExactWallAtWrongFalsely : Prop := fnExactWallAtRow.holds Try.pinned (OpenSpec.ofChange fnExactWallAtWrong)

/-- 'laws.FnExactThinnestRing': WHATEVER THE INPUT: true; the input reads as it did. -/
def fnExactThinnestRingSpec : ChangeSpec := { name := "fnExactThinnestRing", fn := fun _ => fun
  | [d] => { results := [.lit (.bool true)], args := [d] }
  | _ => none }
def fnExactThinnestRingRow : OpenClaim := { program := "ytojkijcdfnfnlaa", sum := "cdd4ecb9161e39cc15820203827ae3c190c1bc197ee37cf6ed694d68da87de50", func := "loop.example/g00952/laws.FnExactThinnestRing", spec := "fnExactThinnestRing", unfollowed := true, recurses := true, apart := false }
def FnExactThinnestRingSaid : Prop := fnExactThinnestRingRow.holds Try.pinned (OpenSpec.ofChange fnExactThinnestRingSpec)

/-- ITS FALSE NEIGHBOUR: 'it returns false'. Refute it at one input. -/
def fnExactThinnestRingWrong : ChangeSpec := { name := "fnExactThinnestRing", fn := fun _ => fun
  | [d] => { results := [.lit (.bool false)], args := [d] }
  | _ => none }
def FnExactThinnestRingWrongFalsely : Prop := fnExactThinnestRingRow.holds Try.pinned (OpenSpec.ofChange fnExactThinnestRingWrong)

/-- 'laws.FnExactWidestRing': WHATEVER THE INPUT: true; the input reads as it did. -/
def fnExactWidestRingSpec : ChangeSpec := { name := "fnExactWidestRing", fn := fun _ => fun
  | [d] => { results := [.lit (.bool true)], args := [d] }
  | _ => none }
def fnExactWidestRingRow : OpenClaim := { program := "ytojkijcdfnfnlaa", sum := "cdd4ecb9161e39cc15820203827ae3c190c1bc197ee37cf6ed694d68da87de50", func := "loop.example/g00952/laws.FnExactWidestRing", spec := "fnExactWidestRing", unfollowed := true, recurses := true, apart := false }
def FnExactWidestRingSaid : Prop := fnExactWidestRingRow.holds Try.pinned (OpenSpec.ofChange fnExactWidestRingSpec)

/-- ITS FALSE NEIGHBOUR: 'it returns false'. Refute it at one input. -/
def fnExactWidestRingWrong : ChangeSpec := { name := "fnExactWidestRing", fn := fun _ => fun
  | [d] => { results := [.lit (.bool false)], args := [d] }
  | _ => none }
def FnExactWidestRingWrongFalsely : Prop := fnExactWidestRingRow.holds Try.pinned (OpenSpec.ofChange fnExactWidestRingWrong)

/-- 'laws.FnExactInsertRing': WHATEVER THE INPUT: true; the input reads as it did. -/
def fnExactInsertRingSpec : ChangeSpec := { name := "fnExactInsertRing", fn := fun _ => fun
  | [d1, d2, d3] => { results := [.lit (.bool true)], args := [d1, d2, d3] }
  | _ => none }
def fnExactInsertRingRow : OpenClaim := { program := "ytojkijcdfnfnlaa", sum := "cdd4ecb9161e39cc15820203827ae3c190c1bc197ee37cf6ed694d68da87de50", func := "loop.example/g00952/laws.FnExactInsertRing", spec := "fnExactInsertRing", inPlace := ["slices.overlaps[loop.example/g00952/impl.Ring]"], apart := false }
def FnExactInsertRingSaid : Prop := fnExactInsertRingRow.holds Try.pinned (OpenSpec.ofChange fnExactInsertRingSpec)

/-- ITS FALSE NEIGHBOUR: 'it returns false'. Refute it at one input. -/
def fnExactInsertRingWrong : ChangeSpec := { name := "fnExactInsertRing", fn := fun _ => fun
  | [d1, d2, d3] => { results := [.lit (.bool false)], args := [d1, d2, d3] }
  | _ => none }
def FnExactInsertRingWrongFalsely : Prop := fnExactInsertRingRow.holds Try.pinned (OpenSpec.ofChange fnExactInsertRingWrong)

/-- 'laws.FnExactRemoveRing': WHATEVER THE INPUT: true; the input reads as it did. -/
def fnExactRemoveRingSpec : ChangeSpec := { name := "fnExactRemoveRing", fn := fun _ => fun
  | [d1, d2] => { results := [.lit (.bool true)], args := [d1, d2] }
  | _ => none }
def fnExactRemoveRingRow : OpenClaim := { program := "ytojkijcdfnfnlaa", sum := "cdd4ecb9161e39cc15820203827ae3c190c1bc197ee37cf6ed694d68da87de50", func := "loop.example/g00952/laws.FnExactRemoveRing", spec := "fnExactRemoveRing", apart := false }
def FnExactRemoveRingSaid : Prop := fnExactRemoveRingRow.holds Try.pinned (OpenSpec.ofChange fnExactRemoveRingSpec)

/-- ITS FALSE NEIGHBOUR: 'it returns false'. Refute it at one input. -/
def fnExactRemoveRingWrong : ChangeSpec := { name := "fnExactRemoveRing", fn := fun _ => fun
  | [d1, d2] => { results := [.lit (.bool false)], args := [d1, d2] }
  | _ => none }
def FnExactRemoveRingWrongFalsely : Prop := fnExactRemoveRingRow.holds Try.pinned (OpenSpec.ofChange fnExactRemoveRingWrong)

/- THE SECOND FORM. 'bulk': how many values and letters a reading holds, each counted each time it is reached (what is shared counts as often as it is met; a slice's spare places count too). A statement '..UptoSaid' is the law's where the arguments, and the package variables that the reading takes, are together of bulk at most 1048576: NARROWER than '..Said'. Prove '..Said' where nothing that the law and all that it calls make is longer than what came in: it says more and counts as full. Else prove '..UptoSaid'. A law counts once. -/
mutual
def uptoBulk {H : Type} : DataW H → Nat
  | .lit (.string bytes) => bytes.length + 1
  | .lit _ => 1
  | .nil => 1
  | .ptr d => uptoBulk d + 1
  | .slice elems spare => uptoBulkAll elems + uptoBulkAll spare + 1
  | .agg parts => uptoBulkAll parts + 1
  | .iface _ d => uptoBulk d + 1
  | .map entries => uptoBulkEntries entries + 1
  | .held _ => 1
def uptoBulkAll {H : Type} : List (DataW H) → Nat
  | [] => 0
  | d :: r => uptoBulk d + uptoBulkAll r
def uptoBulkEntries {H : Type} : List (Lit × DataW H) → Nat
  | [] => 0
  | x :: r => uptoBulkEntry x + uptoBulkEntries r
def uptoBulkEntry {H : Type} : Lit × DataW H → Nat
  | (.string bytes, d) => bytes.length + uptoBulk d + 1
  | (_, d) => uptoBulk d + 1
 end
def uptoSmall : (H : Type) → List (DataW H) → Bool := fun _ ds => decide (uptoBulkAll ds ≤ 1048576)
def OpenSpec.upto (s : _root_.Go.ChangeSpec) : _root_.Go.OpenSpec := { _root_.Go.OpenSpec.ofChange s with cond := some uptoSmall }

/-- 'laws.FnExactValidRing', WHERE WHAT IT READS IS OF BULK AT MOST 1048576: true; the input reads as it did. -/
def fnExactValidRingUptoRow : OpenClaim := { program := "ytojkijcdfnfnlaa", sum := "cdd4ecb9161e39cc15820203827ae3c190c1bc197ee37cf6ed694d68da87de50", func := "loop.example/g00952/laws.FnExactValidRing", spec := "fnExactValidRing", apart := false, narrowed := true }
def FnExactValidRingUptoSaid : Prop := fnExactValidRingUptoRow.holds Try.pinned (OpenSpec.upto fnExactValidRingSpec)

/-- 'laws.FnExactValidProfile', WHERE WHAT IT READS IS OF BULK AT MOST 1048576: true; the input reads as it did. -/
def fnExactValidProfileUptoRow : OpenClaim := { program := "ytojkijcdfnfnlaa", sum := "cdd4ecb9161e39cc15820203827ae3c190c1bc197ee37cf6ed694d68da87de50", func := "loop.example/g00952/laws.FnExactValidProfile", spec := "fnExactValidProfile", apart := false, narrowed := true }
def FnExactValidProfileUptoSaid : Prop := fnExactValidProfileUptoRow.holds Try.pinned (OpenSpec.upto fnExactValidProfileSpec)

/-- 'laws.FnExactSameProfile', WHERE WHAT IT READS IS OF BULK AT MOST 1048576: true; the input reads as it did. -/
def fnExactSameProfileUptoRow : OpenClaim := { program := "ytojkijcdfnfnlaa", sum := "cdd4ecb9161e39cc15820203827ae3c190c1bc197ee37cf6ed694d68da87de50", func := "loop.example/g00952/laws.FnExactSameProfile", spec := "fnExactSameProfile", apart := false, narrowed := true }
def FnExactSameProfileUptoSaid : Prop := fnExactSameProfileUptoRow.holds Try.pinned (OpenSpec.upto fnExactSameProfileSpec)

/-- 'laws.FnExactHeightOf', WHERE WHAT IT READS IS OF BULK AT MOST 1048576: true; the input reads as it did. -/
def fnExactHeightOfUptoRow : OpenClaim := { program := "ytojkijcdfnfnlaa", sum := "cdd4ecb9161e39cc15820203827ae3c190c1bc197ee37cf6ed694d68da87de50", func := "loop.example/g00952/laws.FnExactHeightOf", spec := "fnExactHeightOf", apart := false, narrowed := true }
def FnExactHeightOfUptoSaid : Prop := fnExactHeightOfUptoRow.holds Try.pinned (OpenSpec.upto fnExactHeightOfSpec)

/-- 'laws.FnExactLipDiameter', WHERE WHAT IT READS IS OF BULK AT MOST 1048576: true; the input reads as it did. -/
def fnExactLipDiameterUptoRow : OpenClaim := { program := "ytojkijcdfnfnlaa", sum := "cdd4ecb9161e39cc15820203827ae3c190c1bc197ee37cf6ed694d68da87de50", func := "loop.example/g00952/laws.FnExactLipDiameter", spec := "fnExactLipDiameter", apart := false, narrowed := true }
def FnExactLipDiameterUptoSaid : Prop := fnExactLipDiameterUptoRow.holds Try.pinned (OpenSpec.upto fnExactLipDiameterSpec)

/-- 'laws.FnExactRingAt', WHERE WHAT IT READS IS OF BULK AT MOST 1048576: true; the input reads as it did. -/
def fnExactRingAtUptoRow : OpenClaim := { program := "ytojkijcdfnfnlaa", sum := "cdd4ecb9161e39cc15820203827ae3c190c1bc197ee37cf6ed694d68da87de50", func := "loop.example/g00952/laws.FnExactRingAt", spec := "fnExactRingAt", apart := false, narrowed := true }
def FnExactRingAtUptoSaid : Prop := fnExactRingAtUptoRow.holds Try.pinned (OpenSpec.upto fnExactRingAtSpec)

/-- 'laws.FnExactWallAt', WHERE WHAT IT READS IS OF BULK AT MOST 1048576: true; the input reads as it did. -/
def fnExactWallAtUptoRow : OpenClaim := { program := "ytojkijcdfnfnlaa", sum := "cdd4ecb9161e39cc15820203827ae3c190c1bc197ee37cf6ed694d68da87de50", func := "loop.example/g00952/laws.FnExactWallAt", spec := "fnExactWallAt", apart := false, narrowed := true }
def FnExactWallAtUptoSaid : Prop := fnExactWallAtUptoRow.holds Try.pinned (OpenSpec.upto fnExactWallAtSpec)

/-- 'laws.FnExactThinnestRing', WHERE WHAT IT READS IS OF BULK AT MOST 1048576: true; the input reads as it did. -/
def fnExactThinnestRingUptoRow : OpenClaim := { program := "ytojkijcdfnfnlaa", sum := "cdd4ecb9161e39cc15820203827ae3c190c1bc197ee37cf6ed694d68da87de50", func := "loop.example/g00952/laws.FnExactThinnestRing", spec := "fnExactThinnestRing", unfollowed := true, recurses := true, apart := false, narrowed := true }
def FnExactThinnestRingUptoSaid : Prop := fnExactThinnestRingUptoRow.holds Try.pinned (OpenSpec.upto fnExactThinnestRingSpec)

/-- 'laws.FnExactWidestRing', WHERE WHAT IT READS IS OF BULK AT MOST 1048576: true; the input reads as it did. -/
def fnExactWidestRingUptoRow : OpenClaim := { program := "ytojkijcdfnfnlaa", sum := "cdd4ecb9161e39cc15820203827ae3c190c1bc197ee37cf6ed694d68da87de50", func := "loop.example/g00952/laws.FnExactWidestRing", spec := "fnExactWidestRing", unfollowed := true, recurses := true, apart := false, narrowed := true }
def FnExactWidestRingUptoSaid : Prop := fnExactWidestRingUptoRow.holds Try.pinned (OpenSpec.upto fnExactWidestRingSpec)

/-- 'laws.FnExactInsertRing', WHERE WHAT IT READS IS OF BULK AT MOST 1048576: true; the input reads as it did. -/
def fnExactInsertRingUptoRow : OpenClaim := { program := "ytojkijcdfnfnlaa", sum := "cdd4ecb9161e39cc15820203827ae3c190c1bc197ee37cf6ed694d68da87de50", func := "loop.example/g00952/laws.FnExactInsertRing", spec := "fnExactInsertRing", inPlace := ["slices.overlaps[loop.example/g00952/impl.Ring]"], apart := false, narrowed := true }
def FnExactInsertRingUptoSaid : Prop := fnExactInsertRingUptoRow.holds Try.pinned (OpenSpec.upto fnExactInsertRingSpec)

/-- 'laws.FnExactRemoveRing', WHERE WHAT IT READS IS OF BULK AT MOST 1048576: true; the input reads as it did. -/
def fnExactRemoveRingUptoRow : OpenClaim := { program := "ytojkijcdfnfnlaa", sum := "cdd4ecb9161e39cc15820203827ae3c190c1bc197ee37cf6ed694d68da87de50", func := "loop.example/g00952/laws.FnExactRemoveRing", spec := "fnExactRemoveRing", apart := false, narrowed := true }
def FnExactRemoveRingUptoSaid : Prop := fnExactRemoveRingUptoRow.holds Try.pinned (OpenSpec.upto fnExactRemoveRingSpec)

end Rows
end Go.Proofs.Ytojkijcdfnfnlaa
