/-
  No cell of these rows narrows 'for every input' (looked for: loops, veiled, ifaces, maps, wideKeys, modest, calm, conditions, laid).
  DERIVED. THE GIVEN ROWS OF THIS SEAT. 9 by the template 'for every input the law returns true; each argument reads behind the call as it read before'; 0 by the template 'total and deterministic' (their statements: YtfleececlafjkaaTotals.lean).
  GIVEN WITH THE SEED: the statements are not yours to turn. If you find one false, say at which input.
  Laid BY PROGRAM, IN A SANDBOX (cutbox-rows.mjs): the forced cells as the released guide's own fill.sh prints them over the translation 009dbac30a7aa585… (all of the seat's roots in one cut). By AI agents, Wed Nov 11 2026. No macro, syntax, notation, axiom, sorry.
-/
import Derived.Test.YtfleececlafjkaaChecked
import GoSem.Claim
import GoSem.ClaimJoined
import GoSem.ClaimMapViews
import Derived.JoinedTies
import Derived.KernelRfl
namespace Go.Proofs.Ytfleececlafjkaa
/- THE CELL 'sum', in the pinned program and in every row, IS THE sha256 OF THE DUMP (.gsa) THAT YtfleececlafjkaaProg.lean LOADS. Nothing in Lean hashes anything: it is a label: what it is worth is what the hold of that sum in a sandbox is worth. -/
noncomputable def Try.pinned : Pinned := { name := "ytfleececlafjkaa", sum := "009dbac30a7aa585ae8ac4a00a4de9b1c8b240690151cfb7f4332ec004fa123b", checked := Try.checked }
namespace Rows
def none {H : Type} : Left H := { results := [], args := [] }

/-- 'laws.FnExactClassOf': WHATEVER THE INPUT: true; the input reads as it did. -/
def fnExactClassOfSpec : ChangeSpec := { name := "fnExactClassOf", fn := fun _ => fun
  | [d] => { results := [.lit (.bool true)], args := [d] }
  | _ => none }
def fnExactClassOfRow : OpenClaim := { program := "ytfleececlafjkaa", sum := "009dbac30a7aa585ae8ac4a00a4de9b1c8b240690151cfb7f4332ec004fa123b", func := "loop.example/g00952/laws.FnExactClassOf", spec := "fnExactClassOf", apart := false }
def FnExactClassOfSaid : Prop := fnExactClassOfRow.holds Try.pinned (OpenSpec.ofChange fnExactClassOfSpec)

/-- ITS FALSE NEIGHBOUR: 'it returns false'. Refute it at one input. -/
def fnExactClassOfWrong : ChangeSpec := { name := "fnExactClassOf", fn := fun _ => fun
  | [d] => { results := [.lit (.bool false)], args := [d] }
  | _ => none }
def FnExactClassOfWrongFalsely : Prop := fnExactClassOfRow.holds Try.pinned (OpenSpec.ofChange fnExactClassOfWrong)

/-- 'laws.FnExactWorstClass': WHATEVER THE INPUT: true; the input reads as it did. -/
def fnExactWorstClassSpec : ChangeSpec := { name := "fnExactWorstClass", fn := fun _ => fun
  | [d] => { results := [.lit (.bool true)], args := [d] }
  | _ => none }
def fnExactWorstClassRow : OpenClaim := { program := "ytfleececlafjkaa", sum := "009dbac30a7aa585ae8ac4a00a4de9b1c8b240690151cfb7f4332ec004fa123b", func := "loop.example/g00952/laws.FnExactWorstClass", spec := "fnExactWorstClass", apart := false }
def FnExactWorstClassSaid : Prop := fnExactWorstClassRow.holds Try.pinned (OpenSpec.ofChange fnExactWorstClassSpec)

/-- ITS FALSE NEIGHBOUR: 'it returns false'. Refute it at one input. -/
def fnExactWorstClassWrong : ChangeSpec := { name := "fnExactWorstClass", fn := fun _ => fun
  | [d] => { results := [.lit (.bool false)], args := [d] }
  | _ => none }
def FnExactWorstClassWrongFalsely : Prop := fnExactWorstClassRow.holds Try.pinned (OpenSpec.ofChange fnExactWorstClassWrong)

/-- 'laws.FnExactWarbleBeat': WHATEVER THE INPUT: true; the input reads as it did. -/
def fnExactWarbleBeatSpec : ChangeSpec := { name := "fnExactWarbleBeat", fn := fun _ => fun
  | [d1, d2] => { results := [.lit (.bool true)], args := [d1, d2] }
  | _ => none }
def fnExactWarbleBeatRow : OpenClaim := { program := "ytfleececlafjkaa", sum := "009dbac30a7aa585ae8ac4a00a4de9b1c8b240690151cfb7f4332ec004fa123b", func := "loop.example/g00952/laws.FnExactWarbleBeat", spec := "fnExactWarbleBeat", apart := false }
def FnExactWarbleBeatSaid : Prop := fnExactWarbleBeatRow.holds Try.pinned (OpenSpec.ofChange fnExactWarbleBeatSpec)

/-- ITS FALSE NEIGHBOUR: 'it returns false'. Refute it at one input. -/
def fnExactWarbleBeatWrong : ChangeSpec := { name := "fnExactWarbleBeat", fn := fun _ => fun
  | [d1, d2] => { results := [.lit (.bool false)], args := [d1, d2] }
  | _ => none }
def FnExactWarbleBeatWrongFalsely : Prop := fnExactWarbleBeatRow.holds Try.pinned (OpenSpec.ofChange fnExactWarbleBeatWrong)

/-- 'laws.FnExactValidSpots': WHATEVER THE INPUT: true; the input reads as it did. -/
def fnExactValidSpotsSpec : ChangeSpec := { name := "fnExactValidSpots", fn := fun _ => fun
  | [d] => { results := [.lit (.bool true)], args := [d] }
  | _ => none }
def fnExactValidSpotsRow : OpenClaim := { program := "ytfleececlafjkaa", sum := "009dbac30a7aa585ae8ac4a00a4de9b1c8b240690151cfb7f4332ec004fa123b", func := "loop.example/g00952/laws.FnExactValidSpots", spec := "fnExactValidSpots", apart := false }
def FnExactValidSpotsSaid : Prop := fnExactValidSpotsRow.holds Try.pinned (OpenSpec.ofChange fnExactValidSpotsSpec)

/-- ITS FALSE NEIGHBOUR: 'it returns false'. Refute it at one input. -/
def fnExactValidSpotsWrong : ChangeSpec := { name := "fnExactValidSpots", fn := fun _ => fun
  | [d] => { results := [.lit (.bool false)], args := [d] }
  | _ => none }
def FnExactValidSpotsWrongFalsely : Prop := fnExactValidSpotsRow.holds Try.pinned (OpenSpec.ofChange fnExactValidSpotsWrong)

/-- 'laws.FnExactSameSpots': WHATEVER THE INPUT: true; the input reads as it did. -/
def fnExactSameSpotsSpec : ChangeSpec := { name := "fnExactSameSpots", fn := fun _ => fun
  | [d1, d2] => { results := [.lit (.bool true)], args := [d1, d2] }
  | _ => none }
def fnExactSameSpotsRow : OpenClaim := { program := "ytfleececlafjkaa", sum := "009dbac30a7aa585ae8ac4a00a4de9b1c8b240690151cfb7f4332ec004fa123b", func := "loop.example/g00952/laws.FnExactSameSpots", spec := "fnExactSameSpots", apart := false }
def FnExactSameSpotsSaid : Prop := fnExactSameSpotsRow.holds Try.pinned (OpenSpec.ofChange fnExactSameSpotsSpec)

/-- ITS FALSE NEIGHBOUR: 'it returns false'. Refute it at one input. -/
def fnExactSameSpotsWrong : ChangeSpec := { name := "fnExactSameSpots", fn := fun _ => fun
  | [d1, d2] => { results := [.lit (.bool false)], args := [d1, d2] }
  | _ => none }
def FnExactSameSpotsWrongFalsely : Prop := fnExactSameSpotsRow.holds Try.pinned (OpenSpec.ofChange fnExactSameSpotsWrong)

/-- 'laws.FnExactAddSpot': WHATEVER THE INPUT: true; the input reads as it did. -/
def fnExactAddSpotSpec : ChangeSpec := { name := "fnExactAddSpot", fn := fun _ => fun
  | [d1, d2] => { results := [.lit (.bool true)], args := [d1, d2] }
  | _ => none }
def fnExactAddSpotRow : OpenClaim := { program := "ytfleececlafjkaa", sum := "009dbac30a7aa585ae8ac4a00a4de9b1c8b240690151cfb7f4332ec004fa123b", func := "loop.example/g00952/laws.FnExactAddSpot", spec := "fnExactAddSpot", inPlace := ["slices.overlaps[loop.example/g00952/impl.Spot]"], unfollowed := true, recurses := true, apart := false }
def FnExactAddSpotSaid : Prop := fnExactAddSpotRow.holds Try.pinned (OpenSpec.ofChange fnExactAddSpotSpec)

/-- ITS FALSE NEIGHBOUR: 'it returns false'. Refute it at one input. -/
def fnExactAddSpotWrong : ChangeSpec := { name := "fnExactAddSpot", fn := fun _ => fun
  | [d1, d2] => { results := [.lit (.bool false)], args := [d1, d2] }
  | _ => none }
def FnExactAddSpotWrongFalsely : Prop := fnExactAddSpotRow.holds Try.pinned (OpenSpec.ofChange fnExactAddSpotWrong)

/-- 'laws.FnExactTurnSpots': WHATEVER THE INPUT: true; the input reads as it did. -/
def fnExactTurnSpotsSpec : ChangeSpec := { name := "fnExactTurnSpots", fn := fun _ => fun
  | [d1, d2] => { results := [.lit (.bool true)], args := [d1, d2] }
  | _ => none }
def fnExactTurnSpotsRow : OpenClaim := { program := "ytfleececlafjkaa", sum := "009dbac30a7aa585ae8ac4a00a4de9b1c8b240690151cfb7f4332ec004fa123b", func := "loop.example/g00952/laws.FnExactTurnSpots", spec := "fnExactTurnSpots", unfollowed := true, recurses := true, apart := false }
def FnExactTurnSpotsSaid : Prop := fnExactTurnSpotsRow.holds Try.pinned (OpenSpec.ofChange fnExactTurnSpotsSpec)

/-- ITS FALSE NEIGHBOUR: 'it returns false'. Refute it at one input. -/
def fnExactTurnSpotsWrong : ChangeSpec := { name := "fnExactTurnSpots", fn := fun _ => fun
  | [d1, d2] => { results := [.lit (.bool false)], args := [d1, d2] }
  | _ => none }
def FnExactTurnSpotsWrongFalsely : Prop := fnExactTurnSpotsRow.holds Try.pinned (OpenSpec.ofChange fnExactTurnSpotsWrong)

/-- 'laws.FnExactValidMeasures': WHATEVER THE INPUT: true; the input reads as it did. -/
def fnExactValidMeasuresSpec : ChangeSpec := { name := "fnExactValidMeasures", fn := fun _ => fun
  | [d] => { results := [.lit (.bool true)], args := [d] }
  | _ => none }
def fnExactValidMeasuresRow : OpenClaim := { program := "ytfleececlafjkaa", sum := "009dbac30a7aa585ae8ac4a00a4de9b1c8b240690151cfb7f4332ec004fa123b", func := "loop.example/g00952/laws.FnExactValidMeasures", spec := "fnExactValidMeasures", unfollowed := true, recurses := true, apart := false }
def FnExactValidMeasuresSaid : Prop := fnExactValidMeasuresRow.holds Try.pinned (OpenSpec.ofChange fnExactValidMeasuresSpec)

/-- ITS FALSE NEIGHBOUR: 'it returns false'. Refute it at one input. -/
def fnExactValidMeasuresWrong : ChangeSpec := { name := "fnExactValidMeasures", fn := fun _ => fun
  | [d] => { results := [.lit (.bool false)], args := [d] }
  | _ => none }
def FnExactValidMeasuresWrongFalsely : Prop := fnExactValidMeasuresRow.holds Try.pinned (OpenSpec.ofChange fnExactValidMeasuresWrong)

/-- 'laws.FnClasses': WHATEVER THE INPUT: true; the input reads as it did. -/
def fnClassesSpec : ChangeSpec := { name := "fnClasses", fn := fun _ => fun
  | [d] => { results := [.lit (.bool true)], args := [d] }
  | _ => none }
def fnClassesRow : OpenClaim := { program := "ytfleececlafjkaa", sum := "009dbac30a7aa585ae8ac4a00a4de9b1c8b240690151cfb7f4332ec004fa123b", func := "loop.example/g00952/laws.FnClasses", spec := "fnClasses", apart := false }
def FnClassesSaid : Prop := fnClassesRow.holds Try.pinned (OpenSpec.ofChange fnClassesSpec)

/-- ITS FALSE NEIGHBOUR: 'it returns false'. Refute it at one input. -/
def fnClassesWrong : ChangeSpec := { name := "fnClasses", fn := fun _ => fun
  | [d] => { results := [.lit (.bool false)], args := [d] }
  | _ => none }
def FnClassesWrongFalsely : Prop := fnClassesRow.holds Try.pinned (OpenSpec.ofChange fnClassesWrong)

/- THE SECOND FORM. 'bulk': how many values and letters a reading holds, each counted each time it is reached (what is shared counts as often as it is met; a slice's spare places count too). A statement '..UptoSaid' is the law's where the arguments, and the package variables that the reading takes, are together of bulk at most 1048576: NARROWER than '..Said'. Prove '..Said' where nothing that the law and all that it calls make is longer than what came in: it says more and counts as full. Else prove '..UptoSaid'. A law counts once. -/
mutual
def uptoBulk {H : Type} : DataW H → Nat
  | .lit (.string bytes) => bytes.length + 1
  | .lit _ => 1
  | .nil => 1
  | .ptr d => uptoBulk d + 1
  | .slice elems spare => uptoBulkAll elems + uptoBulkAll spare + 1
  | .agg parts => uptoBulkAll parts + 1
  | .iface _ d => uptoBulk d + 1
  | .map entries => uptoBulkEntries entries + 1
  | .held _ => 1
def uptoBulkAll {H : Type} : List (DataW H) → Nat
  | [] => 0
  | d :: r => uptoBulk d + uptoBulkAll r
def uptoBulkEntries {H : Type} : List (Lit × DataW H) → Nat
  | [] => 0
  | x :: r => uptoBulkEntry x + uptoBulkEntries r
def uptoBulkEntry {H : Type} : Lit × DataW H → Nat
  | (.string bytes, d) => bytes.length + uptoBulk d + 1
  | (_, d) => uptoBulk d + 1
 end
def uptoSmall : (H : Type) → List (DataW H) → Bool := fun _ ds => decide (uptoBulkAll ds ≤ 1048576)
def OpenSpec.upto (s : _root_.Go.ChangeSpec) : _root_.Go.OpenSpec := { _root_.Go.OpenSpec.ofChange s with cond := some uptoSmall }

/-- 'laws.FnExactClassOf', WHERE WHAT IT READS IS OF BULK AT MOST 1048576: true; the input reads as it did. -/
def fnExactClassOfUptoRow : OpenClaim := { program := "ytfleececlafjkaa", sum := "009dbac30a7aa585ae8ac4a00a4de9b1c8b240690151cfb7f4332ec004fa123b", func := "loop.example/g00952/laws.FnExactClassOf", spec := "fnExactClassOf", apart := false, narrowed := true }
def FnExactClassOfUptoSaid : Prop := fnExactClassOfUptoRow.holds Try.pinned (OpenSpec.upto fnExactClassOfSpec)

/-- 'laws.FnExactWorstClass', WHERE WHAT IT READS IS OF BULK AT MOST 1048576: true; the input reads as it did. -/
def fnExactWorstClassUptoRow : OpenClaim := { program := "ytfleececlafjkaa", sum := "009dbac30a7aa585ae8ac4a00a4de9b1c8b240690151cfb7f4332ec004fa123b", func := "loop.example/g00952/laws.FnExactWorstClass", spec := "fnExactWorstClass", apart := false, narrowed := true }
def FnExactWorstClassUptoSaid : Prop := fnExactWorstClassUptoRow.holds Try.pinned (OpenSpec.upto fnExactWorstClassSpec)

/-- 'laws.FnExactWarbleBeat', WHERE WHAT IT READS IS OF BULK AT MOST 1048576: true; the input reads as it did. -/
def fnExactWarbleBeatUptoRow : OpenClaim := { program := "ytfleececlafjkaa", sum := "009dbac30a7aa585ae8ac4a00a4de9b1c8b240690151cfb7f4332ec004fa123b", func := "loop.example/g00952/laws.FnExactWarbleBeat", spec := "fnExactWarbleBeat", apart := false, narrowed := true }
def FnExactWarbleBeatUptoSaid : Prop := fnExactWarbleBeatUptoRow.holds Try.pinned (OpenSpec.upto fnExactWarbleBeatSpec)

/-- 'laws.FnExactValidSpots', WHERE WHAT IT READS IS OF BULK AT MOST 1048576: true; the input reads as it did. -/
def fnExactValidSpotsUptoRow : OpenClaim := { program := "ytfleececlafjkaa", sum := "009dbac30a7aa585ae8ac4a00a4de9b1c8b240690151cfb7f4332ec004fa123b", func := "loop.example/g00952/laws.FnExactValidSpots", spec := "fnExactValidSpots", apart := false, narrowed := true }
def FnExactValidSpotsUptoSaid : Prop := fnExactValidSpotsUptoRow.holds Try.pinned (OpenSpec.upto fnExactValidSpotsSpec)

/-- 'laws.FnExactSameSpots', WHERE WHAT IT READS IS OF BULK AT MOST 1048576: true; the input reads as it did. -/
def fnExactSameSpotsUptoRow : OpenClaim := { program := "ytfleececlafjkaa", sum := "009dbac30a7aa585ae8ac4a00a4de9b1c8b240690151cfb7f4332ec004fa123b", func := "loop.example/g00952/laws.FnExactSameSpots", spec := "fnExactSameSpots", apart := false, narrowed := true }
def FnExactSameSpotsUptoSaid : Prop := fnExactSameSpotsUptoRow.holds Try.pinned (OpenSpec.upto fnExactSameSpotsSpec)

/-- 'laws.FnExactAddSpot', WHERE WHAT IT READS IS OF BULK AT MOST 1048576: true; the input reads as it did. -/
def fnExactAddSpotUptoRow : OpenClaim := { program := "ytfleececlafjkaa", sum := "009dbac30a7aa585ae8ac4a00a4de9b1c8b240690151cfb7f4332ec004fa123b", func := "loop.example/g00952/laws.FnExactAddSpot", spec := "fnExactAddSpot", inPlace := ["slices.overlaps[loop.example/g00952/impl.Spot]"], unfollowed := true, recurses := true, apart := false, narrowed := true }
def FnExactAddSpotUptoSaid : Prop := fnExactAddSpotUptoRow.holds Try.pinned (OpenSpec.upto fnExactAddSpotSpec)

/-- 'laws.FnExactTurnSpots', WHERE WHAT IT READS IS OF BULK AT MOST 1048576: true; the input reads as it did. -/
def fnExactTurnSpotsUptoRow : OpenClaim := { program := "ytfleececlafjkaa", sum := "009dbac30a7aa585ae8ac4a00a4de9b1c8b240690151cfb7f4332ec004fa123b", func := "loop.example/g00952/laws.FnExactTurnSpots", spec := "fnExactTurnSpots", unfollowed := true, recurses := true, apart := false, narrowed := true }
def FnExactTurnSpotsUptoSaid : Prop := fnExactTurnSpotsUptoRow.holds Try.pinned (OpenSpec.upto fnExactTurnSpotsSpec)

/-- 'laws.FnExactValidMeasures', WHERE WHAT IT READS IS OF BULK AT MOST 1048576: true; the input reads as it did. -/
def fnExactValidMeasuresUptoRow : OpenClaim := { program := "ytfleececlafjkaa", sum := "009dbac30a7aa585ae8ac4a00a4de9b1c8b240690151cfb7f4332ec004fa123b", func := "loop.example/g00952/laws.FnExactValidMeasures", spec := "fnExactValidMeasures", unfollowed := true, recurses := true, apart := false, narrowed := true }
def FnExactValidMeasuresUptoSaid : Prop := fnExactValidMeasuresUptoRow.holds Try.pinned (OpenSpec.upto fnExactValidMeasuresSpec)

/-- 'laws.FnClasses', WHERE WHAT IT READS IS OF BULK AT MOST 1048576: true; the input reads as it did. -/
def fnClassesUptoRow : OpenClaim := { program := "ytfleececlafjkaa", sum := "009dbac30a7aa585ae8ac4a00a4de9b1c8b240690151cfb7f4332ec004fa123b", func := "loop.example/g00952/laws.FnClasses", spec := "fnClasses", apart := false, narrowed := true }
def FnClassesUptoSaid : Prop := fnClassesUptoRow.holds Try.pinned (OpenSpec.upto fnClassesSpec)

end Rows
end Go.Proofs.Ytfleececlafjkaa
