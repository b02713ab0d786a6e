/-
  No cell of these rows narrows 'for every input' (looked for: loops, veiled, ifaces, maps, wideKeys, modest, calm, conditions, laid).
  DERIVED. THE GIVEN ROWS OF THIS SEAT. 12 by the template 'for every input the law returns true; each argument reads behind the call as it read before'; 0 by the template 'total and deterministic' (their statements: YtjdnjlakafcglaaTotals.lean).
  GIVEN WITH THE SEED: the statements are not yours to turn. If you find one false, say at which input.
  Laid BY PROGRAM, IN A SANDBOX (cutbox-rows.mjs): the forced cells as the released guide's own fill.sh prints them over the translation 24e79bacd0941ddc… (all of the seat's roots in one cut). By AI agents, Wed Nov 11 2026. No macro, syntax, notation, axiom, sorry.
-/
import Derived.Test.YtjdnjlakafcglaaChecked
import GoSem.Claim
import GoSem.ClaimJoined
import GoSem.ClaimMapViews
import Derived.JoinedTies
import Derived.KernelRfl
namespace Go.Proofs.Ytjdnjlakafcglaa
/- THE CELL 'sum', in the pinned program and in every row, IS THE sha256 OF THE DUMP (.gsa) THAT YtjdnjlakafcglaaProg.lean LOADS. Nothing in Lean hashes anything: it is a label: what it is worth is what the hold of that sum in a sandbox is worth. -/
noncomputable def Try.pinned : Pinned := { name := "ytjdnjlakafcglaa", sum := "24e79bacd0941ddc37f992fda6eca9256e99cb37b2db75a4023fc59fe7a04c15", checked := Try.checked }
namespace Rows
def none {H : Type} : Left H := { results := [], args := [] }

/-- 'laws.FnExactValidZones': WHATEVER THE INPUT: true; the input reads as it did. -/
def fnExactValidZonesSpec : ChangeSpec := { name := "fnExactValidZones", fn := fun _ => fun
  | [d1, d2] => { results := [.lit (.bool true)], args := [d1, d2] }
  | _ => none }
def fnExactValidZonesRow : OpenClaim := { program := "ytjdnjlakafcglaa", sum := "24e79bacd0941ddc37f992fda6eca9256e99cb37b2db75a4023fc59fe7a04c15", func := "loop.example/g00952/laws.FnExactValidZones", spec := "fnExactValidZones", apart := false }
def FnExactValidZonesSaid : Prop := fnExactValidZonesRow.holds Try.pinned (OpenSpec.ofChange fnExactValidZonesSpec)

/-- ITS FALSE NEIGHBOUR: 'it returns false'. Refute it at one input. -/
def fnExactValidZonesWrong : ChangeSpec := { name := "fnExactValidZones", fn := fun _ => fun
  | [d1, d2] => { results := [.lit (.bool false)], args := [d1, d2] }
  | _ => none }
def FnExactValidZonesWrongFalsely : Prop := fnExactValidZonesRow.holds Try.pinned (OpenSpec.ofChange fnExactValidZonesWrong)

/-- 'laws.FnExactZoneOf': WHATEVER THE INPUT: true; the input reads as it did. -/
def fnExactZoneOfSpec : ChangeSpec := { name := "fnExactZoneOf", fn := fun _ => fun
  | [d1, d2] => { results := [.lit (.bool true)], args := [d1, d2] }
  | _ => none }
def fnExactZoneOfRow : OpenClaim := { program := "ytjdnjlakafcglaa", sum := "24e79bacd0941ddc37f992fda6eca9256e99cb37b2db75a4023fc59fe7a04c15", func := "loop.example/g00952/laws.FnExactZoneOf", spec := "fnExactZoneOf", apart := false }
def FnExactZoneOfSaid : Prop := fnExactZoneOfRow.holds Try.pinned (OpenSpec.ofChange fnExactZoneOfSpec)

/-- ITS FALSE NEIGHBOUR: 'it returns false'. Refute it at one input. -/
def fnExactZoneOfWrong : ChangeSpec := { name := "fnExactZoneOf", fn := fun _ => fun
  | [d1, d2] => { results := [.lit (.bool false)], args := [d1, d2] }
  | _ => none }
def FnExactZoneOfWrongFalsely : Prop := fnExactZoneOfRow.holds Try.pinned (OpenSpec.ofChange fnExactZoneOfWrong)

/-- 'laws.FnExactValidCuts': WHATEVER THE INPUT: true; the input reads as it did. -/
def fnExactValidCutsSpec : ChangeSpec := { name := "fnExactValidCuts", fn := fun _ => fun
  | [d] => { results := [.lit (.bool true)], args := [d] }
  | _ => none }
def fnExactValidCutsRow : OpenClaim := { program := "ytjdnjlakafcglaa", sum := "24e79bacd0941ddc37f992fda6eca9256e99cb37b2db75a4023fc59fe7a04c15", func := "loop.example/g00952/laws.FnExactValidCuts", spec := "fnExactValidCuts", unfollowed := true, recurses := true, apart := false }
def FnExactValidCutsSaid : Prop := fnExactValidCutsRow.holds Try.pinned (OpenSpec.ofChange fnExactValidCutsSpec)

/-- ITS FALSE NEIGHBOUR: 'it returns false'. Refute it at one input. -/
def fnExactValidCutsWrong : ChangeSpec := { name := "fnExactValidCuts", fn := fun _ => fun
  | [d] => { results := [.lit (.bool false)], args := [d] }
  | _ => none }
def FnExactValidCutsWrongFalsely : Prop := fnExactValidCutsRow.holds Try.pinned (OpenSpec.ofChange fnExactValidCutsWrong)

/-- 'laws.FnExactSortCuts': WHATEVER THE INPUT: true; the input reads as it did. -/
def fnExactSortCutsSpec : ChangeSpec := { name := "fnExactSortCuts", fn := fun _ => fun
  | [d] => { results := [.lit (.bool true)], args := [d] }
  | _ => none }
def fnExactSortCutsRow : OpenClaim := { program := "ytjdnjlakafcglaa", sum := "24e79bacd0941ddc37f992fda6eca9256e99cb37b2db75a4023fc59fe7a04c15", func := "loop.example/g00952/laws.FnExactSortCuts", spec := "fnExactSortCuts", inPlace := ["internal/reflectlite.ValueOf", "internal/reflectlite.Swapper", "(internal/reflectlite.Value).Len"], unfollowed := true, recurses := true, apart := false }
def FnExactSortCutsSaid : Prop := fnExactSortCutsRow.holds Try.pinned (OpenSpec.ofChange fnExactSortCutsSpec)

/-- ITS FALSE NEIGHBOUR: 'it returns false'. Refute it at one input. -/
def fnExactSortCutsWrong : ChangeSpec := { name := "fnExactSortCuts", fn := fun _ => fun
  | [d] => { results := [.lit (.bool false)], args := [d] }
  | _ => none }
def FnExactSortCutsWrongFalsely : Prop := fnExactSortCutsRow.holds Try.pinned (OpenSpec.ofChange fnExactSortCutsWrong)

/-- 'laws.FnExactTotalSteps': WHATEVER THE INPUT: true; the input reads as it did. -/
def fnExactTotalStepsSpec : ChangeSpec := { name := "fnExactTotalSteps", fn := fun _ => fun
  | [d] => { results := [.lit (.bool true)], args := [d] }
  | _ => none }
def fnExactTotalStepsRow : OpenClaim := { program := "ytjdnjlakafcglaa", sum := "24e79bacd0941ddc37f992fda6eca9256e99cb37b2db75a4023fc59fe7a04c15", func := "loop.example/g00952/laws.FnExactTotalSteps", spec := "fnExactTotalSteps", unfollowed := true, recurses := true, apart := false }
def FnExactTotalStepsSaid : Prop := fnExactTotalStepsRow.holds Try.pinned (OpenSpec.ofChange fnExactTotalStepsSpec)

/-- ITS FALSE NEIGHBOUR: 'it returns false'. Refute it at one input. -/
def fnExactTotalStepsWrong : ChangeSpec := { name := "fnExactTotalSteps", fn := fun _ => fun
  | [d] => { results := [.lit (.bool false)], args := [d] }
  | _ => none }
def FnExactTotalStepsWrongFalsely : Prop := fnExactTotalStepsRow.holds Try.pinned (OpenSpec.ofChange fnExactTotalStepsWrong)

/-- 'laws.FnExactApplyCuts': WHATEVER THE INPUT: true; the input reads as it did. -/
def fnExactApplyCutsSpec : ChangeSpec := { name := "fnExactApplyCuts", fn := fun _ => fun
  | [d1, d2, d3] => { results := [.lit (.bool true)], args := [d1, d2, d3] }
  | _ => none }
def fnExactApplyCutsRow : OpenClaim := { program := "ytjdnjlakafcglaa", sum := "24e79bacd0941ddc37f992fda6eca9256e99cb37b2db75a4023fc59fe7a04c15", func := "loop.example/g00952/laws.FnExactApplyCuts", spec := "fnExactApplyCuts", unfollowed := true, recurses := true, apart := false }
def FnExactApplyCutsSaid : Prop := fnExactApplyCutsRow.holds Try.pinned (OpenSpec.ofChange fnExactApplyCutsSpec)

/-- ITS FALSE NEIGHBOUR: 'it returns false'. Refute it at one input. -/
def fnExactApplyCutsWrong : ChangeSpec := { name := "fnExactApplyCuts", fn := fun _ => fun
  | [d1, d2, d3] => { results := [.lit (.bool false)], args := [d1, d2, d3] }
  | _ => none }
def FnExactApplyCutsWrongFalsely : Prop := fnExactApplyCutsRow.holds Try.pinned (OpenSpec.ofChange fnExactApplyCutsWrong)

/-- 'laws.FnExactMostSteps': WHATEVER THE INPUT: true; the input reads as it did. -/
def fnExactMostStepsSpec : ChangeSpec := { name := "fnExactMostSteps", fn := fun _ => fun
  | [d1, d2, d3] => { results := [.lit (.bool true)], args := [d1, d2, d3] }
  | _ => none }
def fnExactMostStepsRow : OpenClaim := { program := "ytjdnjlakafcglaa", sum := "24e79bacd0941ddc37f992fda6eca9256e99cb37b2db75a4023fc59fe7a04c15", func := "loop.example/g00952/laws.FnExactMostSteps", spec := "fnExactMostSteps", apart := false }
def FnExactMostStepsSaid : Prop := fnExactMostStepsRow.holds Try.pinned (OpenSpec.ofChange fnExactMostStepsSpec)

/-- ITS FALSE NEIGHBOUR: 'it returns false'. Refute it at one input. -/
def fnExactMostStepsWrong : ChangeSpec := { name := "fnExactMostSteps", fn := fun _ => fun
  | [d1, d2, d3] => { results := [.lit (.bool false)], args := [d1, d2, d3] }
  | _ => none }
def FnExactMostStepsWrongFalsely : Prop := fnExactMostStepsRow.holds Try.pinned (OpenSpec.ofChange fnExactMostStepsWrong)

/-- 'laws.FnExactRoomOf': WHATEVER THE INPUT: true; the input reads as it did. -/
def fnExactRoomOfSpec : ChangeSpec := { name := "fnExactRoomOf", fn := fun _ => fun
  | [d1, d2] => { results := [.lit (.bool true)], args := [d1, d2] }
  | _ => none }
def fnExactRoomOfRow : OpenClaim := { program := "ytjdnjlakafcglaa", sum := "24e79bacd0941ddc37f992fda6eca9256e99cb37b2db75a4023fc59fe7a04c15", func := "loop.example/g00952/laws.FnExactRoomOf", spec := "fnExactRoomOf", apart := false }
def FnExactRoomOfSaid : Prop := fnExactRoomOfRow.holds Try.pinned (OpenSpec.ofChange fnExactRoomOfSpec)

/-- ITS FALSE NEIGHBOUR: 'it returns false'. Refute it at one input. -/
def fnExactRoomOfWrong : ChangeSpec := { name := "fnExactRoomOf", fn := fun _ => fun
  | [d1, d2] => { results := [.lit (.bool false)], args := [d1, d2] }
  | _ => none }
def FnExactRoomOfWrongFalsely : Prop := fnExactRoomOfRow.holds Try.pinned (OpenSpec.ofChange fnExactRoomOfWrong)

/-- 'laws.FnExactCutsBetween': WHATEVER THE INPUT: true; the input reads as it did. -/
def fnExactCutsBetweenSpec : ChangeSpec := { name := "fnExactCutsBetween", fn := fun _ => fun
  | [d1, d2, d3] => { results := [.lit (.bool true)], args := [d1, d2, d3] }
  | _ => none }
def fnExactCutsBetweenRow : OpenClaim := { program := "ytjdnjlakafcglaa", sum := "24e79bacd0941ddc37f992fda6eca9256e99cb37b2db75a4023fc59fe7a04c15", func := "loop.example/g00952/laws.FnExactCutsBetween", spec := "fnExactCutsBetween", apart := false }
def FnExactCutsBetweenSaid : Prop := fnExactCutsBetweenRow.holds Try.pinned (OpenSpec.ofChange fnExactCutsBetweenSpec)

/-- ITS FALSE NEIGHBOUR: 'it returns false'. Refute it at one input. -/
def fnExactCutsBetweenWrong : ChangeSpec := { name := "fnExactCutsBetween", fn := fun _ => fun
  | [d1, d2, d3] => { results := [.lit (.bool false)], args := [d1, d2, d3] }
  | _ => none }
def FnExactCutsBetweenWrongFalsely : Prop := fnExactCutsBetweenRow.holds Try.pinned (OpenSpec.ofChange fnExactCutsBetweenWrong)

/-- 'laws.FnExactChipsOf': WHATEVER THE INPUT: true; the input reads as it did. -/
def fnExactChipsOfSpec : ChangeSpec := { name := "fnExactChipsOf", fn := fun _ => fun
  | [d1, d2, d3] => { results := [.lit (.bool true)], args := [d1, d2, d3] }
  | _ => none }
def fnExactChipsOfRow : OpenClaim := { program := "ytjdnjlakafcglaa", sum := "24e79bacd0941ddc37f992fda6eca9256e99cb37b2db75a4023fc59fe7a04c15", func := "loop.example/g00952/laws.FnExactChipsOf", spec := "fnExactChipsOf", unfollowed := true, recurses := true, apart := false }
def FnExactChipsOfSaid : Prop := fnExactChipsOfRow.holds Try.pinned (OpenSpec.ofChange fnExactChipsOfSpec)

/-- ITS FALSE NEIGHBOUR: 'it returns false'. Refute it at one input. -/
def fnExactChipsOfWrong : ChangeSpec := { name := "fnExactChipsOf", fn := fun _ => fun
  | [d1, d2, d3] => { results := [.lit (.bool false)], args := [d1, d2, d3] }
  | _ => none }
def FnExactChipsOfWrongFalsely : Prop := fnExactChipsOfRow.holds Try.pinned (OpenSpec.ofChange fnExactChipsOfWrong)

/-- 'laws.FnExactSensitivity': WHATEVER THE INPUT: true; the input reads as it did. -/
def fnExactSensitivitySpec : ChangeSpec := { name := "fnExactSensitivity", fn := fun _ => fun
  | [d1, d2, d3] => { results := [.lit (.bool true)], args := [d1, d2, d3] }
  | _ => none }
def fnExactSensitivityRow : OpenClaim := { program := "ytjdnjlakafcglaa", sum := "24e79bacd0941ddc37f992fda6eca9256e99cb37b2db75a4023fc59fe7a04c15", func := "loop.example/g00952/laws.FnExactSensitivity", spec := "fnExactSensitivity", unfollowed := true, recurses := true, apart := false }
def FnExactSensitivitySaid : Prop := fnExactSensitivityRow.holds Try.pinned (OpenSpec.ofChange fnExactSensitivitySpec)

/-- ITS FALSE NEIGHBOUR: 'it returns false'. Refute it at one input. -/
def fnExactSensitivityWrong : ChangeSpec := { name := "fnExactSensitivity", fn := fun _ => fun
  | [d1, d2, d3] => { results := [.lit (.bool false)], args := [d1, d2, d3] }
  | _ => none }
def FnExactSensitivityWrongFalsely : Prop := fnExactSensitivityRow.holds Try.pinned (OpenSpec.ofChange fnExactSensitivityWrong)

/-- 'laws.FnExactSoundOf': WHATEVER THE INPUT: true; the input reads as it did. -/
def fnExactSoundOfSpec : ChangeSpec := { name := "fnExactSoundOf", fn := fun _ => fun
  | [d1, d2] => { results := [.lit (.bool true)], args := [d1, d2] }
  | _ => none }
def fnExactSoundOfRow : OpenClaim := { program := "ytjdnjlakafcglaa", sum := "24e79bacd0941ddc37f992fda6eca9256e99cb37b2db75a4023fc59fe7a04c15", func := "loop.example/g00952/laws.FnExactSoundOf", spec := "fnExactSoundOf", unfollowed := true, recurses := true, apart := false }
def FnExactSoundOfSaid : Prop := fnExactSoundOfRow.holds Try.pinned (OpenSpec.ofChange fnExactSoundOfSpec)

/-- ITS FALSE NEIGHBOUR: 'it returns false'. Refute it at one input. -/
def fnExactSoundOfWrong : ChangeSpec := { name := "fnExactSoundOf", fn := fun _ => fun
  | [d1, d2] => { results := [.lit (.bool false)], args := [d1, d2] }
  | _ => none }
def FnExactSoundOfWrongFalsely : Prop := fnExactSoundOfRow.holds Try.pinned (OpenSpec.ofChange fnExactSoundOfWrong)

/- THE SECOND FORM. 'bulk': how many values and letters a reading holds, each counted each time it is reached (what is shared counts as often as it is met; a slice's spare places count too). A statement '..UptoSaid' is the law's where the arguments, and the package variables that the reading takes, are together of bulk at most 1048576: NARROWER than '..Said'. Prove '..Said' where nothing that the law and all that it calls make is longer than what came in: it says more and counts as full. Else prove '..UptoSaid'. A law counts once. -/
mutual
def uptoBulk {H : Type} : DataW H → Nat
  | .lit (.string bytes) => bytes.length + 1
  | .lit _ => 1
  | .nil => 1
  | .ptr d => uptoBulk d + 1
  | .slice elems spare => uptoBulkAll elems + uptoBulkAll spare + 1
  | .agg parts => uptoBulkAll parts + 1
  | .iface _ d => uptoBulk d + 1
  | .map entries => uptoBulkEntries entries + 1
  | .held _ => 1
def uptoBulkAll {H : Type} : List (DataW H) → Nat
  | [] => 0
  | d :: r => uptoBulk d + uptoBulkAll r
def uptoBulkEntries {H : Type} : List (Lit × DataW H) → Nat
  | [] => 0
  | x :: r => uptoBulkEntry x + uptoBulkEntries r
def uptoBulkEntry {H : Type} : Lit × DataW H → Nat
  | (.string bytes, d) => bytes.length + uptoBulk d + 1
  | (_, d) => uptoBulk d + 1
 end
def uptoSmall : (H : Type) → List (DataW H) → Bool := fun _ ds => decide (uptoBulkAll ds ≤ 1048576)
def OpenSpec.upto (s : _root_.Go.ChangeSpec) : _root_.Go.OpenSpec := { _root_.Go.OpenSpec.ofChange s with cond := some uptoSmall }

/-- 'laws.FnExactValidZones', WHERE WHAT IT READS IS OF BULK AT MOST 1048576: true; the input reads as it did. -/
def fnExactValidZonesUptoRow : OpenClaim := { program := "ytjdnjlakafcglaa", sum := "24e79bacd0941ddc37f992fda6eca9256e99cb37b2db75a4023fc59fe7a04c15", func := "loop.example/g00952/laws.FnExactValidZones", spec := "fnExactValidZones", apart := false, narrowed := true }
def FnExactValidZonesUptoSaid : Prop := fnExactValidZonesUptoRow.holds Try.pinned (OpenSpec.upto fnExactValidZonesSpec)

/-- 'laws.FnExactZoneOf', WHERE WHAT IT READS IS OF BULK AT MOST 1048576: true; the input reads as it did. -/
def fnExactZoneOfUptoRow : OpenClaim := { program := "ytjdnjlakafcglaa", sum := "24e79bacd0941ddc37f992fda6eca9256e99cb37b2db75a4023fc59fe7a04c15", func := "loop.example/g00952/laws.FnExactZoneOf", spec := "fnExactZoneOf", apart := false, narrowed := true }
def FnExactZoneOfUptoSaid : Prop := fnExactZoneOfUptoRow.holds Try.pinned (OpenSpec.upto fnExactZoneOfSpec)

/-- 'laws.FnExactValidCuts', WHERE WHAT IT READS IS OF BULK AT MOST 1048576: true; the input reads as it did. -/
def fnExactValidCutsUptoRow : OpenClaim := { program := "ytjdnjlakafcglaa", sum := "24e79bacd0941ddc37f992fda6eca9256e99cb37b2db75a4023fc59fe7a04c15", func := "loop.example/g00952/laws.FnExactValidCuts", spec := "fnExactValidCuts", unfollowed := true, recurses := true, apart := false, narrowed := true }
def FnExactValidCutsUptoSaid : Prop := fnExactValidCutsUptoRow.holds Try.pinned (OpenSpec.upto fnExactValidCutsSpec)

/-- 'laws.FnExactSortCuts', WHERE WHAT IT READS IS OF BULK AT MOST 1048576: true; the input reads as it did. -/
def fnExactSortCutsUptoRow : OpenClaim := { program := "ytjdnjlakafcglaa", sum := "24e79bacd0941ddc37f992fda6eca9256e99cb37b2db75a4023fc59fe7a04c15", func := "loop.example/g00952/laws.FnExactSortCuts", spec := "fnExactSortCuts", inPlace := ["internal/reflectlite.ValueOf", "internal/reflectlite.Swapper", "(internal/reflectlite.Value).Len"], unfollowed := true, recurses := true, apart := false, narrowed := true }
def FnExactSortCutsUptoSaid : Prop := fnExactSortCutsUptoRow.holds Try.pinned (OpenSpec.upto fnExactSortCutsSpec)

/-- 'laws.FnExactTotalSteps', WHERE WHAT IT READS IS OF BULK AT MOST 1048576: true; the input reads as it did. -/
def fnExactTotalStepsUptoRow : OpenClaim := { program := "ytjdnjlakafcglaa", sum := "24e79bacd0941ddc37f992fda6eca9256e99cb37b2db75a4023fc59fe7a04c15", func := "loop.example/g00952/laws.FnExactTotalSteps", spec := "fnExactTotalSteps", unfollowed := true, recurses := true, apart := false, narrowed := true }
def FnExactTotalStepsUptoSaid : Prop := fnExactTotalStepsUptoRow.holds Try.pinned (OpenSpec.upto fnExactTotalStepsSpec)

/-- 'laws.FnExactApplyCuts', WHERE WHAT IT READS IS OF BULK AT MOST 1048576: true; the input reads as it did. -/
def fnExactApplyCutsUptoRow : OpenClaim := { program := "ytjdnjlakafcglaa", sum := "24e79bacd0941ddc37f992fda6eca9256e99cb37b2db75a4023fc59fe7a04c15", func := "loop.example/g00952/laws.FnExactApplyCuts", spec := "fnExactApplyCuts", unfollowed := true, recurses := true, apart := false, narrowed := true }
def FnExactApplyCutsUptoSaid : Prop := fnExactApplyCutsUptoRow.holds Try.pinned (OpenSpec.upto fnExactApplyCutsSpec)

/-- 'laws.FnExactMostSteps', WHERE WHAT IT READS IS OF BULK AT MOST 1048576: true; the input reads as it did. -/
def fnExactMostStepsUptoRow : OpenClaim := { program := "ytjdnjlakafcglaa", sum := "24e79bacd0941ddc37f992fda6eca9256e99cb37b2db75a4023fc59fe7a04c15", func := "loop.example/g00952/laws.FnExactMostSteps", spec := "fnExactMostSteps", apart := false, narrowed := true }
def FnExactMostStepsUptoSaid : Prop := fnExactMostStepsUptoRow.holds Try.pinned (OpenSpec.upto fnExactMostStepsSpec)

/-- 'laws.FnExactRoomOf', WHERE WHAT IT READS IS OF BULK AT MOST 1048576: true; the input reads as it did. -/
def fnExactRoomOfUptoRow : OpenClaim := { program := "ytjdnjlakafcglaa", sum := "24e79bacd0941ddc37f992fda6eca9256e99cb37b2db75a4023fc59fe7a04c15", func := "loop.example/g00952/laws.FnExactRoomOf", spec := "fnExactRoomOf", apart := false, narrowed := true }
def FnExactRoomOfUptoSaid : Prop := fnExactRoomOfUptoRow.holds Try.pinned (OpenSpec.upto fnExactRoomOfSpec)

/-- 'laws.FnExactCutsBetween', WHERE WHAT IT READS IS OF BULK AT MOST 1048576: true; the input reads as it did. -/
def fnExactCutsBetweenUptoRow : OpenClaim := { program := "ytjdnjlakafcglaa", sum := "24e79bacd0941ddc37f992fda6eca9256e99cb37b2db75a4023fc59fe7a04c15", func := "loop.example/g00952/laws.FnExactCutsBetween", spec := "fnExactCutsBetween", apart := false, narrowed := true }
def FnExactCutsBetweenUptoSaid : Prop := fnExactCutsBetweenUptoRow.holds Try.pinned (OpenSpec.upto fnExactCutsBetweenSpec)

/-- 'laws.FnExactChipsOf', WHERE WHAT IT READS IS OF BULK AT MOST 1048576: true; the input reads as it did. -/
def fnExactChipsOfUptoRow : OpenClaim := { program := "ytjdnjlakafcglaa", sum := "24e79bacd0941ddc37f992fda6eca9256e99cb37b2db75a4023fc59fe7a04c15", func := "loop.example/g00952/laws.FnExactChipsOf", spec := "fnExactChipsOf", unfollowed := true, recurses := true, apart := false, narrowed := true }
def FnExactChipsOfUptoSaid : Prop := fnExactChipsOfUptoRow.holds Try.pinned (OpenSpec.upto fnExactChipsOfSpec)

/-- 'laws.FnExactSensitivity', WHERE WHAT IT READS IS OF BULK AT MOST 1048576: true; the input reads as it did. -/
def fnExactSensitivityUptoRow : OpenClaim := { program := "ytjdnjlakafcglaa", sum := "24e79bacd0941ddc37f992fda6eca9256e99cb37b2db75a4023fc59fe7a04c15", func := "loop.example/g00952/laws.FnExactSensitivity", spec := "fnExactSensitivity", unfollowed := true, recurses := true, apart := false, narrowed := true }
def FnExactSensitivityUptoSaid : Prop := fnExactSensitivityUptoRow.holds Try.pinned (OpenSpec.upto fnExactSensitivitySpec)

/-- 'laws.FnExactSoundOf', WHERE WHAT IT READS IS OF BULK AT MOST 1048576: true; the input reads as it did. -/
def fnExactSoundOfUptoRow : OpenClaim := { program := "ytjdnjlakafcglaa", sum := "24e79bacd0941ddc37f992fda6eca9256e99cb37b2db75a4023fc59fe7a04c15", func := "loop.example/g00952/laws.FnExactSoundOf", spec := "fnExactSoundOf", unfollowed := true, recurses := true, apart := false, narrowed := true }
def FnExactSoundOfUptoSaid : Prop := fnExactSoundOfUptoRow.holds Try.pinned (OpenSpec.upto fnExactSoundOfSpec)

end Rows
end Go.Proofs.Ytjdnjlakafcglaa
