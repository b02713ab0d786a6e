/-
  No cell of these rows narrows 'for every input' (looked for: loops, veiled, ifaces, maps, wideKeys, modest, calm, conditions, laid).
  DERIVED. THE GIVEN ROWS OF THIS SEAT. 12 by the template 'for every input the law returns true; each argument reads behind the call as it read before'; 0 by the template 'total and deterministic' (their statements: YtgnnpimfcbkloaaTotals.lean).
  GIVEN WITH THE SEED: the statements are not yours to turn. If you find one false, say at which input.
  Laid BY PROGRAM, IN A SANDBOX (cutbox-rows.mjs): the forced cells as the released guide's own fill.sh prints them over the translation cdd2fe082b734e1d… (all of the seat's roots in one cut). By AI agents, Wed Nov 11 2026. No macro, syntax, notation, axiom, sorry.
-/
import Derived.Test.YtgnnpimfcbkloaaChecked
import GoSem.Claim
import GoSem.ClaimJoined
import GoSem.ClaimMapViews
import Derived.JoinedTies
import Derived.KernelRfl
namespace Go.Proofs.Ytgnnpimfcbkloaa
/- THE CELL 'sum', in the pinned program and in every row, IS THE sha256 OF THE DUMP (.gsa) THAT YtgnnpimfcbkloaaProg.lean LOADS. Nothing in Lean hashes anything: it is a label: what it is worth is what the hold of that sum in a sandbox is worth. -/
noncomputable def Try.pinned : Pinned := { name := "ytgnnpimfcbkloaa", sum := "cdd2fe082b734e1d2fea86df7c1457a516ec17301cac83c338eb11384bf87093", checked := Try.checked }
namespace Rows
def none {H : Type} : Left H := { results := [], args := [] }

/-- 'laws.FnExactAreaOf': WHATEVER THE INPUT: true; the input reads as it did. -/
def fnExactAreaOfSpec : ChangeSpec := { name := "fnExactAreaOf", fn := fun _ => fun
  | [d] => { results := [.lit (.bool true)], args := [d] }
  | _ => none }
def fnExactAreaOfRow : OpenClaim := { program := "ytgnnpimfcbkloaa", sum := "cdd2fe082b734e1d2fea86df7c1457a516ec17301cac83c338eb11384bf87093", func := "loop.example/g00952/laws.FnExactAreaOf", spec := "fnExactAreaOf", inPlace := ["math/bits.Add64"], named := ["math/bits.divideError", "math/bits.overflowError"], apart := false }
def FnExactAreaOfSaid : Prop := fnExactAreaOfRow.holds Try.pinned (OpenSpec.ofChange fnExactAreaOfSpec)

/-- ITS FALSE NEIGHBOUR: 'it returns false'. Refute it at one input. -/
def fnExactAreaOfWrong : ChangeSpec := { name := "fnExactAreaOf", fn := fun _ => fun
  | [d] => { results := [.lit (.bool false)], args := [d] }
  | _ => none }
def FnExactAreaOfWrongFalsely : Prop := fnExactAreaOfRow.holds Try.pinned (OpenSpec.ofChange fnExactAreaOfWrong)

/-- 'laws.FnExactRingVolume': WHATEVER THE INPUT: true; the input reads as it did. -/
def fnExactRingVolumeSpec : ChangeSpec := { name := "fnExactRingVolume", fn := fun _ => fun
  | [d] => { results := [.lit (.bool true)], args := [d] }
  | _ => none }
def fnExactRingVolumeRow : OpenClaim := { program := "ytgnnpimfcbkloaa", sum := "cdd2fe082b734e1d2fea86df7c1457a516ec17301cac83c338eb11384bf87093", func := "loop.example/g00952/laws.FnExactRingVolume", spec := "fnExactRingVolume", inPlace := ["math/bits.Add64"], named := ["math/bits.divideError", "math/bits.overflowError"], apart := false }
def FnExactRingVolumeSaid : Prop := fnExactRingVolumeRow.holds Try.pinned (OpenSpec.ofChange fnExactRingVolumeSpec)

/-- ITS FALSE NEIGHBOUR: 'it returns false'. Refute it at one input. -/
def fnExactRingVolumeWrong : ChangeSpec := { name := "fnExactRingVolume", fn := fun _ => fun
  | [d] => { results := [.lit (.bool false)], args := [d] }
  | _ => none }
def FnExactRingVolumeWrongFalsely : Prop := fnExactRingVolumeRow.holds Try.pinned (OpenSpec.ofChange fnExactRingVolumeWrong)

/-- 'laws.FnExactVolumeOf': WHATEVER THE INPUT: true; the input reads as it did. -/
def fnExactVolumeOfSpec : ChangeSpec := { name := "fnExactVolumeOf", fn := fun _ => fun
  | [d] => { results := [.lit (.bool true)], args := [d] }
  | _ => none }
def fnExactVolumeOfRow : OpenClaim := { program := "ytgnnpimfcbkloaa", sum := "cdd2fe082b734e1d2fea86df7c1457a516ec17301cac83c338eb11384bf87093", func := "loop.example/g00952/laws.FnExactVolumeOf", spec := "fnExactVolumeOf", inPlace := ["math/bits.Add64"], unfollowed := true, recurses := true, named := ["math/bits.divideError", "math/bits.overflowError"], apart := false }
def FnExactVolumeOfSaid : Prop := fnExactVolumeOfRow.holds Try.pinned (OpenSpec.ofChange fnExactVolumeOfSpec)

/-- ITS FALSE NEIGHBOUR: 'it returns false'. Refute it at one input. -/
def fnExactVolumeOfWrong : ChangeSpec := { name := "fnExactVolumeOf", fn := fun _ => fun
  | [d] => { results := [.lit (.bool false)], args := [d] }
  | _ => none }
def FnExactVolumeOfWrongFalsely : Prop := fnExactVolumeOfRow.holds Try.pinned (OpenSpec.ofChange fnExactVolumeOfWrong)

/-- 'laws.FnExactHollowOf': WHATEVER THE INPUT: true; the input reads as it did. -/
def fnExactHollowOfSpec : ChangeSpec := { name := "fnExactHollowOf", fn := fun _ => fun
  | [d] => { results := [.lit (.bool true)], args := [d] }
  | _ => none }
def fnExactHollowOfRow : OpenClaim := { program := "ytgnnpimfcbkloaa", sum := "cdd2fe082b734e1d2fea86df7c1457a516ec17301cac83c338eb11384bf87093", func := "loop.example/g00952/laws.FnExactHollowOf", spec := "fnExactHollowOf", inPlace := ["math/bits.Add64"], unfollowed := true, recurses := true, named := ["math/bits.divideError", "math/bits.overflowError"], apart := false }
def FnExactHollowOfSaid : Prop := fnExactHollowOfRow.holds Try.pinned (OpenSpec.ofChange fnExactHollowOfSpec)

/-- ITS FALSE NEIGHBOUR: 'it returns false'. Refute it at one input. -/
def fnExactHollowOfWrong : ChangeSpec := { name := "fnExactHollowOf", fn := fun _ => fun
  | [d] => { results := [.lit (.bool false)], args := [d] }
  | _ => none }
def FnExactHollowOfWrongFalsely : Prop := fnExactHollowOfRow.holds Try.pinned (OpenSpec.ofChange fnExactHollowOfWrong)

/-- 'laws.FnExactMassOf': WHATEVER THE INPUT: true; the input reads as it did. -/
def fnExactMassOfSpec : ChangeSpec := { name := "fnExactMassOf", fn := fun _ => fun
  | [d1, d2] => { results := [.lit (.bool true)], args := [d1, d2] }
  | _ => none }
def fnExactMassOfRow : OpenClaim := { program := "ytgnnpimfcbkloaa", sum := "cdd2fe082b734e1d2fea86df7c1457a516ec17301cac83c338eb11384bf87093", func := "loop.example/g00952/laws.FnExactMassOf", spec := "fnExactMassOf", inPlace := ["math/bits.Add64"], unfollowed := true, recurses := true, named := ["math/bits.divideError", "math/bits.overflowError"], apart := false }
def FnExactMassOfSaid : Prop := fnExactMassOfRow.holds Try.pinned (OpenSpec.ofChange fnExactMassOfSpec)

/-- ITS FALSE NEIGHBOUR: 'it returns false'. Refute it at one input. -/
def fnExactMassOfWrong : ChangeSpec := { name := "fnExactMassOf", fn := fun _ => fun
  | [d1, d2] => { results := [.lit (.bool false)], args := [d1, d2] }
  | _ => none }
def FnExactMassOfWrongFalsely : Prop := fnExactMassOfRow.holds Try.pinned (OpenSpec.ofChange fnExactMassOfWrong)

/-- 'laws.FnExactRingMasses': WHATEVER THE INPUT: true; the input reads as it did. -/
def fnExactRingMassesSpec : ChangeSpec := { name := "fnExactRingMasses", fn := fun _ => fun
  | [d1, d2] => { results := [.lit (.bool true)], args := [d1, d2] }
  | _ => none }
def fnExactRingMassesRow : OpenClaim := { program := "ytgnnpimfcbkloaa", sum := "cdd2fe082b734e1d2fea86df7c1457a516ec17301cac83c338eb11384bf87093", func := "loop.example/g00952/laws.FnExactRingMasses", spec := "fnExactRingMasses", inPlace := ["math/bits.Add64"], unfollowed := true, recurses := true, named := ["math/bits.divideError", "math/bits.overflowError"], apart := false }
def FnExactRingMassesSaid : Prop := fnExactRingMassesRow.holds Try.pinned (OpenSpec.ofChange fnExactRingMassesSpec)

/-- ITS FALSE NEIGHBOUR: 'it returns false'. Refute it at one input. -/
def fnExactRingMassesWrong : ChangeSpec := { name := "fnExactRingMasses", fn := fun _ => fun
  | [d1, d2] => { results := [.lit (.bool false)], args := [d1, d2] }
  | _ => none }
def FnExactRingMassesWrongFalsely : Prop := fnExactRingMassesRow.holds Try.pinned (OpenSpec.ofChange fnExactRingMassesWrong)

/-- 'laws.FnExactCentreOf': WHATEVER THE INPUT: true; the input reads as it did. -/
def fnExactCentreOfSpec : ChangeSpec := { name := "fnExactCentreOf", fn := fun _ => fun
  | [d] => { results := [.lit (.bool true)], args := [d] }
  | _ => none }
def fnExactCentreOfRow : OpenClaim := { program := "ytgnnpimfcbkloaa", sum := "cdd2fe082b734e1d2fea86df7c1457a516ec17301cac83c338eb11384bf87093", func := "loop.example/g00952/laws.FnExactCentreOf", spec := "fnExactCentreOf", inPlace := ["math/bits.Add64"], unfollowed := true, recurses := true, named := ["math/bits.divideError", "math/bits.overflowError"], apart := false }
def FnExactCentreOfSaid : Prop := fnExactCentreOfRow.holds Try.pinned (OpenSpec.ofChange fnExactCentreOfSpec)

/-- ITS FALSE NEIGHBOUR: 'it returns false'. Refute it at one input. -/
def fnExactCentreOfWrong : ChangeSpec := { name := "fnExactCentreOf", fn := fun _ => fun
  | [d] => { results := [.lit (.bool false)], args := [d] }
  | _ => none }
def FnExactCentreOfWrongFalsely : Prop := fnExactCentreOfRow.holds Try.pinned (OpenSpec.ofChange fnExactCentreOfWrong)

/-- 'laws.FnExactMomentOf': WHATEVER THE INPUT: true; the input reads as it did. -/
def fnExactMomentOfSpec : ChangeSpec := { name := "fnExactMomentOf", fn := fun _ => fun
  | [d1, d2] => { results := [.lit (.bool true)], args := [d1, d2] }
  | _ => none }
def fnExactMomentOfRow : OpenClaim := { program := "ytgnnpimfcbkloaa", sum := "cdd2fe082b734e1d2fea86df7c1457a516ec17301cac83c338eb11384bf87093", func := "loop.example/g00952/laws.FnExactMomentOf", spec := "fnExactMomentOf", inPlace := ["math/bits.Add64"], unfollowed := true, recurses := true, named := ["math/bits.divideError", "math/bits.overflowError"], apart := false }
def FnExactMomentOfSaid : Prop := fnExactMomentOfRow.holds Try.pinned (OpenSpec.ofChange fnExactMomentOfSpec)

/-- ITS FALSE NEIGHBOUR: 'it returns false'. Refute it at one input. -/
def fnExactMomentOfWrong : ChangeSpec := { name := "fnExactMomentOf", fn := fun _ => fun
  | [d1, d2] => { results := [.lit (.bool false)], args := [d1, d2] }
  | _ => none }
def FnExactMomentOfWrongFalsely : Prop := fnExactMomentOfRow.holds Try.pinned (OpenSpec.ofChange fnExactMomentOfWrong)

/-- 'laws.FnExactMassAbove': WHATEVER THE INPUT: true; the input reads as it did. -/
def fnExactMassAboveSpec : ChangeSpec := { name := "fnExactMassAbove", fn := fun _ => fun
  | [d1, d2, d3] => { results := [.lit (.bool true)], args := [d1, d2, d3] }
  | _ => none }
def fnExactMassAboveRow : OpenClaim := { program := "ytgnnpimfcbkloaa", sum := "cdd2fe082b734e1d2fea86df7c1457a516ec17301cac83c338eb11384bf87093", func := "loop.example/g00952/laws.FnExactMassAbove", spec := "fnExactMassAbove", inPlace := ["math/bits.Add64"], unfollowed := true, recurses := true, named := ["math/bits.divideError", "math/bits.overflowError"], apart := false }
def FnExactMassAboveSaid : Prop := fnExactMassAboveRow.holds Try.pinned (OpenSpec.ofChange fnExactMassAboveSpec)

/-- ITS FALSE NEIGHBOUR: 'it returns false'. Refute it at one input. -/
def fnExactMassAboveWrong : ChangeSpec := { name := "fnExactMassAbove", fn := fun _ => fun
  | [d1, d2, d3] => { results := [.lit (.bool false)], args := [d1, d2, d3] }
  | _ => none }
def FnExactMassAboveWrongFalsely : Prop := fnExactMassAboveRow.holds Try.pinned (OpenSpec.ofChange fnExactMassAboveWrong)

/-- 'laws.FnExactDensityFor': WHATEVER THE INPUT: true; the input reads as it did. -/
def fnExactDensityForSpec : ChangeSpec := { name := "fnExactDensityFor", fn := fun _ => fun
  | [d1, d2] => { results := [.lit (.bool true)], args := [d1, d2] }
  | _ => none }
def fnExactDensityForRow : OpenClaim := { program := "ytgnnpimfcbkloaa", sum := "cdd2fe082b734e1d2fea86df7c1457a516ec17301cac83c338eb11384bf87093", func := "loop.example/g00952/laws.FnExactDensityFor", spec := "fnExactDensityFor", inPlace := ["math/bits.Add64"], unfollowed := true, recurses := true, named := ["math/bits.divideError", "math/bits.overflowError"], apart := false }
def FnExactDensityForSaid : Prop := fnExactDensityForRow.holds Try.pinned (OpenSpec.ofChange fnExactDensityForSpec)

/-- ITS FALSE NEIGHBOUR: 'it returns false'. Refute it at one input. -/
def fnExactDensityForWrong : ChangeSpec := { name := "fnExactDensityFor", fn := fun _ => fun
  | [d1, d2] => { results := [.lit (.bool false)], args := [d1, d2] }
  | _ => none }
def FnExactDensityForWrongFalsely : Prop := fnExactDensityForRow.holds Try.pinned (OpenSpec.ofChange fnExactDensityForWrong)

/-- 'laws.FnExactScaleProfile': WHATEVER THE INPUT: true; the input reads as it did. -/
def fnExactScaleProfileSpec : ChangeSpec := { name := "fnExactScaleProfile", fn := fun _ => fun
  | [d1, d2, d3] => { results := [.lit (.bool true)], args := [d1, d2, d3] }
  | _ => none }
def fnExactScaleProfileRow : OpenClaim := { program := "ytgnnpimfcbkloaa", sum := "cdd2fe082b734e1d2fea86df7c1457a516ec17301cac83c338eb11384bf87093", func := "loop.example/g00952/laws.FnExactScaleProfile", spec := "fnExactScaleProfile", unfollowed := true, recurses := true, apart := false }
def FnExactScaleProfileSaid : Prop := fnExactScaleProfileRow.holds Try.pinned (OpenSpec.ofChange fnExactScaleProfileSpec)

/-- ITS FALSE NEIGHBOUR: 'it returns false'. Refute it at one input. -/
def fnExactScaleProfileWrong : ChangeSpec := { name := "fnExactScaleProfile", fn := fun _ => fun
  | [d1, d2, d3] => { results := [.lit (.bool false)], args := [d1, d2, d3] }
  | _ => none }
def FnExactScaleProfileWrongFalsely : Prop := fnExactScaleProfileRow.holds Try.pinned (OpenSpec.ofChange fnExactScaleProfileWrong)

/-- 'laws.FnExactScaleForPitch': WHATEVER THE INPUT: true; the input reads as it did. -/
def fnExactScaleForPitchSpec : ChangeSpec := { name := "fnExactScaleForPitch", fn := fun _ => fun
  | [d1, d2, d3] => { results := [.lit (.bool true)], args := [d1, d2, d3] }
  | _ => none }
def fnExactScaleForPitchRow : OpenClaim := { program := "ytgnnpimfcbkloaa", sum := "cdd2fe082b734e1d2fea86df7c1457a516ec17301cac83c338eb11384bf87093", func := "loop.example/g00952/laws.FnExactScaleForPitch", spec := "fnExactScaleForPitch", unfollowed := true, recurses := true, apart := false }
def FnExactScaleForPitchSaid : Prop := fnExactScaleForPitchRow.holds Try.pinned (OpenSpec.ofChange fnExactScaleForPitchSpec)

/-- ITS FALSE NEIGHBOUR: 'it returns false'. Refute it at one input. -/
def fnExactScaleForPitchWrong : ChangeSpec := { name := "fnExactScaleForPitch", fn := fun _ => fun
  | [d1, d2, d3] => { results := [.lit (.bool false)], args := [d1, d2, d3] }
  | _ => none }
def FnExactScaleForPitchWrongFalsely : Prop := fnExactScaleForPitchRow.holds Try.pinned (OpenSpec.ofChange fnExactScaleForPitchWrong)

/- THE SECOND FORM. 'bulk': how many values and letters a reading holds, each counted each time it is reached (what is shared counts as often as it is met; a slice's spare places count too). A statement '..UptoSaid' is the law's where the arguments, and the package variables that the reading takes, are together of bulk at most 1048576: NARROWER than '..Said'. Prove '..Said' where nothing that the law and all that it calls make is longer than what came in: it says more and counts as full. Else prove '..UptoSaid'. A law counts once. -/
mutual
def uptoBulk {H : Type} : DataW H → Nat
  | .lit (.string bytes) => bytes.length + 1
  | .lit _ => 1
  | .nil => 1
  | .ptr d => uptoBulk d + 1
  | .slice elems spare => uptoBulkAll elems + uptoBulkAll spare + 1
  | .agg parts => uptoBulkAll parts + 1
  | .iface _ d => uptoBulk d + 1
  | .map entries => uptoBulkEntries entries + 1
  | .held _ => 1
def uptoBulkAll {H : Type} : List (DataW H) → Nat
  | [] => 0
  | d :: r => uptoBulk d + uptoBulkAll r
def uptoBulkEntries {H : Type} : List (Lit × DataW H) → Nat
  | [] => 0
  | x :: r => uptoBulkEntry x + uptoBulkEntries r
def uptoBulkEntry {H : Type} : Lit × DataW H → Nat
  | (.string bytes, d) => bytes.length + uptoBulk d + 1
  | (_, d) => uptoBulk d + 1
 end
def uptoSmall : (H : Type) → List (DataW H) → Bool := fun _ ds => decide (uptoBulkAll ds ≤ 1048576)
def OpenSpec.upto (s : _root_.Go.ChangeSpec) : _root_.Go.OpenSpec := { _root_.Go.OpenSpec.ofChange s with cond := some uptoSmall }

/-- 'laws.FnExactAreaOf', WHERE WHAT IT READS IS OF BULK AT MOST 1048576: true; the input reads as it did. -/
def fnExactAreaOfUptoRow : OpenClaim := { program := "ytgnnpimfcbkloaa", sum := "cdd2fe082b734e1d2fea86df7c1457a516ec17301cac83c338eb11384bf87093", func := "loop.example/g00952/laws.FnExactAreaOf", spec := "fnExactAreaOf", inPlace := ["math/bits.Add64"], named := ["math/bits.divideError", "math/bits.overflowError"], apart := false, narrowed := true }
def FnExactAreaOfUptoSaid : Prop := fnExactAreaOfUptoRow.holds Try.pinned (OpenSpec.upto fnExactAreaOfSpec)

/-- 'laws.FnExactRingVolume', WHERE WHAT IT READS IS OF BULK AT MOST 1048576: true; the input reads as it did. -/
def fnExactRingVolumeUptoRow : OpenClaim := { program := "ytgnnpimfcbkloaa", sum := "cdd2fe082b734e1d2fea86df7c1457a516ec17301cac83c338eb11384bf87093", func := "loop.example/g00952/laws.FnExactRingVolume", spec := "fnExactRingVolume", inPlace := ["math/bits.Add64"], named := ["math/bits.divideError", "math/bits.overflowError"], apart := false, narrowed := true }
def FnExactRingVolumeUptoSaid : Prop := fnExactRingVolumeUptoRow.holds Try.pinned (OpenSpec.upto fnExactRingVolumeSpec)

/-- 'laws.FnExactVolumeOf', WHERE WHAT IT READS IS OF BULK AT MOST 1048576: true; the input reads as it did. -/
def fnExactVolumeOfUptoRow : OpenClaim := { program := "ytgnnpimfcbkloaa", sum := "cdd2fe082b734e1d2fea86df7c1457a516ec17301cac83c338eb11384bf87093", func := "loop.example/g00952/laws.FnExactVolumeOf", spec := "fnExactVolumeOf", inPlace := ["math/bits.Add64"], unfollowed := true, recurses := true, named := ["math/bits.divideError", "math/bits.overflowError"], apart := false, narrowed := true }
def FnExactVolumeOfUptoSaid : Prop := fnExactVolumeOfUptoRow.holds Try.pinned (OpenSpec.upto fnExactVolumeOfSpec)

/-- 'laws.FnExactHollowOf', WHERE WHAT IT READS IS OF BULK AT MOST 1048576: true; the input reads as it did. -/
def fnExactHollowOfUptoRow : OpenClaim := { program := "ytgnnpimfcbkloaa", sum := "cdd2fe082b734e1d2fea86df7c1457a516ec17301cac83c338eb11384bf87093", func := "loop.example/g00952/laws.FnExactHollowOf", spec := "fnExactHollowOf", inPlace := ["math/bits.Add64"], unfollowed := true, recurses := true, named := ["math/bits.divideError", "math/bits.overflowError"], apart := false, narrowed := true }
def FnExactHollowOfUptoSaid : Prop := fnExactHollowOfUptoRow.holds Try.pinned (OpenSpec.upto fnExactHollowOfSpec)

/-- 'laws.FnExactMassOf', WHERE WHAT IT READS IS OF BULK AT MOST 1048576: true; the input reads as it did. -/
def fnExactMassOfUptoRow : OpenClaim := { program := "ytgnnpimfcbkloaa", sum := "cdd2fe082b734e1d2fea86df7c1457a516ec17301cac83c338eb11384bf87093", func := "loop.example/g00952/laws.FnExactMassOf", spec := "fnExactMassOf", inPlace := ["math/bits.Add64"], unfollowed := true, recurses := true, named := ["math/bits.divideError", "math/bits.overflowError"], apart := false, narrowed := true }
def FnExactMassOfUptoSaid : Prop := fnExactMassOfUptoRow.holds Try.pinned (OpenSpec.upto fnExactMassOfSpec)

/-- 'laws.FnExactRingMasses', WHERE WHAT IT READS IS OF BULK AT MOST 1048576: true; the input reads as it did. -/
def fnExactRingMassesUptoRow : OpenClaim := { program := "ytgnnpimfcbkloaa", sum := "cdd2fe082b734e1d2fea86df7c1457a516ec17301cac83c338eb11384bf87093", func := "loop.example/g00952/laws.FnExactRingMasses", spec := "fnExactRingMasses", inPlace := ["math/bits.Add64"], unfollowed := true, recurses := true, named := ["math/bits.divideError", "math/bits.overflowError"], apart := false, narrowed := true }
def FnExactRingMassesUptoSaid : Prop := fnExactRingMassesUptoRow.holds Try.pinned (OpenSpec.upto fnExactRingMassesSpec)

/-- 'laws.FnExactCentreOf', WHERE WHAT IT READS IS OF BULK AT MOST 1048576: true; the input reads as it did. -/
def fnExactCentreOfUptoRow : OpenClaim := { program := "ytgnnpimfcbkloaa", sum := "cdd2fe082b734e1d2fea86df7c1457a516ec17301cac83c338eb11384bf87093", func := "loop.example/g00952/laws.FnExactCentreOf", spec := "fnExactCentreOf", inPlace := ["math/bits.Add64"], unfollowed := true, recurses := true, named := ["math/bits.divideError", "math/bits.overflowError"], apart := false, narrowed := true }
def FnExactCentreOfUptoSaid : Prop := fnExactCentreOfUptoRow.holds Try.pinned (OpenSpec.upto fnExactCentreOfSpec)

/-- 'laws.FnExactMomentOf', WHERE WHAT IT READS IS OF BULK AT MOST 1048576: true; the input reads as it did. -/
def fnExactMomentOfUptoRow : OpenClaim := { program := "ytgnnpimfcbkloaa", sum := "cdd2fe082b734e1d2fea86df7c1457a516ec17301cac83c338eb11384bf87093", func := "loop.example/g00952/laws.FnExactMomentOf", spec := "fnExactMomentOf", inPlace := ["math/bits.Add64"], unfollowed := true, recurses := true, named := ["math/bits.divideError", "math/bits.overflowError"], apart := false, narrowed := true }
def FnExactMomentOfUptoSaid : Prop := fnExactMomentOfUptoRow.holds Try.pinned (OpenSpec.upto fnExactMomentOfSpec)

/-- 'laws.FnExactMassAbove', WHERE WHAT IT READS IS OF BULK AT MOST 1048576: true; the input reads as it did. -/
def fnExactMassAboveUptoRow : OpenClaim := { program := "ytgnnpimfcbkloaa", sum := "cdd2fe082b734e1d2fea86df7c1457a516ec17301cac83c338eb11384bf87093", func := "loop.example/g00952/laws.FnExactMassAbove", spec := "fnExactMassAbove", inPlace := ["math/bits.Add64"], unfollowed := true, recurses := true, named := ["math/bits.divideError", "math/bits.overflowError"], apart := false, narrowed := true }
def FnExactMassAboveUptoSaid : Prop := fnExactMassAboveUptoRow.holds Try.pinned (OpenSpec.upto fnExactMassAboveSpec)

/-- 'laws.FnExactDensityFor', WHERE WHAT IT READS IS OF BULK AT MOST 1048576: true; the input reads as it did. -/
def fnExactDensityForUptoRow : OpenClaim := { program := "ytgnnpimfcbkloaa", sum := "cdd2fe082b734e1d2fea86df7c1457a516ec17301cac83c338eb11384bf87093", func := "loop.example/g00952/laws.FnExactDensityFor", spec := "fnExactDensityFor", inPlace := ["math/bits.Add64"], unfollowed := true, recurses := true, named := ["math/bits.divideError", "math/bits.overflowError"], apart := false, narrowed := true }
def FnExactDensityForUptoSaid : Prop := fnExactDensityForUptoRow.holds Try.pinned (OpenSpec.upto fnExactDensityForSpec)

/-- 'laws.FnExactScaleProfile', WHERE WHAT IT READS IS OF BULK AT MOST 1048576: true; the input reads as it did. -/
def fnExactScaleProfileUptoRow : OpenClaim := { program := "ytgnnpimfcbkloaa", sum := "cdd2fe082b734e1d2fea86df7c1457a516ec17301cac83c338eb11384bf87093", func := "loop.example/g00952/laws.FnExactScaleProfile", spec := "fnExactScaleProfile", unfollowed := true, recurses := true, apart := false, narrowed := true }
def FnExactScaleProfileUptoSaid : Prop := fnExactScaleProfileUptoRow.holds Try.pinned (OpenSpec.upto fnExactScaleProfileSpec)

/-- 'laws.FnExactScaleForPitch', WHERE WHAT IT READS IS OF BULK AT MOST 1048576: true; the input reads as it did. -/
def fnExactScaleForPitchUptoRow : OpenClaim := { program := "ytgnnpimfcbkloaa", sum := "cdd2fe082b734e1d2fea86df7c1457a516ec17301cac83c338eb11384bf87093", func := "loop.example/g00952/laws.FnExactScaleForPitch", spec := "fnExactScaleForPitch", unfollowed := true, recurses := true, apart := false, narrowed := true }
def FnExactScaleForPitchUptoSaid : Prop := fnExactScaleForPitchUptoRow.holds Try.pinned (OpenSpec.upto fnExactScaleForPitchSpec)

end Rows
end Go.Proofs.Ytgnnpimfcbkloaa
