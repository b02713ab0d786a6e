/-
  No cell of these rows narrows 'for every input' (looked for: loops, veiled, ifaces, maps, wideKeys, modest, calm, conditions, laid).
  DERIVED. THE GIVEN ROWS OF THIS SEAT. 12 by the template 'for every input the law returns true; each argument reads behind the call as it read before'; 0 by the template 'total and deterministic' (their statements: YtndmakimkghihaaTotals.lean).
  GIVEN WITH THE SEED: the statements are not yours to turn. If you find one false, say at which input.
  Laid BY PROGRAM, IN A SANDBOX (cutbox-rows.mjs): the forced cells as the released guide's own fill.sh prints them over the translation f1da607e9ab833b7… (all of the seat's roots in one cut). By AI agents, Wed Nov 11 2026. No macro, syntax, notation, axiom, sorry.
-/
import Derived.Test.YtndmakimkghihaaChecked
import GoSem.Claim
import GoSem.ClaimJoined
import GoSem.ClaimMapViews
import Derived.JoinedTies
import Derived.KernelRfl
namespace Go.Proofs.Ytndmakimkghihaa
/- THE CELL 'sum', in the pinned program and in every row, IS THE sha256 OF THE DUMP (.gsa) THAT YtndmakimkghihaaProg.lean LOADS. Nothing in Lean hashes anything: it is a label: what it is worth is what the hold of that sum in a sandbox is worth. -/
noncomputable def Try.pinned : Pinned := { name := "ytndmakimkghihaa", sum := "f1da607e9ab833b7ee89376292e788ae8bad3b28c3799148416ea8b4f2312573", checked := Try.checked }
namespace Rows
def none {H : Type} : Left H := { results := [], args := [] }

/-- 'laws.FnExactValidModel': WHATEVER THE INPUT: true; the input reads as it did. -/
def fnExactValidModelSpec : ChangeSpec := { name := "fnExactValidModel", fn := fun _ => fun
  | [d] => { results := [.lit (.bool true)], args := [d] }
  | _ => none }
def fnExactValidModelRow : OpenClaim := { program := "ytndmakimkghihaa", sum := "f1da607e9ab833b7ee89376292e788ae8bad3b28c3799148416ea8b4f2312573", func := "loop.example/g00952/laws.FnExactValidModel", spec := "fnExactValidModel", apart := false }
def FnExactValidModelSaid : Prop := fnExactValidModelRow.holds Try.pinned (OpenSpec.ofChange fnExactValidModelSpec)

/-- ITS FALSE NEIGHBOUR: 'it returns false'. Refute it at one input. -/
def fnExactValidModelWrong : ChangeSpec := { name := "fnExactValidModel", fn := fun _ => fun
  | [d] => { results := [.lit (.bool false)], args := [d] }
  | _ => none }
def FnExactValidModelWrongFalsely : Prop := fnExactValidModelRow.holds Try.pinned (OpenSpec.ofChange fnExactValidModelWrong)

/-- 'laws.FnExactSameModel': WHATEVER THE INPUT: true; the input reads as it did. -/
def fnExactSameModelSpec : ChangeSpec := { name := "fnExactSameModel", fn := fun _ => fun
  | [d1, d2] => { results := [.lit (.bool true)], args := [d1, d2] }
  | _ => none }
def fnExactSameModelRow : OpenClaim := { program := "ytndmakimkghihaa", sum := "f1da607e9ab833b7ee89376292e788ae8bad3b28c3799148416ea8b4f2312573", func := "loop.example/g00952/laws.FnExactSameModel", spec := "fnExactSameModel", unfollowed := true, recurses := true, apart := false }
def FnExactSameModelSaid : Prop := fnExactSameModelRow.holds Try.pinned (OpenSpec.ofChange fnExactSameModelSpec)

/-- ITS FALSE NEIGHBOUR: 'it returns false'. Refute it at one input. -/
def fnExactSameModelWrong : ChangeSpec := { name := "fnExactSameModel", fn := fun _ => fun
  | [d1, d2] => { results := [.lit (.bool false)], args := [d1, d2] }
  | _ => none }
def FnExactSameModelWrongFalsely : Prop := fnExactSameModelRow.holds Try.pinned (OpenSpec.ofChange fnExactSameModelWrong)

/-- 'laws.FnExactStandardModel': WHATEVER THE INPUT: true; the input reads as it did. -/
def fnExactStandardModelSpec : ChangeSpec := { name := "fnExactStandardModel", fn := fun _ => fun
  | [d] => { results := [.lit (.bool true)], args := [d] }
  | _ => none }
def fnExactStandardModelRow : OpenClaim := { program := "ytndmakimkghihaa", sum := "f1da607e9ab833b7ee89376292e788ae8bad3b28c3799148416ea8b4f2312573", func := "loop.example/g00952/laws.FnExactStandardModel", spec := "fnExactStandardModel", apart := false }
def FnExactStandardModelSaid : Prop := fnExactStandardModelRow.holds Try.pinned (OpenSpec.ofChange fnExactStandardModelSpec)

/-- ITS FALSE NEIGHBOUR: 'it returns false'. Refute it at one input. -/
def fnExactStandardModelWrong : ChangeSpec := { name := "fnExactStandardModel", fn := fun _ => fun
  | [d] => { results := [.lit (.bool false)], args := [d] }
  | _ => none }
def FnExactStandardModelWrongFalsely : Prop := fnExactStandardModelRow.holds Try.pinned (OpenSpec.ofChange fnExactStandardModelWrong)

/-- 'laws.FnExactZoneWalls': WHATEVER THE INPUT: true; the input reads as it did. -/
def fnExactZoneWallsSpec : ChangeSpec := { name := "fnExactZoneWalls", fn := fun _ => fun
  | [d1, d2] => { results := [.lit (.bool true)], args := [d1, d2] }
  | _ => none }
def fnExactZoneWallsRow : OpenClaim := { program := "ytndmakimkghihaa", sum := "f1da607e9ab833b7ee89376292e788ae8bad3b28c3799148416ea8b4f2312573", func := "loop.example/g00952/laws.FnExactZoneWalls", spec := "fnExactZoneWalls", unfollowed := true, recurses := true, apart := false }
def FnExactZoneWallsSaid : Prop := fnExactZoneWallsRow.holds Try.pinned (OpenSpec.ofChange fnExactZoneWallsSpec)

/-- ITS FALSE NEIGHBOUR: 'it returns false'. Refute it at one input. -/
def fnExactZoneWallsWrong : ChangeSpec := { name := "fnExactZoneWalls", fn := fun _ => fun
  | [d1, d2] => { results := [.lit (.bool false)], args := [d1, d2] }
  | _ => none }
def FnExactZoneWallsWrongFalsely : Prop := fnExactZoneWallsRow.holds Try.pinned (OpenSpec.ofChange fnExactZoneWallsWrong)

/-- 'laws.FnExactRawPartials': WHATEVER THE INPUT: true; the input reads as it did. -/
def fnExactRawPartialsSpec : ChangeSpec := { name := "fnExactRawPartials", fn := fun _ => fun
  | [d1, d2] => { results := [.lit (.bool true)], args := [d1, d2] }
  | _ => none }
def fnExactRawPartialsRow : OpenClaim := { program := "ytndmakimkghihaa", sum := "f1da607e9ab833b7ee89376292e788ae8bad3b28c3799148416ea8b4f2312573", func := "loop.example/g00952/laws.FnExactRawPartials", spec := "fnExactRawPartials", unfollowed := true, recurses := true, apart := false }
def FnExactRawPartialsSaid : Prop := fnExactRawPartialsRow.holds Try.pinned (OpenSpec.ofChange fnExactRawPartialsSpec)

/-- ITS FALSE NEIGHBOUR: 'it returns false'. Refute it at one input. -/
def fnExactRawPartialsWrong : ChangeSpec := { name := "fnExactRawPartials", fn := fun _ => fun
  | [d1, d2] => { results := [.lit (.bool false)], args := [d1, d2] }
  | _ => none }
def FnExactRawPartialsWrongFalsely : Prop := fnExactRawPartialsRow.holds Try.pinned (OpenSpec.ofChange fnExactRawPartialsWrong)

/-- 'laws.FnExactSoundOf': WHATEVER THE INPUT: true; the input reads as it did. -/
def fnExactSoundOfSpec : ChangeSpec := { name := "fnExactSoundOf", fn := fun _ => fun
  | [d1, d2] => { results := [.lit (.bool true)], args := [d1, d2] }
  | _ => none }
def fnExactSoundOfRow : OpenClaim := { program := "ytndmakimkghihaa", sum := "f1da607e9ab833b7ee89376292e788ae8bad3b28c3799148416ea8b4f2312573", func := "loop.example/g00952/laws.FnExactSoundOf", spec := "fnExactSoundOf", unfollowed := true, recurses := true, apart := false }
def FnExactSoundOfSaid : Prop := fnExactSoundOfRow.holds Try.pinned (OpenSpec.ofChange fnExactSoundOfSpec)

/-- ITS FALSE NEIGHBOUR: 'it returns false'. Refute it at one input. -/
def fnExactSoundOfWrong : ChangeSpec := { name := "fnExactSoundOf", fn := fun _ => fun
  | [d1, d2] => { results := [.lit (.bool false)], args := [d1, d2] }
  | _ => none }
def FnExactSoundOfWrongFalsely : Prop := fnExactSoundOfRow.holds Try.pinned (OpenSpec.ofChange fnExactSoundOfWrong)

/-- 'laws.FnExactSensitivity': WHATEVER THE INPUT: true; the input reads as it did. -/
def fnExactSensitivitySpec : ChangeSpec := { name := "fnExactSensitivity", fn := fun _ => fun
  | [d1, d2, d3] => { results := [.lit (.bool true)], args := [d1, d2, d3] }
  | _ => none }
def fnExactSensitivityRow : OpenClaim := { program := "ytndmakimkghihaa", sum := "f1da607e9ab833b7ee89376292e788ae8bad3b28c3799148416ea8b4f2312573", func := "loop.example/g00952/laws.FnExactSensitivity", spec := "fnExactSensitivity", unfollowed := true, recurses := true, apart := false }
def FnExactSensitivitySaid : Prop := fnExactSensitivityRow.holds Try.pinned (OpenSpec.ofChange fnExactSensitivitySpec)

/-- ITS FALSE NEIGHBOUR: 'it returns false'. Refute it at one input. -/
def fnExactSensitivityWrong : ChangeSpec := { name := "fnExactSensitivity", fn := fun _ => fun
  | [d1, d2, d3] => { results := [.lit (.bool false)], args := [d1, d2, d3] }
  | _ => none }
def FnExactSensitivityWrongFalsely : Prop := fnExactSensitivityRow.holds Try.pinned (OpenSpec.ofChange fnExactSensitivityWrong)

/-- 'laws.FnExactDominantZone': WHATEVER THE INPUT: true; the input reads as it did. -/
def fnExactDominantZoneSpec : ChangeSpec := { name := "fnExactDominantZone", fn := fun _ => fun
  | [d1, d2] => { results := [.lit (.bool true)], args := [d1, d2] }
  | _ => none }
def fnExactDominantZoneRow : OpenClaim := { program := "ytndmakimkghihaa", sum := "f1da607e9ab833b7ee89376292e788ae8bad3b28c3799148416ea8b4f2312573", func := "loop.example/g00952/laws.FnExactDominantZone", spec := "fnExactDominantZone", apart := false }
def FnExactDominantZoneSaid : Prop := fnExactDominantZoneRow.holds Try.pinned (OpenSpec.ofChange fnExactDominantZoneSpec)

/-- ITS FALSE NEIGHBOUR: 'it returns false'. Refute it at one input. -/
def fnExactDominantZoneWrong : ChangeSpec := { name := "fnExactDominantZone", fn := fun _ => fun
  | [d1, d2] => { results := [.lit (.bool false)], args := [d1, d2] }
  | _ => none }
def FnExactDominantZoneWrongFalsely : Prop := fnExactDominantZoneRow.holds Try.pinned (OpenSpec.ofChange fnExactDominantZoneWrong)

/-- 'laws.FnExactFitBase': WHATEVER THE INPUT: true; the input reads as it did. -/
def fnExactFitBaseSpec : ChangeSpec := { name := "fnExactFitBase", fn := fun _ => fun
  | [d1, d2, d3] => { results := [.lit (.bool true)], args := [d1, d2, d3] }
  | _ => none }
def fnExactFitBaseRow : OpenClaim := { program := "ytndmakimkghihaa", sum := "f1da607e9ab833b7ee89376292e788ae8bad3b28c3799148416ea8b4f2312573", func := "loop.example/g00952/laws.FnExactFitBase", spec := "fnExactFitBase", unfollowed := true, recurses := true, apart := false }
def FnExactFitBaseSaid : Prop := fnExactFitBaseRow.holds Try.pinned (OpenSpec.ofChange fnExactFitBaseSpec)

/-- ITS FALSE NEIGHBOUR: 'it returns false'. Refute it at one input. -/
def fnExactFitBaseWrong : ChangeSpec := { name := "fnExactFitBase", fn := fun _ => fun
  | [d1, d2, d3] => { results := [.lit (.bool false)], args := [d1, d2, d3] }
  | _ => none }
def FnExactFitBaseWrongFalsely : Prop := fnExactFitBaseRow.holds Try.pinned (OpenSpec.ofChange fnExactFitBaseWrong)

/-- 'laws.FnExactRingMasses': WHATEVER THE INPUT: true; the input reads as it did. -/
def fnExactRingMassesSpec : ChangeSpec := { name := "fnExactRingMasses", fn := fun _ => fun
  | [d1, d2] => { results := [.lit (.bool true)], args := [d1, d2] }
  | _ => none }
def fnExactRingMassesRow : OpenClaim := { program := "ytndmakimkghihaa", sum := "f1da607e9ab833b7ee89376292e788ae8bad3b28c3799148416ea8b4f2312573", func := "loop.example/g00952/laws.FnExactRingMasses", spec := "fnExactRingMasses", inPlace := ["math/bits.Add64"], unfollowed := true, recurses := true, named := ["math/bits.divideError", "math/bits.overflowError"], apart := false }
def FnExactRingMassesSaid : Prop := fnExactRingMassesRow.holds Try.pinned (OpenSpec.ofChange fnExactRingMassesSpec)

/-- ITS FALSE NEIGHBOUR: 'it returns false'. Refute it at one input. -/
def fnExactRingMassesWrong : ChangeSpec := { name := "fnExactRingMasses", fn := fun _ => fun
  | [d1, d2] => { results := [.lit (.bool false)], args := [d1, d2] }
  | _ => none }
def FnExactRingMassesWrongFalsely : Prop := fnExactRingMassesRow.holds Try.pinned (OpenSpec.ofChange fnExactRingMassesWrong)

/-- 'laws.FnExactScaleProfile': WHATEVER THE INPUT: true; the input reads as it did. -/
def fnExactScaleProfileSpec : ChangeSpec := { name := "fnExactScaleProfile", fn := fun _ => fun
  | [d1, d2, d3] => { results := [.lit (.bool true)], args := [d1, d2, d3] }
  | _ => none }
def fnExactScaleProfileRow : OpenClaim := { program := "ytndmakimkghihaa", sum := "f1da607e9ab833b7ee89376292e788ae8bad3b28c3799148416ea8b4f2312573", func := "loop.example/g00952/laws.FnExactScaleProfile", spec := "fnExactScaleProfile", unfollowed := true, recurses := true, apart := false }
def FnExactScaleProfileSaid : Prop := fnExactScaleProfileRow.holds Try.pinned (OpenSpec.ofChange fnExactScaleProfileSpec)

/-- ITS FALSE NEIGHBOUR: 'it returns false'. Refute it at one input. -/
def fnExactScaleProfileWrong : ChangeSpec := { name := "fnExactScaleProfile", fn := fun _ => fun
  | [d1, d2, d3] => { results := [.lit (.bool false)], args := [d1, d2, d3] }
  | _ => none }
def FnExactScaleProfileWrongFalsely : Prop := fnExactScaleProfileRow.holds Try.pinned (OpenSpec.ofChange fnExactScaleProfileWrong)

/-- 'laws.FnExactBlendProfiles': WHATEVER THE INPUT: true; the input reads as it did. -/
def fnExactBlendProfilesSpec : ChangeSpec := { name := "fnExactBlendProfiles", fn := fun _ => fun
  | [d1, d2, d3] => { results := [.lit (.bool true)], args := [d1, d2, d3] }
  | _ => none }
def fnExactBlendProfilesRow : OpenClaim := { program := "ytndmakimkghihaa", sum := "f1da607e9ab833b7ee89376292e788ae8bad3b28c3799148416ea8b4f2312573", func := "loop.example/g00952/laws.FnExactBlendProfiles", spec := "fnExactBlendProfiles", unfollowed := true, recurses := true, apart := false }
def FnExactBlendProfilesSaid : Prop := fnExactBlendProfilesRow.holds Try.pinned (OpenSpec.ofChange fnExactBlendProfilesSpec)

/-- ITS FALSE NEIGHBOUR: 'it returns false'. Refute it at one input. -/
def fnExactBlendProfilesWrong : ChangeSpec := { name := "fnExactBlendProfiles", fn := fun _ => fun
  | [d1, d2, d3] => { results := [.lit (.bool false)], args := [d1, d2, d3] }
  | _ => none }
def FnExactBlendProfilesWrongFalsely : Prop := fnExactBlendProfilesRow.holds Try.pinned (OpenSpec.ofChange fnExactBlendProfilesWrong)

/- THE SECOND FORM. 'bulk': how many values and letters a reading holds, each counted each time it is reached (what is shared counts as often as it is met; a slice's spare places count too). A statement '..UptoSaid' is the law's where the arguments, and the package variables that the reading takes, are together of bulk at most 1048576: NARROWER than '..Said'. Prove '..Said' where nothing that the law and all that it calls make is longer than what came in: it says more and counts as full. Else prove '..UptoSaid'. A law counts once. -/
mutual
def uptoBulk {H : Type} : DataW H → Nat
  | .lit (.string bytes) => bytes.length + 1
  | .lit _ => 1
  | .nil => 1
  | .ptr d => uptoBulk d + 1
  | .slice elems spare => uptoBulkAll elems + uptoBulkAll spare + 1
  | .agg parts => uptoBulkAll parts + 1
  | .iface _ d => uptoBulk d + 1
  | .map entries => uptoBulkEntries entries + 1
  | .held _ => 1
def uptoBulkAll {H : Type} : List (DataW H) → Nat
  | [] => 0
  | d :: r => uptoBulk d + uptoBulkAll r
def uptoBulkEntries {H : Type} : List (Lit × DataW H) → Nat
  | [] => 0
  | x :: r => uptoBulkEntry x + uptoBulkEntries r
def uptoBulkEntry {H : Type} : Lit × DataW H → Nat
  | (.string bytes, d) => bytes.length + uptoBulk d + 1
  | (_, d) => uptoBulk d + 1
 end
def uptoSmall : (H : Type) → List (DataW H) → Bool := fun _ ds => decide (uptoBulkAll ds ≤ 1048576)
def OpenSpec.upto (s : _root_.Go.ChangeSpec) : _root_.Go.OpenSpec := { _root_.Go.OpenSpec.ofChange s with cond := some uptoSmall }

/-- 'laws.FnExactValidModel', WHERE WHAT IT READS IS OF BULK AT MOST 1048576: true; the input reads as it did. -/
def fnExactValidModelUptoRow : OpenClaim := { program := "ytndmakimkghihaa", sum := "f1da607e9ab833b7ee89376292e788ae8bad3b28c3799148416ea8b4f2312573", func := "loop.example/g00952/laws.FnExactValidModel", spec := "fnExactValidModel", apart := false, narrowed := true }
def FnExactValidModelUptoSaid : Prop := fnExactValidModelUptoRow.holds Try.pinned (OpenSpec.upto fnExactValidModelSpec)

/-- 'laws.FnExactSameModel', WHERE WHAT IT READS IS OF BULK AT MOST 1048576: true; the input reads as it did. -/
def fnExactSameModelUptoRow : OpenClaim := { program := "ytndmakimkghihaa", sum := "f1da607e9ab833b7ee89376292e788ae8bad3b28c3799148416ea8b4f2312573", func := "loop.example/g00952/laws.FnExactSameModel", spec := "fnExactSameModel", unfollowed := true, recurses := true, apart := false, narrowed := true }
def FnExactSameModelUptoSaid : Prop := fnExactSameModelUptoRow.holds Try.pinned (OpenSpec.upto fnExactSameModelSpec)

/-- 'laws.FnExactStandardModel', WHERE WHAT IT READS IS OF BULK AT MOST 1048576: true; the input reads as it did. -/
def fnExactStandardModelUptoRow : OpenClaim := { program := "ytndmakimkghihaa", sum := "f1da607e9ab833b7ee89376292e788ae8bad3b28c3799148416ea8b4f2312573", func := "loop.example/g00952/laws.FnExactStandardModel", spec := "fnExactStandardModel", apart := false, narrowed := true }
def FnExactStandardModelUptoSaid : Prop := fnExactStandardModelUptoRow.holds Try.pinned (OpenSpec.upto fnExactStandardModelSpec)

/-- 'laws.FnExactZoneWalls', WHERE WHAT IT READS IS OF BULK AT MOST 1048576: true; the input reads as it did. -/
def fnExactZoneWallsUptoRow : OpenClaim := { program := "ytndmakimkghihaa", sum := "f1da607e9ab833b7ee89376292e788ae8bad3b28c3799148416ea8b4f2312573", func := "loop.example/g00952/laws.FnExactZoneWalls", spec := "fnExactZoneWalls", unfollowed := true, recurses := true, apart := false, narrowed := true }
def FnExactZoneWallsUptoSaid : Prop := fnExactZoneWallsUptoRow.holds Try.pinned (OpenSpec.upto fnExactZoneWallsSpec)

/-- 'laws.FnExactRawPartials', WHERE WHAT IT READS IS OF BULK AT MOST 1048576: true; the input reads as it did. -/
def fnExactRawPartialsUptoRow : OpenClaim := { program := "ytndmakimkghihaa", sum := "f1da607e9ab833b7ee89376292e788ae8bad3b28c3799148416ea8b4f2312573", func := "loop.example/g00952/laws.FnExactRawPartials", spec := "fnExactRawPartials", unfollowed := true, recurses := true, apart := false, narrowed := true }
def FnExactRawPartialsUptoSaid : Prop := fnExactRawPartialsUptoRow.holds Try.pinned (OpenSpec.upto fnExactRawPartialsSpec)

/-- 'laws.FnExactSoundOf', WHERE WHAT IT READS IS OF BULK AT MOST 1048576: true; the input reads as it did. -/
def fnExactSoundOfUptoRow : OpenClaim := { program := "ytndmakimkghihaa", sum := "f1da607e9ab833b7ee89376292e788ae8bad3b28c3799148416ea8b4f2312573", func := "loop.example/g00952/laws.FnExactSoundOf", spec := "fnExactSoundOf", unfollowed := true, recurses := true, apart := false, narrowed := true }
def FnExactSoundOfUptoSaid : Prop := fnExactSoundOfUptoRow.holds Try.pinned (OpenSpec.upto fnExactSoundOfSpec)

/-- 'laws.FnExactSensitivity', WHERE WHAT IT READS IS OF BULK AT MOST 1048576: true; the input reads as it did. -/
def fnExactSensitivityUptoRow : OpenClaim := { program := "ytndmakimkghihaa", sum := "f1da607e9ab833b7ee89376292e788ae8bad3b28c3799148416ea8b4f2312573", func := "loop.example/g00952/laws.FnExactSensitivity", spec := "fnExactSensitivity", unfollowed := true, recurses := true, apart := false, narrowed := true }
def FnExactSensitivityUptoSaid : Prop := fnExactSensitivityUptoRow.holds Try.pinned (OpenSpec.upto fnExactSensitivitySpec)

/-- 'laws.FnExactDominantZone', WHERE WHAT IT READS IS OF BULK AT MOST 1048576: true; the input reads as it did. -/
def fnExactDominantZoneUptoRow : OpenClaim := { program := "ytndmakimkghihaa", sum := "f1da607e9ab833b7ee89376292e788ae8bad3b28c3799148416ea8b4f2312573", func := "loop.example/g00952/laws.FnExactDominantZone", spec := "fnExactDominantZone", apart := false, narrowed := true }
def FnExactDominantZoneUptoSaid : Prop := fnExactDominantZoneUptoRow.holds Try.pinned (OpenSpec.upto fnExactDominantZoneSpec)

/-- 'laws.FnExactFitBase', WHERE WHAT IT READS IS OF BULK AT MOST 1048576: true; the input reads as it did. -/
def fnExactFitBaseUptoRow : OpenClaim := { program := "ytndmakimkghihaa", sum := "f1da607e9ab833b7ee89376292e788ae8bad3b28c3799148416ea8b4f2312573", func := "loop.example/g00952/laws.FnExactFitBase", spec := "fnExactFitBase", unfollowed := true, recurses := true, apart := false, narrowed := true }
def FnExactFitBaseUptoSaid : Prop := fnExactFitBaseUptoRow.holds Try.pinned (OpenSpec.upto fnExactFitBaseSpec)

/-- 'laws.FnExactRingMasses', WHERE WHAT IT READS IS OF BULK AT MOST 1048576: true; the input reads as it did. -/
def fnExactRingMassesUptoRow : OpenClaim := { program := "ytndmakimkghihaa", sum := "f1da607e9ab833b7ee89376292e788ae8bad3b28c3799148416ea8b4f2312573", func := "loop.example/g00952/laws.FnExactRingMasses", spec := "fnExactRingMasses", inPlace := ["math/bits.Add64"], unfollowed := true, recurses := true, named := ["math/bits.divideError", "math/bits.overflowError"], apart := false, narrowed := true }
def FnExactRingMassesUptoSaid : Prop := fnExactRingMassesUptoRow.holds Try.pinned (OpenSpec.upto fnExactRingMassesSpec)

/-- 'laws.FnExactScaleProfile', WHERE WHAT IT READS IS OF BULK AT MOST 1048576: true; the input reads as it did. -/
def fnExactScaleProfileUptoRow : OpenClaim := { program := "ytndmakimkghihaa", sum := "f1da607e9ab833b7ee89376292e788ae8bad3b28c3799148416ea8b4f2312573", func := "loop.example/g00952/laws.FnExactScaleProfile", spec := "fnExactScaleProfile", unfollowed := true, recurses := true, apart := false, narrowed := true }
def FnExactScaleProfileUptoSaid : Prop := fnExactScaleProfileUptoRow.holds Try.pinned (OpenSpec.upto fnExactScaleProfileSpec)

/-- 'laws.FnExactBlendProfiles', WHERE WHAT IT READS IS OF BULK AT MOST 1048576: true; the input reads as it did. -/
def fnExactBlendProfilesUptoRow : OpenClaim := { program := "ytndmakimkghihaa", sum := "f1da607e9ab833b7ee89376292e788ae8bad3b28c3799148416ea8b4f2312573", func := "loop.example/g00952/laws.FnExactBlendProfiles", spec := "fnExactBlendProfiles", unfollowed := true, recurses := true, apart := false, narrowed := true }
def FnExactBlendProfilesUptoSaid : Prop := fnExactBlendProfilesUptoRow.holds Try.pinned (OpenSpec.upto fnExactBlendProfilesSpec)

end Rows
end Go.Proofs.Ytndmakimkghihaa
