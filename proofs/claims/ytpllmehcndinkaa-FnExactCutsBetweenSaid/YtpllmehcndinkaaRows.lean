/-
  No cell of these rows narrows 'for every input' (looked for: loops, veiled, ifaces, maps, wideKeys, modest, calm, conditions, laid).
  DERIVED. THE GIVEN ROWS OF THIS SEAT. 7 by the template 'for every input the law returns true; each argument reads behind the call as it read before'; 0 by the template 'total and deterministic' (their statements: YtpllmehcndinkaaTotals.lean).
  GIVEN WITH THE SEED: the statements are not yours to turn. If you find one false, say at which input.
  Laid BY PROGRAM, IN A SANDBOX (cutbox-rows.mjs): the forced cells as the released guide's own fill.sh prints them over the translation f857bbc80dd9bb27… (all of the seat's roots in one cut). By AI agents, Wed Nov 11 2026. No macro, syntax, notation, axiom, sorry.
-/
import Derived.Test.YtpllmehcndinkaaChecked
import GoSem.Claim
import GoSem.ClaimJoined
import GoSem.ClaimMapViews
import Derived.JoinedTies
import Derived.KernelRfl
namespace Go.Proofs.Ytpllmehcndinkaa
/- THE CELL 'sum', in the pinned program and in every row, IS THE sha256 OF THE DUMP (.gsa) THAT YtpllmehcndinkaaProg.lean LOADS. Nothing in Lean hashes anything: it is a label: what it is worth is what the hold of that sum in a sandbox is worth. -/
noncomputable def Try.pinned : Pinned := { name := "ytpllmehcndinkaa", sum := "f857bbc80dd9bb27233434a06803ff493ccb2d22131f4dcf3a869a3065eb754b", checked := Try.checked }
namespace Rows
def none {H : Type} : Left H := { results := [], args := [] }

/-- 'laws.FnExactStandardModel': WHATEVER THE INPUT: true; the input reads as it did. -/
def fnExactStandardModelSpec : ChangeSpec := { name := "fnExactStandardModel", fn := fun _ => fun
  | [d] => { results := [.lit (.bool true)], args := [d] }
  | _ => none }
def fnExactStandardModelRow : OpenClaim := { program := "ytpllmehcndinkaa", sum := "f857bbc80dd9bb27233434a06803ff493ccb2d22131f4dcf3a869a3065eb754b", func := "loop.example/g00952/laws.FnExactStandardModel", spec := "fnExactStandardModel", apart := false }
def FnExactStandardModelSaid : Prop := fnExactStandardModelRow.holds Try.pinned (OpenSpec.ofChange fnExactStandardModelSpec)

/-- ITS FALSE NEIGHBOUR: 'it returns false'. Refute it at one input. -/
def fnExactStandardModelWrong : ChangeSpec := { name := "fnExactStandardModel", fn := fun _ => fun
  | [d] => { results := [.lit (.bool false)], args := [d] }
  | _ => none }
def FnExactStandardModelWrongFalsely : Prop := fnExactStandardModelRow.holds Try.pinned (OpenSpec.ofChange fnExactStandardModelWrong)

/-- 'laws.FnExactRawPartials': WHATEVER THE INPUT: true; the input reads as it did. -/
def fnExactRawPartialsSpec : ChangeSpec := { name := "fnExactRawPartials", fn := fun _ => fun
  | [d1, d2] => { results := [.lit (.bool true)], args := [d1, d2] }
  | _ => none }
def fnExactRawPartialsRow : OpenClaim := { program := "ytpllmehcndinkaa", sum := "f857bbc80dd9bb27233434a06803ff493ccb2d22131f4dcf3a869a3065eb754b", func := "loop.example/g00952/laws.FnExactRawPartials", spec := "fnExactRawPartials", unfollowed := true, recurses := true, apart := false }
def FnExactRawPartialsSaid : Prop := fnExactRawPartialsRow.holds Try.pinned (OpenSpec.ofChange fnExactRawPartialsSpec)

/-- ITS FALSE NEIGHBOUR: 'it returns false'. Refute it at one input. -/
def fnExactRawPartialsWrong : ChangeSpec := { name := "fnExactRawPartials", fn := fun _ => fun
  | [d1, d2] => { results := [.lit (.bool false)], args := [d1, d2] }
  | _ => none }
def FnExactRawPartialsWrongFalsely : Prop := fnExactRawPartialsRow.holds Try.pinned (OpenSpec.ofChange fnExactRawPartialsWrong)

/-- 'laws.FnExactSoundOf': WHATEVER THE INPUT: true; the input reads as it did. -/
def fnExactSoundOfSpec : ChangeSpec := { name := "fnExactSoundOf", fn := fun _ => fun
  | [d1, d2] => { results := [.lit (.bool true)], args := [d1, d2] }
  | _ => none }
def fnExactSoundOfRow : OpenClaim := { program := "ytpllmehcndinkaa", sum := "f857bbc80dd9bb27233434a06803ff493ccb2d22131f4dcf3a869a3065eb754b", func := "loop.example/g00952/laws.FnExactSoundOf", spec := "fnExactSoundOf", unfollowed := true, recurses := true, apart := false }
def FnExactSoundOfSaid : Prop := fnExactSoundOfRow.holds Try.pinned (OpenSpec.ofChange fnExactSoundOfSpec)

/-- ITS FALSE NEIGHBOUR: 'it returns false'. Refute it at one input. -/
def fnExactSoundOfWrong : ChangeSpec := { name := "fnExactSoundOf", fn := fun _ => fun
  | [d1, d2] => { results := [.lit (.bool false)], args := [d1, d2] }
  | _ => none }
def FnExactSoundOfWrongFalsely : Prop := fnExactSoundOfRow.holds Try.pinned (OpenSpec.ofChange fnExactSoundOfWrong)

/-- 'laws.FnExactSensitivity': WHATEVER THE INPUT: true; the input reads as it did. -/
def fnExactSensitivitySpec : ChangeSpec := { name := "fnExactSensitivity", fn := fun _ => fun
  | [d1, d2, d3] => { results := [.lit (.bool true)], args := [d1, d2, d3] }
  | _ => none }
def fnExactSensitivityRow : OpenClaim := { program := "ytpllmehcndinkaa", sum := "f857bbc80dd9bb27233434a06803ff493ccb2d22131f4dcf3a869a3065eb754b", func := "loop.example/g00952/laws.FnExactSensitivity", spec := "fnExactSensitivity", unfollowed := true, recurses := true, apart := false }
def FnExactSensitivitySaid : Prop := fnExactSensitivityRow.holds Try.pinned (OpenSpec.ofChange fnExactSensitivitySpec)

/-- ITS FALSE NEIGHBOUR: 'it returns false'. Refute it at one input. -/
def fnExactSensitivityWrong : ChangeSpec := { name := "fnExactSensitivity", fn := fun _ => fun
  | [d1, d2, d3] => { results := [.lit (.bool false)], args := [d1, d2, d3] }
  | _ => none }
def FnExactSensitivityWrongFalsely : Prop := fnExactSensitivityRow.holds Try.pinned (OpenSpec.ofChange fnExactSensitivityWrong)

/-- 'laws.FnExactFitBase': WHATEVER THE INPUT: true; the input reads as it did. -/
def fnExactFitBaseSpec : ChangeSpec := { name := "fnExactFitBase", fn := fun _ => fun
  | [d1, d2, d3] => { results := [.lit (.bool true)], args := [d1, d2, d3] }
  | _ => none }
def fnExactFitBaseRow : OpenClaim := { program := "ytpllmehcndinkaa", sum := "f857bbc80dd9bb27233434a06803ff493ccb2d22131f4dcf3a869a3065eb754b", func := "loop.example/g00952/laws.FnExactFitBase", spec := "fnExactFitBase", unfollowed := true, recurses := true, apart := false }
def FnExactFitBaseSaid : Prop := fnExactFitBaseRow.holds Try.pinned (OpenSpec.ofChange fnExactFitBaseSpec)

/-- ITS FALSE NEIGHBOUR: 'it returns false'. Refute it at one input. -/
def fnExactFitBaseWrong : ChangeSpec := { name := "fnExactFitBase", fn := fun _ => fun
  | [d1, d2, d3] => { results := [.lit (.bool false)], args := [d1, d2, d3] }
  | _ => none }
def FnExactFitBaseWrongFalsely : Prop := fnExactFitBaseRow.holds Try.pinned (OpenSpec.ofChange fnExactFitBaseWrong)

/-- 'laws.FnExactSortCuts': WHATEVER THE INPUT: true; the input reads as it did. -/
def fnExactSortCutsSpec : ChangeSpec := { name := "fnExactSortCuts", fn := fun _ => fun
  | [d] => { results := [.lit (.bool true)], args := [d] }
  | _ => none }
def fnExactSortCutsRow : OpenClaim := { program := "ytpllmehcndinkaa", sum := "f857bbc80dd9bb27233434a06803ff493ccb2d22131f4dcf3a869a3065eb754b", func := "loop.example/g00952/laws.FnExactSortCuts", spec := "fnExactSortCuts", inPlace := ["internal/reflectlite.ValueOf", "internal/reflectlite.Swapper", "(internal/reflectlite.Value).Len"], unfollowed := true, recurses := true, apart := false }
def FnExactSortCutsSaid : Prop := fnExactSortCutsRow.holds Try.pinned (OpenSpec.ofChange fnExactSortCutsSpec)

/-- ITS FALSE NEIGHBOUR: 'it returns false'. Refute it at one input. -/
def fnExactSortCutsWrong : ChangeSpec := { name := "fnExactSortCuts", fn := fun _ => fun
  | [d] => { results := [.lit (.bool false)], args := [d] }
  | _ => none }
def FnExactSortCutsWrongFalsely : Prop := fnExactSortCutsRow.holds Try.pinned (OpenSpec.ofChange fnExactSortCutsWrong)

/-- 'laws.FnExactCutsBetween': WHATEVER THE INPUT: true; the input reads as it did. -/
def fnExactCutsBetweenSpec : ChangeSpec := { name := "fnExactCutsBetween", fn := fun _ => fun
  | [d1, d2, d3] => { results := [.lit (.bool true)], args := [d1, d2, d3] }
  | _ => none }
def fnExactCutsBetweenRow : OpenClaim := { program := "ytpllmehcndinkaa", sum := "f857bbc80dd9bb27233434a06803ff493ccb2d22131f4dcf3a869a3065eb754b", func := "loop.example/g00952/laws.FnExactCutsBetween", spec := "fnExactCutsBetween", inPlace := ["internal/reflectlite.ValueOf", "internal/reflectlite.Swapper", "(internal/reflectlite.Value).Len"], unfollowed := true, recurses := true, apart := false }
def FnExactCutsBetweenSaid : Prop := fnExactCutsBetweenRow.holds Try.pinned (OpenSpec.ofChange fnExactCutsBetweenSpec)

/-- ITS FALSE NEIGHBOUR: 'it returns false'. Refute it at one input. -/
def fnExactCutsBetweenWrong : ChangeSpec := { name := "fnExactCutsBetween", fn := fun _ => fun
  | [d1, d2, d3] => { results := [.lit (.bool false)], args := [d1, d2, d3] }
  | _ => none }
def FnExactCutsBetweenWrongFalsely : Prop := fnExactCutsBetweenRow.holds Try.pinned (OpenSpec.ofChange fnExactCutsBetweenWrong)

/- THE SECOND FORM. 'bulk': how many values and letters a reading holds, each counted each time it is reached (what is shared counts as often as it is met; a slice's spare places count too). A statement '..UptoSaid' is the law's where the arguments, and the package variables that the reading takes, are together of bulk at most 1048576: NARROWER than '..Said'. Prove '..Said' where nothing that the law and all that it calls make is longer than what came in: it says more and counts as full. Else prove '..UptoSaid'. A law counts once. -/
mutual
def uptoBulk {H : Type} : DataW H → Nat
  | .lit (.string bytes) => bytes.length + 1
  | .lit _ => 1
  | .nil => 1
  | .ptr d => uptoBulk d + 1
  | .slice elems spare => uptoBulkAll elems + uptoBulkAll spare + 1
  | .agg parts => uptoBulkAll parts + 1
  | .iface _ d => uptoBulk d + 1
  | .map entries => uptoBulkEntries entries + 1
  | .held _ => 1
def uptoBulkAll {H : Type} : List (DataW H) → Nat
  | [] => 0
  | d :: r => uptoBulk d + uptoBulkAll r
def uptoBulkEntries {H : Type} : List (Lit × DataW H) → Nat
  | [] => 0
  | x :: r => uptoBulkEntry x + uptoBulkEntries r
def uptoBulkEntry {H : Type} : Lit × DataW H → Nat
  | (.string bytes, d) => bytes.length + uptoBulk d + 1
  | (_, d) => uptoBulk d + 1
 end
def uptoSmall : (H : Type) → List (DataW H) → Bool := fun _ ds => decide (uptoBulkAll ds ≤ 1048576)
def OpenSpec.upto (s : _root_.Go.ChangeSpec) : _root_.Go.OpenSpec := { _root_.Go.OpenSpec.ofChange s with cond := some uptoSmall }

/-- 'laws.FnExactStandardModel', WHERE WHAT IT READS IS OF BULK AT MOST 1048576: true; the input reads as it did. -/
def fnExactStandardModelUptoRow : OpenClaim := { program := "ytpllmehcndinkaa", sum := "f857bbc80dd9bb27233434a06803ff493ccb2d22131f4dcf3a869a3065eb754b", func := "loop.example/g00952/laws.FnExactStandardModel", spec := "fnExactStandardModel", apart := false, narrowed := true }
def FnExactStandardModelUptoSaid : Prop := fnExactStandardModelUptoRow.holds Try.pinned (OpenSpec.upto fnExactStandardModelSpec)

/-- 'laws.FnExactRawPartials', WHERE WHAT IT READS IS OF BULK AT MOST 1048576: true; the input reads as it did. -/
def fnExactRawPartialsUptoRow : OpenClaim := { program := "ytpllmehcndinkaa", sum := "f857bbc80dd9bb27233434a06803ff493ccb2d22131f4dcf3a869a3065eb754b", func := "loop.example/g00952/laws.FnExactRawPartials", spec := "fnExactRawPartials", unfollowed := true, recurses := true, apart := false, narrowed := true }
def FnExactRawPartialsUptoSaid : Prop := fnExactRawPartialsUptoRow.holds Try.pinned (OpenSpec.upto fnExactRawPartialsSpec)

/-- 'laws.FnExactSoundOf', WHERE WHAT IT READS IS OF BULK AT MOST 1048576: true; the input reads as it did. -/
def fnExactSoundOfUptoRow : OpenClaim := { program := "ytpllmehcndinkaa", sum := "f857bbc80dd9bb27233434a06803ff493ccb2d22131f4dcf3a869a3065eb754b", func := "loop.example/g00952/laws.FnExactSoundOf", spec := "fnExactSoundOf", unfollowed := true, recurses := true, apart := false, narrowed := true }
def FnExactSoundOfUptoSaid : Prop := fnExactSoundOfUptoRow.holds Try.pinned (OpenSpec.upto fnExactSoundOfSpec)

/-- 'laws.FnExactSensitivity', WHERE WHAT IT READS IS OF BULK AT MOST 1048576: true; the input reads as it did. -/
def fnExactSensitivityUptoRow : OpenClaim := { program := "ytpllmehcndinkaa", sum := "f857bbc80dd9bb27233434a06803ff493ccb2d22131f4dcf3a869a3065eb754b", func := "loop.example/g00952/laws.FnExactSensitivity", spec := "fnExactSensitivity", unfollowed := true, recurses := true, apart := false, narrowed := true }
def FnExactSensitivityUptoSaid : Prop := fnExactSensitivityUptoRow.holds Try.pinned (OpenSpec.upto fnExactSensitivitySpec)

/-- 'laws.FnExactFitBase', WHERE WHAT IT READS IS OF BULK AT MOST 1048576: true; the input reads as it did. -/
def fnExactFitBaseUptoRow : OpenClaim := { program := "ytpllmehcndinkaa", sum := "f857bbc80dd9bb27233434a06803ff493ccb2d22131f4dcf3a869a3065eb754b", func := "loop.example/g00952/laws.FnExactFitBase", spec := "fnExactFitBase", unfollowed := true, recurses := true, apart := false, narrowed := true }
def FnExactFitBaseUptoSaid : Prop := fnExactFitBaseUptoRow.holds Try.pinned (OpenSpec.upto fnExactFitBaseSpec)

/-- 'laws.FnExactSortCuts', WHERE WHAT IT READS IS OF BULK AT MOST 1048576: true; the input reads as it did. -/
def fnExactSortCutsUptoRow : OpenClaim := { program := "ytpllmehcndinkaa", sum := "f857bbc80dd9bb27233434a06803ff493ccb2d22131f4dcf3a869a3065eb754b", func := "loop.example/g00952/laws.FnExactSortCuts", spec := "fnExactSortCuts", inPlace := ["internal/reflectlite.ValueOf", "internal/reflectlite.Swapper", "(internal/reflectlite.Value).Len"], unfollowed := true, recurses := true, apart := false, narrowed := true }
def FnExactSortCutsUptoSaid : Prop := fnExactSortCutsUptoRow.holds Try.pinned (OpenSpec.upto fnExactSortCutsSpec)

/-- 'laws.FnExactCutsBetween', WHERE WHAT IT READS IS OF BULK AT MOST 1048576: true; the input reads as it did. -/
def fnExactCutsBetweenUptoRow : OpenClaim := { program := "ytpllmehcndinkaa", sum := "f857bbc80dd9bb27233434a06803ff493ccb2d22131f4dcf3a869a3065eb754b", func := "loop.example/g00952/laws.FnExactCutsBetween", spec := "fnExactCutsBetween", inPlace := ["internal/reflectlite.ValueOf", "internal/reflectlite.Swapper", "(internal/reflectlite.Value).Len"], unfollowed := true, recurses := true, apart := false, narrowed := true }
def FnExactCutsBetweenUptoSaid : Prop := fnExactCutsBetweenUptoRow.holds Try.pinned (OpenSpec.upto fnExactCutsBetweenSpec)

end Rows
end Go.Proofs.Ytpllmehcndinkaa
