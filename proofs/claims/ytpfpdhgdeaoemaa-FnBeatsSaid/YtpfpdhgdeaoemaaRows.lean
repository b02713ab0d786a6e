/-
  No cell of these rows narrows 'for every input' (looked for: loops, veiled, ifaces, maps, wideKeys, modest, calm, conditions, laid).
  DERIVED. THE GIVEN ROWS OF THIS SEAT. 9 by the template 'for every input the law returns true; each argument reads behind the call as it read before'; 0 by the template 'total and deterministic' (their statements: YtpfpdhgdeaoemaaTotals.lean).
  GIVEN WITH THE SEED: the statements are not yours to turn. If you find one false, say at which input.
  Laid BY PROGRAM, IN A SANDBOX (cutbox-rows.mjs): the forced cells as the released guide's own fill.sh prints them over the translation 7c7638be0c524f23… (all of the seat's roots in one cut). By AI agents, Wed Nov 11 2026. No macro, syntax, notation, axiom, sorry.
-/
import Derived.Test.YtpfpdhgdeaoemaaChecked
import GoSem.Claim
import GoSem.ClaimJoined
import GoSem.ClaimMapViews
import Derived.JoinedTies
import Derived.KernelRfl
namespace Go.Proofs.Ytpfpdhgdeaoemaa
/- THE CELL 'sum', in the pinned program and in every row, IS THE sha256 OF THE DUMP (.gsa) THAT YtpfpdhgdeaoemaaProg.lean LOADS. Nothing in Lean hashes anything: it is a label: what it is worth is what the hold of that sum in a sandbox is worth. -/
noncomputable def Try.pinned : Pinned := { name := "ytpfpdhgdeaoemaa", sum := "7c7638be0c524f233d141c530dd3e58144acc43c91d1af14a51f53282e904165", checked := Try.checked }
namespace Rows
def none {H : Type} : Left H := { results := [], args := [] }

/-- 'laws.FnBeats': WHATEVER THE INPUT: true; the input reads as it did. -/
def fnBeatsSpec : ChangeSpec := { name := "fnBeats", fn := fun _ => fun
  | [d1, d2] => { results := [.lit (.bool true)], args := [d1, d2] }
  | _ => none }
def fnBeatsRow : OpenClaim := { program := "ytpfpdhgdeaoemaa", sum := "7c7638be0c524f233d141c530dd3e58144acc43c91d1af14a51f53282e904165", func := "loop.example/g00952/laws.FnBeats", spec := "fnBeats", apart := false }
def FnBeatsSaid : Prop := fnBeatsRow.holds Try.pinned (OpenSpec.ofChange fnBeatsSpec)

/-- ITS FALSE NEIGHBOUR: 'it returns false'. Refute it at one input. -/
def fnBeatsWrong : ChangeSpec := { name := "fnBeats", fn := fun _ => fun
  | [d1, d2] => { results := [.lit (.bool false)], args := [d1, d2] }
  | _ => none }
def FnBeatsWrongFalsely : Prop := fnBeatsRow.holds Try.pinned (OpenSpec.ofChange fnBeatsWrong)

/-- 'laws.FnExactIsFrequency': WHATEVER THE INPUT: true; the input reads as it did. -/
def fnExactIsFrequencySpec : ChangeSpec := { name := "fnExactIsFrequency", fn := fun _ => fun
  | [d] => { results := [.lit (.bool true)], args := [d] }
  | _ => none }
def fnExactIsFrequencyRow : OpenClaim := { program := "ytpfpdhgdeaoemaa", sum := "7c7638be0c524f233d141c530dd3e58144acc43c91d1af14a51f53282e904165", func := "loop.example/g00952/laws.FnExactIsFrequency", spec := "fnExactIsFrequency", apart := false }
def FnExactIsFrequencySaid : Prop := fnExactIsFrequencyRow.holds Try.pinned (OpenSpec.ofChange fnExactIsFrequencySpec)

/-- ITS FALSE NEIGHBOUR: 'it returns false'. Refute it at one input. -/
def fnExactIsFrequencyWrong : ChangeSpec := { name := "fnExactIsFrequency", fn := fun _ => fun
  | [d] => { results := [.lit (.bool false)], args := [d] }
  | _ => none }
def FnExactIsFrequencyWrongFalsely : Prop := fnExactIsFrequencyRow.holds Try.pinned (OpenSpec.ofChange fnExactIsFrequencyWrong)

/-- 'laws.FnExactFineLog': WHATEVER THE INPUT: true; the input reads as it did. -/
def fnExactFineLogSpec : ChangeSpec := { name := "fnExactFineLog", fn := fun _ => fun
  | [d] => { results := [.lit (.bool true)], args := [d] }
  | _ => none }
def fnExactFineLogRow : OpenClaim := { program := "ytpfpdhgdeaoemaa", sum := "7c7638be0c524f233d141c530dd3e58144acc43c91d1af14a51f53282e904165", func := "loop.example/g00952/laws.FnExactFineLog", spec := "fnExactFineLog", apart := false }
def FnExactFineLogSaid : Prop := fnExactFineLogRow.holds Try.pinned (OpenSpec.ofChange fnExactFineLogSpec)

/-- ITS FALSE NEIGHBOUR: 'it returns false'. Refute it at one input. -/
def fnExactFineLogWrong : ChangeSpec := { name := "fnExactFineLog", fn := fun _ => fun
  | [d] => { results := [.lit (.bool false)], args := [d] }
  | _ => none }
def FnExactFineLogWrongFalsely : Prop := fnExactFineLogRow.holds Try.pinned (OpenSpec.ofChange fnExactFineLogWrong)

/-- 'laws.FnExactLogTenths': WHATEVER THE INPUT: true; the input reads as it did. -/
def fnExactLogTenthsSpec : ChangeSpec := { name := "fnExactLogTenths", fn := fun _ => fun
  | [d] => { results := [.lit (.bool true)], args := [d] }
  | _ => none }
def fnExactLogTenthsRow : OpenClaim := { program := "ytpfpdhgdeaoemaa", sum := "7c7638be0c524f233d141c530dd3e58144acc43c91d1af14a51f53282e904165", func := "loop.example/g00952/laws.FnExactLogTenths", spec := "fnExactLogTenths", apart := false }
def FnExactLogTenthsSaid : Prop := fnExactLogTenthsRow.holds Try.pinned (OpenSpec.ofChange fnExactLogTenthsSpec)

/-- ITS FALSE NEIGHBOUR: 'it returns false'. Refute it at one input. -/
def fnExactLogTenthsWrong : ChangeSpec := { name := "fnExactLogTenths", fn := fun _ => fun
  | [d] => { results := [.lit (.bool false)], args := [d] }
  | _ => none }
def FnExactLogTenthsWrongFalsely : Prop := fnExactLogTenthsRow.holds Try.pinned (OpenSpec.ofChange fnExactLogTenthsWrong)

/-- 'laws.FnExactCentsBetween': WHATEVER THE INPUT: true; the input reads as it did. -/
def fnExactCentsBetweenSpec : ChangeSpec := { name := "fnExactCentsBetween", fn := fun _ => fun
  | [d1, d2] => { results := [.lit (.bool true)], args := [d1, d2] }
  | _ => none }
def fnExactCentsBetweenRow : OpenClaim := { program := "ytpfpdhgdeaoemaa", sum := "7c7638be0c524f233d141c530dd3e58144acc43c91d1af14a51f53282e904165", func := "loop.example/g00952/laws.FnExactCentsBetween", spec := "fnExactCentsBetween", apart := false }
def FnExactCentsBetweenSaid : Prop := fnExactCentsBetweenRow.holds Try.pinned (OpenSpec.ofChange fnExactCentsBetweenSpec)

/-- ITS FALSE NEIGHBOUR: 'it returns false'. Refute it at one input. -/
def fnExactCentsBetweenWrong : ChangeSpec := { name := "fnExactCentsBetween", fn := fun _ => fun
  | [d1, d2] => { results := [.lit (.bool false)], args := [d1, d2] }
  | _ => none }
def FnExactCentsBetweenWrongFalsely : Prop := fnExactCentsBetweenRow.holds Try.pinned (OpenSpec.ofChange fnExactCentsBetweenWrong)

/-- 'laws.FnExactRatioFrequency': WHATEVER THE INPUT: true; the input reads as it did. -/
def fnExactRatioFrequencySpec : ChangeSpec := { name := "fnExactRatioFrequency", fn := fun _ => fun
  | [d1, d2, d3] => { results := [.lit (.bool true)], args := [d1, d2, d3] }
  | _ => none }
def fnExactRatioFrequencyRow : OpenClaim := { program := "ytpfpdhgdeaoemaa", sum := "7c7638be0c524f233d141c530dd3e58144acc43c91d1af14a51f53282e904165", func := "loop.example/g00952/laws.FnExactRatioFrequency", spec := "fnExactRatioFrequency", apart := false }
def FnExactRatioFrequencySaid : Prop := fnExactRatioFrequencyRow.holds Try.pinned (OpenSpec.ofChange fnExactRatioFrequencySpec)

/-- ITS FALSE NEIGHBOUR: 'it returns false'. Refute it at one input. -/
def fnExactRatioFrequencyWrong : ChangeSpec := { name := "fnExactRatioFrequency", fn := fun _ => fun
  | [d1, d2, d3] => { results := [.lit (.bool false)], args := [d1, d2, d3] }
  | _ => none }
def FnExactRatioFrequencyWrongFalsely : Prop := fnExactRatioFrequencyRow.holds Try.pinned (OpenSpec.ofChange fnExactRatioFrequencyWrong)

/-- 'laws.FnExactBeat': WHATEVER THE INPUT: true; the input reads as it did. -/
def fnExactBeatSpec : ChangeSpec := { name := "fnExactBeat", fn := fun _ => fun
  | [d1, d2] => { results := [.lit (.bool true)], args := [d1, d2] }
  | _ => none }
def fnExactBeatRow : OpenClaim := { program := "ytpfpdhgdeaoemaa", sum := "7c7638be0c524f233d141c530dd3e58144acc43c91d1af14a51f53282e904165", func := "loop.example/g00952/laws.FnExactBeat", spec := "fnExactBeat", apart := false }
def FnExactBeatSaid : Prop := fnExactBeatRow.holds Try.pinned (OpenSpec.ofChange fnExactBeatSpec)

/-- ITS FALSE NEIGHBOUR: 'it returns false'. Refute it at one input. -/
def fnExactBeatWrong : ChangeSpec := { name := "fnExactBeat", fn := fun _ => fun
  | [d1, d2] => { results := [.lit (.bool false)], args := [d1, d2] }
  | _ => none }
def FnExactBeatWrongFalsely : Prop := fnExactBeatRow.holds Try.pinned (OpenSpec.ofChange fnExactBeatWrong)

/-- 'laws.FnExactBeatTime': WHATEVER THE INPUT: true; the input reads as it did. -/
def fnExactBeatTimeSpec : ChangeSpec := { name := "fnExactBeatTime", fn := fun _ => fun
  | [d1, d2] => { results := [.lit (.bool true)], args := [d1, d2] }
  | _ => none }
def fnExactBeatTimeRow : OpenClaim := { program := "ytpfpdhgdeaoemaa", sum := "7c7638be0c524f233d141c530dd3e58144acc43c91d1af14a51f53282e904165", func := "loop.example/g00952/laws.FnExactBeatTime", spec := "fnExactBeatTime", apart := false }
def FnExactBeatTimeSaid : Prop := fnExactBeatTimeRow.holds Try.pinned (OpenSpec.ofChange fnExactBeatTimeSpec)

/-- ITS FALSE NEIGHBOUR: 'it returns false'. Refute it at one input. -/
def fnExactBeatTimeWrong : ChangeSpec := { name := "fnExactBeatTime", fn := fun _ => fun
  | [d1, d2] => { results := [.lit (.bool false)], args := [d1, d2] }
  | _ => none }
def FnExactBeatTimeWrongFalsely : Prop := fnExactBeatTimeRow.holds Try.pinned (OpenSpec.ofChange fnExactBeatTimeWrong)

/-- 'laws.FnExactMeanFrequency': WHATEVER THE INPUT: true; the input reads as it did. -/
def fnExactMeanFrequencySpec : ChangeSpec := { name := "fnExactMeanFrequency", fn := fun _ => fun
  | [d] => { results := [.lit (.bool true)], args := [d] }
  | _ => none }
def fnExactMeanFrequencyRow : OpenClaim := { program := "ytpfpdhgdeaoemaa", sum := "7c7638be0c524f233d141c530dd3e58144acc43c91d1af14a51f53282e904165", func := "loop.example/g00952/laws.FnExactMeanFrequency", spec := "fnExactMeanFrequency", apart := false }
def FnExactMeanFrequencySaid : Prop := fnExactMeanFrequencyRow.holds Try.pinned (OpenSpec.ofChange fnExactMeanFrequencySpec)

/-- ITS FALSE NEIGHBOUR: 'it returns false'. Refute it at one input. -/
def fnExactMeanFrequencyWrong : ChangeSpec := { name := "fnExactMeanFrequency", fn := fun _ => fun
  | [d] => { results := [.lit (.bool false)], args := [d] }
  | _ => none }
def FnExactMeanFrequencyWrongFalsely : Prop := fnExactMeanFrequencyRow.holds Try.pinned (OpenSpec.ofChange fnExactMeanFrequencyWrong)

/- THE SECOND FORM. 'bulk': how many values and letters a reading holds, each counted each time it is reached (what is shared counts as often as it is met; a slice's spare places count too). A statement '..UptoSaid' is the law's where the arguments, and the package variables that the reading takes, are together of bulk at most 1048576: NARROWER than '..Said'. Prove '..Said' where nothing that the law and all that it calls make is longer than what came in: it says more and counts as full. Else prove '..UptoSaid'. A law counts once. -/
mutual
def uptoBulk {H : Type} : DataW H → Nat
  | .lit (.string bytes) => bytes.length + 1
  | .lit _ => 1
  | .nil => 1
  | .ptr d => uptoBulk d + 1
  | .slice elems spare => uptoBulkAll elems + uptoBulkAll spare + 1
  | .agg parts => uptoBulkAll parts + 1
  | .iface _ d => uptoBulk d + 1
  | .map entries => uptoBulkEntries entries + 1
  | .held _ => 1
def uptoBulkAll {H : Type} : List (DataW H) → Nat
  | [] => 0
  | d :: r => uptoBulk d + uptoBulkAll r
def uptoBulkEntries {H : Type} : List (Lit × DataW H) → Nat
  | [] => 0
  | x :: r => uptoBulkEntry x + uptoBulkEntries r
def uptoBulkEntry {H : Type} : Lit × DataW H → Nat
  | (.string bytes, d) => bytes.length + uptoBulk d + 1
  | (_, d) => uptoBulk d + 1
 end
def uptoSmall : (H : Type) → List (DataW H) → Bool := fun _ ds => decide (uptoBulkAll ds ≤ 1048576)
def OpenSpec.upto (s : _root_.Go.ChangeSpec) : _root_.Go.OpenSpec := { _root_.Go.OpenSpec.ofChange s with cond := some uptoSmall }

/-- 'laws.FnBeats', WHERE WHAT IT READS IS OF BULK AT MOST 1048576: true; the input reads as it did. -/
def fnBeatsUptoRow : OpenClaim := { program := "ytpfpdhgdeaoemaa", sum := "7c7638be0c524f233d141c530dd3e58144acc43c91d1af14a51f53282e904165", func := "loop.example/g00952/laws.FnBeats", spec := "fnBeats", apart := false, narrowed := true }
def FnBeatsUptoSaid : Prop := fnBeatsUptoRow.holds Try.pinned (OpenSpec.upto fnBeatsSpec)

/-- 'laws.FnExactIsFrequency', WHERE WHAT IT READS IS OF BULK AT MOST 1048576: true; the input reads as it did. -/
def fnExactIsFrequencyUptoRow : OpenClaim := { program := "ytpfpdhgdeaoemaa", sum := "7c7638be0c524f233d141c530dd3e58144acc43c91d1af14a51f53282e904165", func := "loop.example/g00952/laws.FnExactIsFrequency", spec := "fnExactIsFrequency", apart := false, narrowed := true }
def FnExactIsFrequencyUptoSaid : Prop := fnExactIsFrequencyUptoRow.holds Try.pinned (OpenSpec.upto fnExactIsFrequencySpec)

/-- 'laws.FnExactFineLog', WHERE WHAT IT READS IS OF BULK AT MOST 1048576: true; the input reads as it did. -/
def fnExactFineLogUptoRow : OpenClaim := { program := "ytpfpdhgdeaoemaa", sum := "7c7638be0c524f233d141c530dd3e58144acc43c91d1af14a51f53282e904165", func := "loop.example/g00952/laws.FnExactFineLog", spec := "fnExactFineLog", apart := false, narrowed := true }
def FnExactFineLogUptoSaid : Prop := fnExactFineLogUptoRow.holds Try.pinned (OpenSpec.upto fnExactFineLogSpec)

/-- 'laws.FnExactLogTenths', WHERE WHAT IT READS IS OF BULK AT MOST 1048576: true; the input reads as it did. -/
def fnExactLogTenthsUptoRow : OpenClaim := { program := "ytpfpdhgdeaoemaa", sum := "7c7638be0c524f233d141c530dd3e58144acc43c91d1af14a51f53282e904165", func := "loop.example/g00952/laws.FnExactLogTenths", spec := "fnExactLogTenths", apart := false, narrowed := true }
def FnExactLogTenthsUptoSaid : Prop := fnExactLogTenthsUptoRow.holds Try.pinned (OpenSpec.upto fnExactLogTenthsSpec)

/-- 'laws.FnExactCentsBetween', WHERE WHAT IT READS IS OF BULK AT MOST 1048576: true; the input reads as it did. -/
def fnExactCentsBetweenUptoRow : OpenClaim := { program := "ytpfpdhgdeaoemaa", sum := "7c7638be0c524f233d141c530dd3e58144acc43c91d1af14a51f53282e904165", func := "loop.example/g00952/laws.FnExactCentsBetween", spec := "fnExactCentsBetween", apart := false, narrowed := true }
def FnExactCentsBetweenUptoSaid : Prop := fnExactCentsBetweenUptoRow.holds Try.pinned (OpenSpec.upto fnExactCentsBetweenSpec)

/-- 'laws.FnExactRatioFrequency', WHERE WHAT IT READS IS OF BULK AT MOST 1048576: true; the input reads as it did. -/
def fnExactRatioFrequencyUptoRow : OpenClaim := { program := "ytpfpdhgdeaoemaa", sum := "7c7638be0c524f233d141c530dd3e58144acc43c91d1af14a51f53282e904165", func := "loop.example/g00952/laws.FnExactRatioFrequency", spec := "fnExactRatioFrequency", apart := false, narrowed := true }
def FnExactRatioFrequencyUptoSaid : Prop := fnExactRatioFrequencyUptoRow.holds Try.pinned (OpenSpec.upto fnExactRatioFrequencySpec)

/-- 'laws.FnExactBeat', WHERE WHAT IT READS IS OF BULK AT MOST 1048576: true; the input reads as it did. -/
def fnExactBeatUptoRow : OpenClaim := { program := "ytpfpdhgdeaoemaa", sum := "7c7638be0c524f233d141c530dd3e58144acc43c91d1af14a51f53282e904165", func := "loop.example/g00952/laws.FnExactBeat", spec := "fnExactBeat", apart := false, narrowed := true }
def FnExactBeatUptoSaid : Prop := fnExactBeatUptoRow.holds Try.pinned (OpenSpec.upto fnExactBeatSpec)

/-- 'laws.FnExactBeatTime', WHERE WHAT IT READS IS OF BULK AT MOST 1048576: true; the input reads as it did. -/
def fnExactBeatTimeUptoRow : OpenClaim := { program := "ytpfpdhgdeaoemaa", sum := "7c7638be0c524f233d141c530dd3e58144acc43c91d1af14a51f53282e904165", func := "loop.example/g00952/laws.FnExactBeatTime", spec := "fnExactBeatTime", apart := false, narrowed := true }
def FnExactBeatTimeUptoSaid : Prop := fnExactBeatTimeUptoRow.holds Try.pinned (OpenSpec.upto fnExactBeatTimeSpec)

/-- 'laws.FnExactMeanFrequency', WHERE WHAT IT READS IS OF BULK AT MOST 1048576: true; the input reads as it did. -/
def fnExactMeanFrequencyUptoRow : OpenClaim := { program := "ytpfpdhgdeaoemaa", sum := "7c7638be0c524f233d141c530dd3e58144acc43c91d1af14a51f53282e904165", func := "loop.example/g00952/laws.FnExactMeanFrequency", spec := "fnExactMeanFrequency", apart := false, narrowed := true }
def FnExactMeanFrequencyUptoSaid : Prop := fnExactMeanFrequencyUptoRow.holds Try.pinned (OpenSpec.upto fnExactMeanFrequencySpec)

end Rows
end Go.Proofs.Ytpfpdhgdeaoemaa
