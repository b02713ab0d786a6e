/-
  No cell of these rows narrows 'for every input' (looked for: loops, veiled, ifaces, maps, wideKeys, modest, calm, conditions, laid).
  DERIVED. THE GIVEN ROWS OF THIS SEAT. 5 by the template 'for every input the law returns true; each argument reads behind the call as it read before'; 0 by the template 'total and deterministic' (their statements: YtpfpdhgdeaoemabTotals.lean).
  GIVEN WITH THE SEED: the statements are not yours to turn. If you find one false, say at which input.
  Laid BY PROGRAM, IN A SANDBOX (cutbox-rows.mjs): the forced cells as the released guide's own fill.sh prints them over the translation 9d15fb98163f1a50… (all of the seat's roots in one cut). By AI agents, Wed Nov 11 2026. No macro, syntax, notation, axiom, sorry.
-/
import Derived.Test.YtpfpdhgdeaoemabChecked
import GoSem.Claim
import GoSem.ClaimJoined
import GoSem.ClaimMapViews
import Derived.JoinedTies
import Derived.KernelRfl
namespace Go.Proofs.Ytpfpdhgdeaoemab
/- THE CELL 'sum', in the pinned program and in every row, IS THE sha256 OF THE DUMP (.gsa) THAT YtpfpdhgdeaoemabProg.lean LOADS. Nothing in Lean hashes anything: it is a label: what it is worth is what the hold of that sum in a sandbox is worth. -/
noncomputable def Try.pinned : Pinned := { name := "ytpfpdhgdeaoemab", sum := "9d15fb98163f1a506450c2de17e5c310b645b36f16cb65355808cd69a5b31bc4", checked := Try.checked }
namespace Rows
def none {H : Type} : Left H := { results := [], args := [] }

/-- 'laws.FnExactReduceOctave': WHATEVER THE INPUT: true; the input reads as it did. -/
def fnExactReduceOctaveSpec : ChangeSpec := { name := "fnExactReduceOctave", fn := fun _ => fun
  | [d1, d2] => { results := [.lit (.bool true)], args := [d1, d2] }
  | _ => none }
def fnExactReduceOctaveRow : OpenClaim := { program := "ytpfpdhgdeaoemab", sum := "9d15fb98163f1a506450c2de17e5c310b645b36f16cb65355808cd69a5b31bc4", func := "loop.example/g00952/laws.FnExactReduceOctave", spec := "fnExactReduceOctave", apart := false }
def FnExactReduceOctaveSaid : Prop := fnExactReduceOctaveRow.holds Try.pinned (OpenSpec.ofChange fnExactReduceOctaveSpec)

/-- ITS FALSE NEIGHBOUR: 'it returns false'. Refute it at one input. -/
def fnExactReduceOctaveWrong : ChangeSpec := { name := "fnExactReduceOctave", fn := fun _ => fun
  | [d1, d2] => { results := [.lit (.bool false)], args := [d1, d2] }
  | _ => none }
def FnExactReduceOctaveWrongFalsely : Prop := fnExactReduceOctaveRow.holds Try.pinned (OpenSpec.ofChange fnExactReduceOctaveWrong)

/-- 'laws.FnExactTemperamentNamed': WHATEVER THE INPUT: true; the input reads as it did. -/
def fnExactTemperamentNamedSpec : ChangeSpec := { name := "fnExactTemperamentNamed", fn := fun _ => fun
  | [d] => { results := [.lit (.bool true)], args := [d] }
  | _ => none }
def fnExactTemperamentNamedRow : OpenClaim := { program := "ytpfpdhgdeaoemab", sum := "9d15fb98163f1a506450c2de17e5c310b645b36f16cb65355808cd69a5b31bc4", func := "loop.example/g00952/laws.FnExactTemperamentNamed", spec := "fnExactTemperamentNamed", apart := false }
def FnExactTemperamentNamedSaid : Prop := fnExactTemperamentNamedRow.holds Try.pinned (OpenSpec.ofChange fnExactTemperamentNamedSpec)

/-- ITS FALSE NEIGHBOUR: 'it returns false'. Refute it at one input. -/
def fnExactTemperamentNamedWrong : ChangeSpec := { name := "fnExactTemperamentNamed", fn := fun _ => fun
  | [d] => { results := [.lit (.bool false)], args := [d] }
  | _ => none }
def FnExactTemperamentNamedWrongFalsely : Prop := fnExactTemperamentNamedRow.holds Try.pinned (OpenSpec.ofChange fnExactTemperamentNamedWrong)

/-- 'laws.FnExactValidTemperament': WHATEVER THE INPUT: true; the input reads as it did. -/
def fnExactValidTemperamentSpec : ChangeSpec := { name := "fnExactValidTemperament", fn := fun _ => fun
  | [d] => { results := [.lit (.bool true)], args := [d] }
  | _ => none }
def fnExactValidTemperamentRow : OpenClaim := { program := "ytpfpdhgdeaoemab", sum := "9d15fb98163f1a506450c2de17e5c310b645b36f16cb65355808cd69a5b31bc4", func := "loop.example/g00952/laws.FnExactValidTemperament", spec := "fnExactValidTemperament", apart := false }
def FnExactValidTemperamentSaid : Prop := fnExactValidTemperamentRow.holds Try.pinned (OpenSpec.ofChange fnExactValidTemperamentSpec)

/-- ITS FALSE NEIGHBOUR: 'it returns false'. Refute it at one input. -/
def fnExactValidTemperamentWrong : ChangeSpec := { name := "fnExactValidTemperament", fn := fun _ => fun
  | [d] => { results := [.lit (.bool false)], args := [d] }
  | _ => none }
def FnExactValidTemperamentWrongFalsely : Prop := fnExactValidTemperamentRow.holds Try.pinned (OpenSpec.ofChange fnExactValidTemperamentWrong)

/-- 'laws.FnExactSameTemperament': WHATEVER THE INPUT: true; the input reads as it did. -/
def fnExactSameTemperamentSpec : ChangeSpec := { name := "fnExactSameTemperament", fn := fun _ => fun
  | [d1, d2] => { results := [.lit (.bool true)], args := [d1, d2] }
  | _ => none }
def fnExactSameTemperamentRow : OpenClaim := { program := "ytpfpdhgdeaoemab", sum := "9d15fb98163f1a506450c2de17e5c310b645b36f16cb65355808cd69a5b31bc4", func := "loop.example/g00952/laws.FnExactSameTemperament", spec := "fnExactSameTemperament", apart := false }
def FnExactSameTemperamentSaid : Prop := fnExactSameTemperamentRow.holds Try.pinned (OpenSpec.ofChange fnExactSameTemperamentSpec)

/-- ITS FALSE NEIGHBOUR: 'it returns false'. Refute it at one input. -/
def fnExactSameTemperamentWrong : ChangeSpec := { name := "fnExactSameTemperament", fn := fun _ => fun
  | [d1, d2] => { results := [.lit (.bool false)], args := [d1, d2] }
  | _ => none }
def FnExactSameTemperamentWrongFalsely : Prop := fnExactSameTemperamentRow.holds Try.pinned (OpenSpec.ofChange fnExactSameTemperamentWrong)

/-- 'laws.FnExactNoteInterval': WHATEVER THE INPUT: true; the input reads as it did. -/
def fnExactNoteIntervalSpec : ChangeSpec := { name := "fnExactNoteInterval", fn := fun _ => fun
  | [d1, d2, d3] => { results := [.lit (.bool true)], args := [d1, d2, d3] }
  | _ => none }
def fnExactNoteIntervalRow : OpenClaim := { program := "ytpfpdhgdeaoemab", sum := "9d15fb98163f1a506450c2de17e5c310b645b36f16cb65355808cd69a5b31bc4", func := "loop.example/g00952/laws.FnExactNoteInterval", spec := "fnExactNoteInterval", apart := false }
def FnExactNoteIntervalSaid : Prop := fnExactNoteIntervalRow.holds Try.pinned (OpenSpec.ofChange fnExactNoteIntervalSpec)

/-- ITS FALSE NEIGHBOUR: 'it returns false'. Refute it at one input. -/
def fnExactNoteIntervalWrong : ChangeSpec := { name := "fnExactNoteInterval", fn := fun _ => fun
  | [d1, d2, d3] => { results := [.lit (.bool false)], args := [d1, d2, d3] }
  | _ => none }
def FnExactNoteIntervalWrongFalsely : Prop := fnExactNoteIntervalRow.holds Try.pinned (OpenSpec.ofChange fnExactNoteIntervalWrong)

/- THE SECOND FORM. 'bulk': how many values and letters a reading holds, each counted each time it is reached (what is shared counts as often as it is met; a slice's spare places count too). A statement '..UptoSaid' is the law's where the arguments, and the package variables that the reading takes, are together of bulk at most 1048576: NARROWER than '..Said'. Prove '..Said' where nothing that the law and all that it calls make is longer than what came in: it says more and counts as full. Else prove '..UptoSaid'. A law counts once. -/
mutual
def uptoBulk {H : Type} : DataW H → Nat
  | .lit (.string bytes) => bytes.length + 1
  | .lit _ => 1
  | .nil => 1
  | .ptr d => uptoBulk d + 1
  | .slice elems spare => uptoBulkAll elems + uptoBulkAll spare + 1
  | .agg parts => uptoBulkAll parts + 1
  | .iface _ d => uptoBulk d + 1
  | .map entries => uptoBulkEntries entries + 1
  | .held _ => 1
def uptoBulkAll {H : Type} : List (DataW H) → Nat
  | [] => 0
  | d :: r => uptoBulk d + uptoBulkAll r
def uptoBulkEntries {H : Type} : List (Lit × DataW H) → Nat
  | [] => 0
  | x :: r => uptoBulkEntry x + uptoBulkEntries r
def uptoBulkEntry {H : Type} : Lit × DataW H → Nat
  | (.string bytes, d) => bytes.length + uptoBulk d + 1
  | (_, d) => uptoBulk d + 1
 end
def uptoSmall : (H : Type) → List (DataW H) → Bool := fun _ ds => decide (uptoBulkAll ds ≤ 1048576)
def OpenSpec.upto (s : _root_.Go.ChangeSpec) : _root_.Go.OpenSpec := { _root_.Go.OpenSpec.ofChange s with cond := some uptoSmall }

/-- 'laws.FnExactReduceOctave', WHERE WHAT IT READS IS OF BULK AT MOST 1048576: true; the input reads as it did. -/
def fnExactReduceOctaveUptoRow : OpenClaim := { program := "ytpfpdhgdeaoemab", sum := "9d15fb98163f1a506450c2de17e5c310b645b36f16cb65355808cd69a5b31bc4", func := "loop.example/g00952/laws.FnExactReduceOctave", spec := "fnExactReduceOctave", apart := false, narrowed := true }
def FnExactReduceOctaveUptoSaid : Prop := fnExactReduceOctaveUptoRow.holds Try.pinned (OpenSpec.upto fnExactReduceOctaveSpec)

/-- 'laws.FnExactTemperamentNamed', WHERE WHAT IT READS IS OF BULK AT MOST 1048576: true; the input reads as it did. -/
def fnExactTemperamentNamedUptoRow : OpenClaim := { program := "ytpfpdhgdeaoemab", sum := "9d15fb98163f1a506450c2de17e5c310b645b36f16cb65355808cd69a5b31bc4", func := "loop.example/g00952/laws.FnExactTemperamentNamed", spec := "fnExactTemperamentNamed", apart := false, narrowed := true }
def FnExactTemperamentNamedUptoSaid : Prop := fnExactTemperamentNamedUptoRow.holds Try.pinned (OpenSpec.upto fnExactTemperamentNamedSpec)

/-- 'laws.FnExactValidTemperament', WHERE WHAT IT READS IS OF BULK AT MOST 1048576: true; the input reads as it did. -/
def fnExactValidTemperamentUptoRow : OpenClaim := { program := "ytpfpdhgdeaoemab", sum := "9d15fb98163f1a506450c2de17e5c310b645b36f16cb65355808cd69a5b31bc4", func := "loop.example/g00952/laws.FnExactValidTemperament", spec := "fnExactValidTemperament", apart := false, narrowed := true }
def FnExactValidTemperamentUptoSaid : Prop := fnExactValidTemperamentUptoRow.holds Try.pinned (OpenSpec.upto fnExactValidTemperamentSpec)

/-- 'laws.FnExactSameTemperament', WHERE WHAT IT READS IS OF BULK AT MOST 1048576: true; the input reads as it did. -/
def fnExactSameTemperamentUptoRow : OpenClaim := { program := "ytpfpdhgdeaoemab", sum := "9d15fb98163f1a506450c2de17e5c310b645b36f16cb65355808cd69a5b31bc4", func := "loop.example/g00952/laws.FnExactSameTemperament", spec := "fnExactSameTemperament", apart := false, narrowed := true }
def FnExactSameTemperamentUptoSaid : Prop := fnExactSameTemperamentUptoRow.holds Try.pinned (OpenSpec.upto fnExactSameTemperamentSpec)

/-- 'laws.FnExactNoteInterval', WHERE WHAT IT READS IS OF BULK AT MOST 1048576: true; the input reads as it did. -/
def fnExactNoteIntervalUptoRow : OpenClaim := { program := "ytpfpdhgdeaoemab", sum := "9d15fb98163f1a506450c2de17e5c310b645b36f16cb65355808cd69a5b31bc4", func := "loop.example/g00952/laws.FnExactNoteInterval", spec := "fnExactNoteInterval", apart := false, narrowed := true }
def FnExactNoteIntervalUptoSaid : Prop := fnExactNoteIntervalUptoRow.holds Try.pinned (OpenSpec.upto fnExactNoteIntervalSpec)

end Rows
end Go.Proofs.Ytpfpdhgdeaoemab
