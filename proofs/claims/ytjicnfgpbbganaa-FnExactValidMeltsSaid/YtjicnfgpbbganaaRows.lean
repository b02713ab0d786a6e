/-
  No cell of these rows narrows 'for every input' (looked for: loops, veiled, ifaces, maps, wideKeys, modest, calm, conditions, laid).
  DERIVED. THE GIVEN ROWS OF THIS SEAT. 4 by the template 'for every input the law returns true; each argument reads behind the call as it read before'; 0 by the template 'total and deterministic' (their statements: YtjicnfgpbbganaaTotals.lean).
  GIVEN WITH THE SEED: the statements are not yours to turn. If you find one false, say at which input.
  Laid BY PROGRAM, IN A SANDBOX (cutbox-rows.mjs): the forced cells as the released guide's own fill.sh prints them over the translation 4346bd3c8165e14b… (all of the seat's roots in one cut). By AI agents, Wed Nov 11 2026. No macro, syntax, notation, axiom, sorry.
-/
import Derived.Test.YtjicnfgpbbganaaChecked
import GoSem.Claim
import GoSem.ClaimJoined
import GoSem.ClaimMapViews
import Derived.JoinedTies
import Derived.KernelRfl
namespace Go.Proofs.Ytjicnfgpbbganaa
/- THE CELL 'sum', in the pinned program and in every row, IS THE sha256 OF THE DUMP (.gsa) THAT YtjicnfgpbbganaaProg.lean LOADS. Nothing in Lean hashes anything: it is a label: what it is worth is what the hold of that sum in a sandbox is worth. -/
noncomputable def Try.pinned : Pinned := { name := "ytjicnfgpbbganaa", sum := "4346bd3c8165e14b92c70b533c47b66985a378ff1a185b09e12fdce614a4dde0", checked := Try.checked }
namespace Rows
def none {H : Type} : Left H := { results := [], args := [] }

/-- 'laws.FnExactValidMelt': WHATEVER THE INPUT: true; the input reads as it did. -/
def fnExactValidMeltSpec : ChangeSpec := { name := "fnExactValidMelt", fn := fun _ => fun
  | [d] => { results := [.lit (.bool true)], args := [d] }
  | _ => none }
def fnExactValidMeltRow : OpenClaim := { program := "ytjicnfgpbbganaa", sum := "4346bd3c8165e14b92c70b533c47b66985a378ff1a185b09e12fdce614a4dde0", func := "loop.example/g00952/laws.FnExactValidMelt", spec := "fnExactValidMelt", apart := false }
def FnExactValidMeltSaid : Prop := fnExactValidMeltRow.holds Try.pinned (OpenSpec.ofChange fnExactValidMeltSpec)

/-- ITS FALSE NEIGHBOUR: 'it returns false'. Refute it at one input. -/
def fnExactValidMeltWrong : ChangeSpec := { name := "fnExactValidMelt", fn := fun _ => fun
  | [d] => { results := [.lit (.bool false)], args := [d] }
  | _ => none }
def FnExactValidMeltWrongFalsely : Prop := fnExactValidMeltRow.holds Try.pinned (OpenSpec.ofChange fnExactValidMeltWrong)

/-- 'laws.FnExactValidMelts': WHATEVER THE INPUT: true; the input reads as it did. -/
def fnExactValidMeltsSpec : ChangeSpec := { name := "fnExactValidMelts", fn := fun _ => fun
  | [d] => { results := [.lit (.bool true)], args := [d] }
  | _ => none }
def fnExactValidMeltsRow : OpenClaim := { program := "ytjicnfgpbbganaa", sum := "4346bd3c8165e14b92c70b533c47b66985a378ff1a185b09e12fdce614a4dde0", func := "loop.example/g00952/laws.FnExactValidMelts", spec := "fnExactValidMelts", unfollowed := true, recurses := true, apart := false }
def FnExactValidMeltsSaid : Prop := fnExactValidMeltsRow.holds Try.pinned (OpenSpec.ofChange fnExactValidMeltsSpec)

/-- ITS FALSE NEIGHBOUR: 'it returns false'. Refute it at one input. -/
def fnExactValidMeltsWrong : ChangeSpec := { name := "fnExactValidMelts", fn := fun _ => fun
  | [d] => { results := [.lit (.bool false)], args := [d] }
  | _ => none }
def FnExactValidMeltsWrongFalsely : Prop := fnExactValidMeltsRow.holds Try.pinned (OpenSpec.ofChange fnExactValidMeltsWrong)

/-- 'laws.FnExactSameMelts': WHATEVER THE INPUT: true; the input reads as it did. -/
def fnExactSameMeltsSpec : ChangeSpec := { name := "fnExactSameMelts", fn := fun _ => fun
  | [d1, d2] => { results := [.lit (.bool true)], args := [d1, d2] }
  | _ => none }
def fnExactSameMeltsRow : OpenClaim := { program := "ytjicnfgpbbganaa", sum := "4346bd3c8165e14b92c70b533c47b66985a378ff1a185b09e12fdce614a4dde0", func := "loop.example/g00952/laws.FnExactSameMelts", spec := "fnExactSameMelts", unfollowed := true, recurses := true, apart := false }
def FnExactSameMeltsSaid : Prop := fnExactSameMeltsRow.holds Try.pinned (OpenSpec.ofChange fnExactSameMeltsSpec)

/-- ITS FALSE NEIGHBOUR: 'it returns false'. Refute it at one input. -/
def fnExactSameMeltsWrong : ChangeSpec := { name := "fnExactSameMelts", fn := fun _ => fun
  | [d1, d2] => { results := [.lit (.bool false)], args := [d1, d2] }
  | _ => none }
def FnExactSameMeltsWrongFalsely : Prop := fnExactSameMeltsRow.holds Try.pinned (OpenSpec.ofChange fnExactSameMeltsWrong)

/-- 'laws.FnExactDropMelt': WHATEVER THE INPUT: true; the input reads as it did. -/
def fnExactDropMeltSpec : ChangeSpec := { name := "fnExactDropMelt", fn := fun _ => fun
  | [d1, d2] => { results := [.lit (.bool true)], args := [d1, d2] }
  | _ => none }
def fnExactDropMeltRow : OpenClaim := { program := "ytjicnfgpbbganaa", sum := "4346bd3c8165e14b92c70b533c47b66985a378ff1a185b09e12fdce614a4dde0", func := "loop.example/g00952/laws.FnExactDropMelt", spec := "fnExactDropMelt", inPlace := ["internal/bytealg.abigen_runtime_cmpstring"], unfollowed := true, recurses := true, apart := false }
def FnExactDropMeltSaid : Prop := fnExactDropMeltRow.holds Try.pinned (OpenSpec.ofChange fnExactDropMeltSpec)

/-- ITS FALSE NEIGHBOUR: 'it returns false'. Refute it at one input. -/
def fnExactDropMeltWrong : ChangeSpec := { name := "fnExactDropMelt", fn := fun _ => fun
  | [d1, d2] => { results := [.lit (.bool false)], args := [d1, d2] }
  | _ => none }
def FnExactDropMeltWrongFalsely : Prop := fnExactDropMeltRow.holds Try.pinned (OpenSpec.ofChange fnExactDropMeltWrong)

/- THE SECOND FORM. 'bulk': how many values and letters a reading holds, each counted each time it is reached (what is shared counts as often as it is met; a slice's spare places count too). A statement '..UptoSaid' is the law's where the arguments, and the package variables that the reading takes, are together of bulk at most 1048576: NARROWER than '..Said'. Prove '..Said' where nothing that the law and all that it calls make is longer than what came in: it says more and counts as full. Else prove '..UptoSaid'. A law counts once. -/
mutual
def uptoBulk {H : Type} : DataW H → Nat
  | .lit (.string bytes) => bytes.length + 1
  | .lit _ => 1
  | .nil => 1
  | .ptr d => uptoBulk d + 1
  | .slice elems spare => uptoBulkAll elems + uptoBulkAll spare + 1
  | .agg parts => uptoBulkAll parts + 1
  | .iface _ d => uptoBulk d + 1
  | .map entries => uptoBulkEntries entries + 1
  | .held _ => 1
def uptoBulkAll {H : Type} : List (DataW H) → Nat
  | [] => 0
  | d :: r => uptoBulk d + uptoBulkAll r
def uptoBulkEntries {H : Type} : List (Lit × DataW H) → Nat
  | [] => 0
  | x :: r => uptoBulkEntry x + uptoBulkEntries r
def uptoBulkEntry {H : Type} : Lit × DataW H → Nat
  | (.string bytes, d) => bytes.length + uptoBulk d + 1
  | (_, d) => uptoBulk d + 1
 end
def uptoSmall : (H : Type) → List (DataW H) → Bool := fun _ ds => decide (uptoBulkAll ds ≤ 1048576)
def OpenSpec.upto (s : _root_.Go.ChangeSpec) : _root_.Go.OpenSpec := { _root_.Go.OpenSpec.ofChange s with cond := some uptoSmall }

/-- 'laws.FnExactValidMelt', WHERE WHAT IT READS IS OF BULK AT MOST 1048576: true; the input reads as it did. -/
def fnExactValidMeltUptoRow : OpenClaim := { program := "ytjicnfgpbbganaa", sum := "4346bd3c8165e14b92c70b533c47b66985a378ff1a185b09e12fdce614a4dde0", func := "loop.example/g00952/laws.FnExactValidMelt", spec := "fnExactValidMelt", apart := false, narrowed := true }
def FnExactValidMeltUptoSaid : Prop := fnExactValidMeltUptoRow.holds Try.pinned (OpenSpec.upto fnExactValidMeltSpec)

/-- 'laws.FnExactValidMelts', WHERE WHAT IT READS IS OF BULK AT MOST 1048576: true; the input reads as it did. -/
def fnExactValidMeltsUptoRow : OpenClaim := { program := "ytjicnfgpbbganaa", sum := "4346bd3c8165e14b92c70b533c47b66985a378ff1a185b09e12fdce614a4dde0", func := "loop.example/g00952/laws.FnExactValidMelts", spec := "fnExactValidMelts", unfollowed := true, recurses := true, apart := false, narrowed := true }
def FnExactValidMeltsUptoSaid : Prop := fnExactValidMeltsUptoRow.holds Try.pinned (OpenSpec.upto fnExactValidMeltsSpec)

/-- 'laws.FnExactSameMelts', WHERE WHAT IT READS IS OF BULK AT MOST 1048576: true; the input reads as it did. -/
def fnExactSameMeltsUptoRow : OpenClaim := { program := "ytjicnfgpbbganaa", sum := "4346bd3c8165e14b92c70b533c47b66985a378ff1a185b09e12fdce614a4dde0", func := "loop.example/g00952/laws.FnExactSameMelts", spec := "fnExactSameMelts", unfollowed := true, recurses := true, apart := false, narrowed := true }
def FnExactSameMeltsUptoSaid : Prop := fnExactSameMeltsUptoRow.holds Try.pinned (OpenSpec.upto fnExactSameMeltsSpec)

/-- 'laws.FnExactDropMelt', WHERE WHAT IT READS IS OF BULK AT MOST 1048576: true; the input reads as it did. -/
def fnExactDropMeltUptoRow : OpenClaim := { program := "ytjicnfgpbbganaa", sum := "4346bd3c8165e14b92c70b533c47b66985a378ff1a185b09e12fdce614a4dde0", func := "loop.example/g00952/laws.FnExactDropMelt", spec := "fnExactDropMelt", inPlace := ["internal/bytealg.abigen_runtime_cmpstring"], unfollowed := true, recurses := true, apart := false, narrowed := true }
def FnExactDropMeltUptoSaid : Prop := fnExactDropMeltUptoRow.holds Try.pinned (OpenSpec.upto fnExactDropMeltSpec)

end Rows
end Go.Proofs.Ytjicnfgpbbganaa
