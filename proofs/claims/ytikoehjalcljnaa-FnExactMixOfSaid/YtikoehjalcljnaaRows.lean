/-
  No cell of these rows narrows 'for every input' (looked for: loops, veiled, ifaces, maps, wideKeys, modest, calm, conditions, laid).
  DERIVED. THE GIVEN ROWS OF THIS SEAT. 8 by the template 'for every input the law returns true; each argument reads behind the call as it read before'; 0 by the template 'total and deterministic' (their statements: YtikoehjalcljnaaTotals.lean).
  GIVEN WITH THE SEED: the statements are not yours to turn. If you find one false, say at which input.
  Laid BY PROGRAM, IN A SANDBOX (cutbox-rows.mjs): the forced cells as the released guide's own fill.sh prints them over the translation aa4e4bc81ecbb568… (all of the seat's roots in one cut). By AI agents, Wed Nov 11 2026. No macro, syntax, notation, axiom, sorry.
-/
import Derived.Test.YtikoehjalcljnaaChecked
import GoSem.Claim
import GoSem.ClaimJoined
import GoSem.ClaimMapViews
import Derived.JoinedTies
import Derived.KernelRfl
namespace Go.Proofs.Ytikoehjalcljnaa
/- THE CELL 'sum', in the pinned program and in every row, IS THE sha256 OF THE DUMP (.gsa) THAT YtikoehjalcljnaaProg.lean LOADS. Nothing in Lean hashes anything: it is a label: what it is worth is what the hold of that sum in a sandbox is worth. -/
noncomputable def Try.pinned : Pinned := { name := "ytikoehjalcljnaa", sum := "aa4e4bc81ecbb568633cfc7343569684ab8e90a70e9893a7dcbcbb242ea6d25f", checked := Try.checked }
namespace Rows
def none {H : Type} : Left H := { results := [], args := [] }

/-- 'laws.FnExactAddSpot': WHATEVER THE INPUT: true; the input reads as it did. -/
def fnExactAddSpotSpec : ChangeSpec := { name := "fnExactAddSpot", fn := fun _ => fun
  | [d1, d2] => { results := [.lit (.bool true)], args := [d1, d2] }
  | _ => none }
def fnExactAddSpotRow : OpenClaim := { program := "ytikoehjalcljnaa", sum := "aa4e4bc81ecbb568633cfc7343569684ab8e90a70e9893a7dcbcbb242ea6d25f", func := "loop.example/g00952/laws.FnExactAddSpot", spec := "fnExactAddSpot", inPlace := ["slices.overlaps[loop.example/g00952/impl.Spot]"], unfollowed := true, recurses := true, apart := false }
def FnExactAddSpotSaid : Prop := fnExactAddSpotRow.holds Try.pinned (OpenSpec.ofChange fnExactAddSpotSpec)

/-- ITS FALSE NEIGHBOUR: 'it returns false'. Refute it at one input. -/
def fnExactAddSpotWrong : ChangeSpec := { name := "fnExactAddSpot", fn := fun _ => fun
  | [d1, d2] => { results := [.lit (.bool false)], args := [d1, d2] }
  | _ => none }
def FnExactAddSpotWrongFalsely : Prop := fnExactAddSpotRow.holds Try.pinned (OpenSpec.ofChange fnExactAddSpotWrong)

/-- 'laws.FnExactValidAlloy': WHATEVER THE INPUT: true; the input reads as it did. -/
def fnExactValidAlloySpec : ChangeSpec := { name := "fnExactValidAlloy", fn := fun _ => fun
  | [d] => { results := [.lit (.bool true)], args := [d] }
  | _ => none }
def fnExactValidAlloyRow : OpenClaim := { program := "ytikoehjalcljnaa", sum := "aa4e4bc81ecbb568633cfc7343569684ab8e90a70e9893a7dcbcbb242ea6d25f", func := "loop.example/g00952/laws.FnExactValidAlloy", spec := "fnExactValidAlloy", apart := false }
def FnExactValidAlloySaid : Prop := fnExactValidAlloyRow.holds Try.pinned (OpenSpec.ofChange fnExactValidAlloySpec)

/-- ITS FALSE NEIGHBOUR: 'it returns false'. Refute it at one input. -/
def fnExactValidAlloyWrong : ChangeSpec := { name := "fnExactValidAlloy", fn := fun _ => fun
  | [d] => { results := [.lit (.bool false)], args := [d] }
  | _ => none }
def FnExactValidAlloyWrongFalsely : Prop := fnExactValidAlloyRow.holds Try.pinned (OpenSpec.ofChange fnExactValidAlloyWrong)

/-- 'laws.FnExactValidIngots': WHATEVER THE INPUT: true; the input reads as it did. -/
def fnExactValidIngotsSpec : ChangeSpec := { name := "fnExactValidIngots", fn := fun _ => fun
  | [d] => { results := [.lit (.bool true)], args := [d] }
  | _ => none }
def fnExactValidIngotsRow : OpenClaim := { program := "ytikoehjalcljnaa", sum := "aa4e4bc81ecbb568633cfc7343569684ab8e90a70e9893a7dcbcbb242ea6d25f", func := "loop.example/g00952/laws.FnExactValidIngots", spec := "fnExactValidIngots", apart := false }
def FnExactValidIngotsSaid : Prop := fnExactValidIngotsRow.holds Try.pinned (OpenSpec.ofChange fnExactValidIngotsSpec)

/-- ITS FALSE NEIGHBOUR: 'it returns false'. Refute it at one input. -/
def fnExactValidIngotsWrong : ChangeSpec := { name := "fnExactValidIngots", fn := fun _ => fun
  | [d] => { results := [.lit (.bool false)], args := [d] }
  | _ => none }
def FnExactValidIngotsWrongFalsely : Prop := fnExactValidIngotsRow.holds Try.pinned (OpenSpec.ofChange fnExactValidIngotsWrong)

/-- 'laws.FnExactValidDemand': WHATEVER THE INPUT: true; the input reads as it did. -/
def fnExactValidDemandSpec : ChangeSpec := { name := "fnExactValidDemand", fn := fun _ => fun
  | [d] => { results := [.lit (.bool true)], args := [d] }
  | _ => none }
def fnExactValidDemandRow : OpenClaim := { program := "ytikoehjalcljnaa", sum := "aa4e4bc81ecbb568633cfc7343569684ab8e90a70e9893a7dcbcbb242ea6d25f", func := "loop.example/g00952/laws.FnExactValidDemand", spec := "fnExactValidDemand", apart := false }
def FnExactValidDemandSaid : Prop := fnExactValidDemandRow.holds Try.pinned (OpenSpec.ofChange fnExactValidDemandSpec)

/-- ITS FALSE NEIGHBOUR: 'it returns false'. Refute it at one input. -/
def fnExactValidDemandWrong : ChangeSpec := { name := "fnExactValidDemand", fn := fun _ => fun
  | [d] => { results := [.lit (.bool false)], args := [d] }
  | _ => none }
def FnExactValidDemandWrongFalsely : Prop := fnExactValidDemandRow.holds Try.pinned (OpenSpec.ofChange fnExactValidDemandWrong)

/-- 'laws.FnExactTinOf': WHATEVER THE INPUT: true; the input reads as it did. -/
def fnExactTinOfSpec : ChangeSpec := { name := "fnExactTinOf", fn := fun _ => fun
  | [d] => { results := [.lit (.bool true)], args := [d] }
  | _ => none }
def fnExactTinOfRow : OpenClaim := { program := "ytikoehjalcljnaa", sum := "aa4e4bc81ecbb568633cfc7343569684ab8e90a70e9893a7dcbcbb242ea6d25f", func := "loop.example/g00952/laws.FnExactTinOf", spec := "fnExactTinOf", apart := false }
def FnExactTinOfSaid : Prop := fnExactTinOfRow.holds Try.pinned (OpenSpec.ofChange fnExactTinOfSpec)

/-- ITS FALSE NEIGHBOUR: 'it returns false'. Refute it at one input. -/
def fnExactTinOfWrong : ChangeSpec := { name := "fnExactTinOf", fn := fun _ => fun
  | [d] => { results := [.lit (.bool false)], args := [d] }
  | _ => none }
def FnExactTinOfWrongFalsely : Prop := fnExactTinOfRow.holds Try.pinned (OpenSpec.ofChange fnExactTinOfWrong)

/-- 'laws.FnExactMixOf': WHATEVER THE INPUT: true; the input reads as it did. -/
def fnExactMixOfSpec : ChangeSpec := { name := "fnExactMixOf", fn := fun _ => fun
  | [d1, d2] => { results := [.lit (.bool true)], args := [d1, d2] }
  | _ => none }
def fnExactMixOfRow : OpenClaim := { program := "ytikoehjalcljnaa", sum := "aa4e4bc81ecbb568633cfc7343569684ab8e90a70e9893a7dcbcbb242ea6d25f", func := "loop.example/g00952/laws.FnExactMixOf", spec := "fnExactMixOf", apart := false }
def FnExactMixOfSaid : Prop := fnExactMixOfRow.holds Try.pinned (OpenSpec.ofChange fnExactMixOfSpec)

/-- ITS FALSE NEIGHBOUR: 'it returns false'. Refute it at one input. -/
def fnExactMixOfWrong : ChangeSpec := { name := "fnExactMixOf", fn := fun _ => fun
  | [d1, d2] => { results := [.lit (.bool false)], args := [d1, d2] }
  | _ => none }
def FnExactMixOfWrongFalsely : Prop := fnExactMixOfRow.holds Try.pinned (OpenSpec.ofChange fnExactMixOfWrong)

/-- 'laws.FnExactDensityOf': WHATEVER THE INPUT: true; the input reads as it did. -/
def fnExactDensityOfSpec : ChangeSpec := { name := "fnExactDensityOf", fn := fun _ => fun
  | [d] => { results := [.lit (.bool true)], args := [d] }
  | _ => none }
def fnExactDensityOfRow : OpenClaim := { program := "ytikoehjalcljnaa", sum := "aa4e4bc81ecbb568633cfc7343569684ab8e90a70e9893a7dcbcbb242ea6d25f", func := "loop.example/g00952/laws.FnExactDensityOf", spec := "fnExactDensityOf", apart := false }
def FnExactDensityOfSaid : Prop := fnExactDensityOfRow.holds Try.pinned (OpenSpec.ofChange fnExactDensityOfSpec)

/-- ITS FALSE NEIGHBOUR: 'it returns false'. Refute it at one input. -/
def fnExactDensityOfWrong : ChangeSpec := { name := "fnExactDensityOf", fn := fun _ => fun
  | [d] => { results := [.lit (.bool false)], args := [d] }
  | _ => none }
def FnExactDensityOfWrongFalsely : Prop := fnExactDensityOfRow.holds Try.pinned (OpenSpec.ofChange fnExactDensityOfWrong)

/-- 'laws.FnExactFitsDemand': WHATEVER THE INPUT: true; the input reads as it did. -/
def fnExactFitsDemandSpec : ChangeSpec := { name := "fnExactFitsDemand", fn := fun _ => fun
  | [d1, d2, d3] => { results := [.lit (.bool true)], args := [d1, d2, d3] }
  | _ => none }
def fnExactFitsDemandRow : OpenClaim := { program := "ytikoehjalcljnaa", sum := "aa4e4bc81ecbb568633cfc7343569684ab8e90a70e9893a7dcbcbb242ea6d25f", func := "loop.example/g00952/laws.FnExactFitsDemand", spec := "fnExactFitsDemand", apart := false }
def FnExactFitsDemandSaid : Prop := fnExactFitsDemandRow.holds Try.pinned (OpenSpec.ofChange fnExactFitsDemandSpec)

/-- ITS FALSE NEIGHBOUR: 'it returns false'. Refute it at one input. -/
def fnExactFitsDemandWrong : ChangeSpec := { name := "fnExactFitsDemand", fn := fun _ => fun
  | [d1, d2, d3] => { results := [.lit (.bool false)], args := [d1, d2, d3] }
  | _ => none }
def FnExactFitsDemandWrongFalsely : Prop := fnExactFitsDemandRow.holds Try.pinned (OpenSpec.ofChange fnExactFitsDemandWrong)

/- THE SECOND FORM. 'bulk': how many values and letters a reading holds, each counted each time it is reached (what is shared counts as often as it is met; a slice's spare places count too). A statement '..UptoSaid' is the law's where the arguments, and the package variables that the reading takes, are together of bulk at most 1048576: NARROWER than '..Said'. Prove '..Said' where nothing that the law and all that it calls make is longer than what came in: it says more and counts as full. Else prove '..UptoSaid'. A law counts once. -/
mutual
def uptoBulk {H : Type} : DataW H → Nat
  | .lit (.string bytes) => bytes.length + 1
  | .lit _ => 1
  | .nil => 1
  | .ptr d => uptoBulk d + 1
  | .slice elems spare => uptoBulkAll elems + uptoBulkAll spare + 1
  | .agg parts => uptoBulkAll parts + 1
  | .iface _ d => uptoBulk d + 1
  | .map entries => uptoBulkEntries entries + 1
  | .held _ => 1
def uptoBulkAll {H : Type} : List (DataW H) → Nat
  | [] => 0
  | d :: r => uptoBulk d + uptoBulkAll r
def uptoBulkEntries {H : Type} : List (Lit × DataW H) → Nat
  | [] => 0
  | x :: r => uptoBulkEntry x + uptoBulkEntries r
def uptoBulkEntry {H : Type} : Lit × DataW H → Nat
  | (.string bytes, d) => bytes.length + uptoBulk d + 1
  | (_, d) => uptoBulk d + 1
 end
def uptoSmall : (H : Type) → List (DataW H) → Bool := fun _ ds => decide (uptoBulkAll ds ≤ 1048576)
def OpenSpec.upto (s : _root_.Go.ChangeSpec) : _root_.Go.OpenSpec := { _root_.Go.OpenSpec.ofChange s with cond := some uptoSmall }

/-- 'laws.FnExactAddSpot', WHERE WHAT IT READS IS OF BULK AT MOST 1048576: true; the input reads as it did. -/
def fnExactAddSpotUptoRow : OpenClaim := { program := "ytikoehjalcljnaa", sum := "aa4e4bc81ecbb568633cfc7343569684ab8e90a70e9893a7dcbcbb242ea6d25f", func := "loop.example/g00952/laws.FnExactAddSpot", spec := "fnExactAddSpot", inPlace := ["slices.overlaps[loop.example/g00952/impl.Spot]"], unfollowed := true, recurses := true, apart := false, narrowed := true }
def FnExactAddSpotUptoSaid : Prop := fnExactAddSpotUptoRow.holds Try.pinned (OpenSpec.upto fnExactAddSpotSpec)

/-- 'laws.FnExactValidAlloy', WHERE WHAT IT READS IS OF BULK AT MOST 1048576: true; the input reads as it did. -/
def fnExactValidAlloyUptoRow : OpenClaim := { program := "ytikoehjalcljnaa", sum := "aa4e4bc81ecbb568633cfc7343569684ab8e90a70e9893a7dcbcbb242ea6d25f", func := "loop.example/g00952/laws.FnExactValidAlloy", spec := "fnExactValidAlloy", apart := false, narrowed := true }
def FnExactValidAlloyUptoSaid : Prop := fnExactValidAlloyUptoRow.holds Try.pinned (OpenSpec.upto fnExactValidAlloySpec)

/-- 'laws.FnExactValidIngots', WHERE WHAT IT READS IS OF BULK AT MOST 1048576: true; the input reads as it did. -/
def fnExactValidIngotsUptoRow : OpenClaim := { program := "ytikoehjalcljnaa", sum := "aa4e4bc81ecbb568633cfc7343569684ab8e90a70e9893a7dcbcbb242ea6d25f", func := "loop.example/g00952/laws.FnExactValidIngots", spec := "fnExactValidIngots", apart := false, narrowed := true }
def FnExactValidIngotsUptoSaid : Prop := fnExactValidIngotsUptoRow.holds Try.pinned (OpenSpec.upto fnExactValidIngotsSpec)

/-- 'laws.FnExactValidDemand', WHERE WHAT IT READS IS OF BULK AT MOST 1048576: true; the input reads as it did. -/
def fnExactValidDemandUptoRow : OpenClaim := { program := "ytikoehjalcljnaa", sum := "aa4e4bc81ecbb568633cfc7343569684ab8e90a70e9893a7dcbcbb242ea6d25f", func := "loop.example/g00952/laws.FnExactValidDemand", spec := "fnExactValidDemand", apart := false, narrowed := true }
def FnExactValidDemandUptoSaid : Prop := fnExactValidDemandUptoRow.holds Try.pinned (OpenSpec.upto fnExactValidDemandSpec)

/-- 'laws.FnExactTinOf', WHERE WHAT IT READS IS OF BULK AT MOST 1048576: true; the input reads as it did. -/
def fnExactTinOfUptoRow : OpenClaim := { program := "ytikoehjalcljnaa", sum := "aa4e4bc81ecbb568633cfc7343569684ab8e90a70e9893a7dcbcbb242ea6d25f", func := "loop.example/g00952/laws.FnExactTinOf", spec := "fnExactTinOf", apart := false, narrowed := true }
def FnExactTinOfUptoSaid : Prop := fnExactTinOfUptoRow.holds Try.pinned (OpenSpec.upto fnExactTinOfSpec)

/-- 'laws.FnExactMixOf', WHERE WHAT IT READS IS OF BULK AT MOST 1048576: true; the input reads as it did. -/
def fnExactMixOfUptoRow : OpenClaim := { program := "ytikoehjalcljnaa", sum := "aa4e4bc81ecbb568633cfc7343569684ab8e90a70e9893a7dcbcbb242ea6d25f", func := "loop.example/g00952/laws.FnExactMixOf", spec := "fnExactMixOf", apart := false, narrowed := true }
def FnExactMixOfUptoSaid : Prop := fnExactMixOfUptoRow.holds Try.pinned (OpenSpec.upto fnExactMixOfSpec)

/-- 'laws.FnExactDensityOf', WHERE WHAT IT READS IS OF BULK AT MOST 1048576: true; the input reads as it did. -/
def fnExactDensityOfUptoRow : OpenClaim := { program := "ytikoehjalcljnaa", sum := "aa4e4bc81ecbb568633cfc7343569684ab8e90a70e9893a7dcbcbb242ea6d25f", func := "loop.example/g00952/laws.FnExactDensityOf", spec := "fnExactDensityOf", apart := false, narrowed := true }
def FnExactDensityOfUptoSaid : Prop := fnExactDensityOfUptoRow.holds Try.pinned (OpenSpec.upto fnExactDensityOfSpec)

/-- 'laws.FnExactFitsDemand', WHERE WHAT IT READS IS OF BULK AT MOST 1048576: true; the input reads as it did. -/
def fnExactFitsDemandUptoRow : OpenClaim := { program := "ytikoehjalcljnaa", sum := "aa4e4bc81ecbb568633cfc7343569684ab8e90a70e9893a7dcbcbb242ea6d25f", func := "loop.example/g00952/laws.FnExactFitsDemand", spec := "fnExactFitsDemand", apart := false, narrowed := true }
def FnExactFitsDemandUptoSaid : Prop := fnExactFitsDemandUptoRow.holds Try.pinned (OpenSpec.upto fnExactFitsDemandSpec)

end Rows
end Go.Proofs.Ytikoehjalcljnaa
