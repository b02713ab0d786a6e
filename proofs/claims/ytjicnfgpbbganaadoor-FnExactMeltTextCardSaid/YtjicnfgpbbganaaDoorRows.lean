/-
  NARROWER THAN 'FOR EVERY INPUT', by the rows' own cells (each row's printed sentence says how): FnExactPossibleMelts: ifaces, laid · FnExactMetalOf: ifaces, laid · FnExactMostFrom: ifaces, laid · FnExactAlloyOfMelt: ifaces, laid · FnExactUnusedIngots: ifaces, laid · FnExactLossOf: ifaces, laid · FnExactMeltText: laid.
  DERIVED. THE GIVEN ROWS OF THIS SEAT. 7 by the template 'for every input the law returns true; each argument reads behind the call as it read before'; 0 by the template 'total and deterministic' (their statements: YtjicnfgpbbganaaDoorTotals.lean).
  GIVEN WITH THE SEED: the statements are not yours to turn. If you find one false, say at which input.
  Laid BY PROGRAM, IN A SANDBOX (cutbox-rows.mjs): the forced cells as the released guide's own fill.sh prints them over the translation 24214a14f79ed80a… (all of the seat's roots in one cut). By AI agents, Wed Nov 11 2026. No macro, syntax, notation, axiom, sorry.
-/
import Derived.Test.YtjicnfgpbbganaaDoorChecked
import GoSem.Claim
import GoSem.ClaimJoined
import GoSem.ClaimMapViews
import Derived.JoinedTies
import Derived.KernelRfl
namespace Go.Proofs.YtjicnfgpbbganaaDoor
/- THE CELL 'sum', in the pinned program and in every row, IS THE sha256 OF THE DUMP (.gsa) THAT YtjicnfgpbbganaaDoorProg.lean LOADS. Nothing in Lean hashes anything: it is a label: what it is worth is what the hold of that sum in a sandbox is worth. -/
noncomputable def Tryd.pinned : Pinned := { name := "ytjicnfgpbbganaadoor", sum := "24214a14f79ed80ab685bef5d1e107db3b061a6ba4ae6be443b8fca25514a08b", checked := Tryd.checked }
namespace Rows
def none {H : Type} : Left H := { results := [], args := [] }

/- WHAT THE LISTED PACKAGE-LEVEL VARIABLES READ AS WHEN THE CALL BEGINS. Each datum BY PROGRAM (the guide's laid-datum.mjs) off the statement by which the dump's own 'gosem.cut.vars' lays the variable. In a bare row this is a premise. The card (YtjicnfgpbbganaaDoorCards.lean) ties it to the program's text. -/
def laid_loop_example_g00952_impl_errNoIngot {H : Type} : DataW H := .iface "*errors.errorString" (.ptr (.agg [.lit (.string [97, 110, 32, 105, 110, 103, 111, 116, 32, 100, 111, 101, 115, 32, 110, 111, 116, 32, 101, 120, 105, 115, 116])]))
def laid_loop_example_g00952_impl_errTooMuch {H : Type} : DataW H := .iface "*errors.errorString" (.ptr (.agg [.lit (.string [109, 111, 114, 101, 32, 105, 115, 32, 112, 111, 117, 114, 101, 100, 32, 116, 104, 97, 110, 32, 99, 97, 110, 32, 98, 101])]))
def laid_loop_example_g00952_impl_errSameMelt {H : Type} : DataW H := .iface "*errors.errorString" (.ptr (.agg [.lit (.string [116, 104, 101, 114, 101, 32, 105, 115, 32, 97, 32, 109, 101, 108, 116, 32, 119, 105, 116, 104, 32, 116, 104, 105, 115, 32, 73, 100])]))
def laid_loop_example_g00952_impl_errUsed {H : Type} : DataW H := .iface "*errors.errorString" (.ptr (.agg [.lit (.string [97, 110, 111, 116, 104, 101, 114, 32, 109, 101, 108, 116, 32, 104, 97, 115, 32, 97, 110, 32, 105, 110, 103, 111, 116])]))
def laid_loop_example_g00952_impl_errNoPlace {H : Type} : DataW H := .iface "*errors.errorString" (.ptr (.agg [.lit (.string [116, 104, 101, 114, 101, 32, 97, 114, 101, 32, 97, 115, 32, 109, 97, 110, 121, 32, 109, 101, 108, 116, 115, 32, 97, 115, 32, 116, 104, 101, 114, 101, 32, 99, 97, 110, 32, 98, 101])]))
def laid_math_bits_deBruijn32tab {H : Type} : DataW H := .agg [.lit (.int .u8 0), .lit (.int .u8 1), .lit (.int .u8 28), .lit (.int .u8 2), .lit (.int .u8 29), .lit (.int .u8 14), .lit (.int .u8 24), .lit (.int .u8 3), .lit (.int .u8 30), .lit (.int .u8 22), .lit (.int .u8 20), .lit (.int .u8 15), .lit (.int .u8 25), .lit (.int .u8 17), .lit (.int .u8 4), .lit (.int .u8 8), .lit (.int .u8 31), .lit (.int .u8 27), .lit (.int .u8 13), .lit (.int .u8 23), .lit (.int .u8 21), .lit (.int .u8 19), .lit (.int .u8 16), .lit (.int .u8 7), .lit (.int .u8 26), .lit (.int .u8 12), .lit (.int .u8 18), .lit (.int .u8 6), .lit (.int .u8 11), .lit (.int .u8 5), .lit (.int .u8 10), .lit (.int .u8 9)]
def laid_math_bits_deBruijn64tab {H : Type} : DataW H := .agg [.lit (.int .u8 0), .lit (.int .u8 1), .lit (.int .u8 56), .lit (.int .u8 2), .lit (.int .u8 57), .lit (.int .u8 49), .lit (.int .u8 28), .lit (.int .u8 3), .lit (.int .u8 61), .lit (.int .u8 58), .lit (.int .u8 42), .lit (.int .u8 50), .lit (.int .u8 38), .lit (.int .u8 29), .lit (.int .u8 17), .lit (.int .u8 4), .lit (.int .u8 62), .lit (.int .u8 47), .lit (.int .u8 59), .lit (.int .u8 36), .lit (.int .u8 45), .lit (.int .u8 43), .lit (.int .u8 51), .lit (.int .u8 22), .lit (.int .u8 53), .lit (.int .u8 39), .lit (.int .u8 33), .lit (.int .u8 30), .lit (.int .u8 24), .lit (.int .u8 18), .lit (.int .u8 12), .lit (.int .u8 5), .lit (.int .u8 63), .lit (.int .u8 55), .lit (.int .u8 48), .lit (.int .u8 27), .lit (.int .u8 60), .lit (.int .u8 41), .lit (.int .u8 37), .lit (.int .u8 16), .lit (.int .u8 46), .lit (.int .u8 35), .lit (.int .u8 44), .lit (.int .u8 21), .lit (.int .u8 52), .lit (.int .u8 32), .lit (.int .u8 23), .lit (.int .u8 11), .lit (.int .u8 54), .lit (.int .u8 26), .lit (.int .u8 40), .lit (.int .u8 15), .lit (.int .u8 34), .lit (.int .u8 20), .lit (.int .u8 31), .lit (.int .u8 10), .lit (.int .u8 25), .lit (.int .u8 14), .lit (.int .u8 19), .lit (.int .u8 9), .lit (.int .u8 13), .lit (.int .u8 8), .lit (.int .u8 7), .lit (.int .u8 6)]
def laid_internal_strconv_uint64pow10 {H : Type} : DataW H := .agg [.lit (.int .u64 1), .lit (.int .u64 10), .lit (.int .u64 100), .lit (.int .u64 1000), .lit (.int .u64 10000), .lit (.int .u64 100000), .lit (.int .u64 1000000), .lit (.int .u64 10000000), .lit (.int .u64 100000000), .lit (.int .u64 1000000000), .lit (.int .u64 10000000000), .lit (.int .u64 100000000000), .lit (.int .u64 1000000000000), .lit (.int .u64 10000000000000), .lit (.int .u64 100000000000000), .lit (.int .u64 1000000000000000), .lit (.int .u64 10000000000000000), .lit (.int .u64 100000000000000000), .lit (.int .u64 1000000000000000000), .lit (.int .u64 10000000000000000000)]

/-- 'laws.FnExactPossibleMelts': WHATEVER THE INPUT: true; the input reads as it did. -/
def fnExactPossibleMeltsSpec : ChangeSpec := { name := "fnExactPossibleMelts", vars := ["loop.example/g00952/impl.errTooMuch", "loop.example/g00952/impl.errNoIngot"], fn := fun _ => fun
  | [d1, d2, g1, g2] => { results := [.lit (.bool true)], args := [d1, d2], vars := [g1, g2] }
  | _ => none }
def fnExactPossibleMeltsRow : OpenClaim := { program := "ytjicnfgpbbganaadoor", sum := "24214a14f79ed80ab685bef5d1e107db3b061a6ba4ae6be443b8fca25514a08b", func := "loop.example/g00952/laws.FnExactPossibleMelts", spec := "fnExactPossibleMelts", unfollowed := true, recurses := true, named := ["loop.example/g00952/impl.errTooMuch", "loop.example/g00952/impl.errNoIngot"], ifaces := true, apart := false, laid := [("loop.example/g00952/impl.errNoIngot", laid_loop_example_g00952_impl_errNoIngot), ("loop.example/g00952/impl.errTooMuch", laid_loop_example_g00952_impl_errTooMuch)] }
def FnExactPossibleMeltsSaid : Prop := fnExactPossibleMeltsRow.holds Tryd.pinned (OpenSpec.ofChange fnExactPossibleMeltsSpec)

/-- ITS FALSE NEIGHBOUR: 'it returns false'. Refute it at one input. -/
def fnExactPossibleMeltsWrong : ChangeSpec := { name := "fnExactPossibleMelts", vars := ["loop.example/g00952/impl.errTooMuch", "loop.example/g00952/impl.errNoIngot"], fn := fun _ => fun
  | [d1, d2, g1, g2] => { results := [.lit (.bool false)], args := [d1, d2], vars := [g1, g2] }
  | _ => none }
def FnExactPossibleMeltsWrongFalsely : Prop := fnExactPossibleMeltsRow.holds Tryd.pinned (OpenSpec.ofChange fnExactPossibleMeltsWrong)

/-- 'laws.FnExactMetalOf': WHATEVER THE INPUT: true; the input reads as it did. -/
def fnExactMetalOfSpec : ChangeSpec := { name := "fnExactMetalOf", vars := ["loop.example/g00952/impl.errNoIngot", "loop.example/g00952/impl.errTooMuch", "loop.example/g00952/impl.errSameMelt", "loop.example/g00952/impl.errUsed", "loop.example/g00952/impl.errNoPlace"], fn := fun _ => fun
  | [d1, d2, g1, g2, g3, g4, g5] => { results := [.lit (.bool true)], args := [d1, d2], vars := [g1, g2, g3, g4, g5] }
  | _ => none }
def fnExactMetalOfRow : OpenClaim := { program := "ytjicnfgpbbganaadoor", sum := "24214a14f79ed80ab685bef5d1e107db3b061a6ba4ae6be443b8fca25514a08b", func := "loop.example/g00952/laws.FnExactMetalOf", spec := "fnExactMetalOf", inPlace := ["internal/reflectlite.TypeOf"], unfollowed := true, recurses := true, named := ["loop.example/g00952/impl.errNoIngot", "loop.example/g00952/impl.errTooMuch", "loop.example/g00952/impl.errSameMelt", "loop.example/g00952/impl.errUsed", "loop.example/g00952/impl.errNoPlace"], ifaces := true, apart := false, laid := [("loop.example/g00952/impl.errNoIngot", laid_loop_example_g00952_impl_errNoIngot), ("loop.example/g00952/impl.errTooMuch", laid_loop_example_g00952_impl_errTooMuch), ("loop.example/g00952/impl.errSameMelt", laid_loop_example_g00952_impl_errSameMelt), ("loop.example/g00952/impl.errUsed", laid_loop_example_g00952_impl_errUsed), ("loop.example/g00952/impl.errNoPlace", laid_loop_example_g00952_impl_errNoPlace)] }
def FnExactMetalOfSaid : Prop := fnExactMetalOfRow.holds Tryd.pinned (OpenSpec.ofChange fnExactMetalOfSpec)

/-- ITS FALSE NEIGHBOUR: 'it returns false'. Refute it at one input. -/
def fnExactMetalOfWrong : ChangeSpec := { name := "fnExactMetalOf", vars := ["loop.example/g00952/impl.errNoIngot", "loop.example/g00952/impl.errTooMuch", "loop.example/g00952/impl.errSameMelt", "loop.example/g00952/impl.errUsed", "loop.example/g00952/impl.errNoPlace"], fn := fun _ => fun
  | [d1, d2, g1, g2, g3, g4, g5] => { results := [.lit (.bool false)], args := [d1, d2], vars := [g1, g2, g3, g4, g5] }
  | _ => none }
def FnExactMetalOfWrongFalsely : Prop := fnExactMetalOfRow.holds Tryd.pinned (OpenSpec.ofChange fnExactMetalOfWrong)

/-- 'laws.FnExactMostFrom': WHATEVER THE INPUT: true; the input reads as it did. -/
def fnExactMostFromSpec : ChangeSpec := { name := "fnExactMostFrom", vars := ["loop.example/g00952/impl.errNoIngot", "loop.example/g00952/impl.errTooMuch", "loop.example/g00952/impl.errSameMelt", "loop.example/g00952/impl.errUsed", "loop.example/g00952/impl.errNoPlace"], fn := fun _ => fun
  | [d1, d2, g1, g2, g3, g4, g5] => { results := [.lit (.bool true)], args := [d1, d2], vars := [g1, g2, g3, g4, g5] }
  | _ => none }
def fnExactMostFromRow : OpenClaim := { program := "ytjicnfgpbbganaadoor", sum := "24214a14f79ed80ab685bef5d1e107db3b061a6ba4ae6be443b8fca25514a08b", func := "loop.example/g00952/laws.FnExactMostFrom", spec := "fnExactMostFrom", inPlace := ["internal/reflectlite.TypeOf"], unfollowed := true, recurses := true, named := ["loop.example/g00952/impl.errNoIngot", "loop.example/g00952/impl.errTooMuch", "loop.example/g00952/impl.errSameMelt", "loop.example/g00952/impl.errUsed", "loop.example/g00952/impl.errNoPlace"], ifaces := true, apart := false, laid := [("loop.example/g00952/impl.errNoIngot", laid_loop_example_g00952_impl_errNoIngot), ("loop.example/g00952/impl.errTooMuch", laid_loop_example_g00952_impl_errTooMuch), ("loop.example/g00952/impl.errSameMelt", laid_loop_example_g00952_impl_errSameMelt), ("loop.example/g00952/impl.errUsed", laid_loop_example_g00952_impl_errUsed), ("loop.example/g00952/impl.errNoPlace", laid_loop_example_g00952_impl_errNoPlace)] }
def FnExactMostFromSaid : Prop := fnExactMostFromRow.holds Tryd.pinned (OpenSpec.ofChange fnExactMostFromSpec)

/-- ITS FALSE NEIGHBOUR: 'it returns false'. Refute it at one input. -/
def fnExactMostFromWrong : ChangeSpec := { name := "fnExactMostFrom", vars := ["loop.example/g00952/impl.errNoIngot", "loop.example/g00952/impl.errTooMuch", "loop.example/g00952/impl.errSameMelt", "loop.example/g00952/impl.errUsed", "loop.example/g00952/impl.errNoPlace"], fn := fun _ => fun
  | [d1, d2, g1, g2, g3, g4, g5] => { results := [.lit (.bool false)], args := [d1, d2], vars := [g1, g2, g3, g4, g5] }
  | _ => none }
def FnExactMostFromWrongFalsely : Prop := fnExactMostFromRow.holds Tryd.pinned (OpenSpec.ofChange fnExactMostFromWrong)

/-- 'laws.FnExactAlloyOfMelt': WHATEVER THE INPUT: true; the input reads as it did. -/
def fnExactAlloyOfMeltSpec : ChangeSpec := { name := "fnExactAlloyOfMelt", vars := ["loop.example/g00952/impl.errNoIngot", "loop.example/g00952/impl.errTooMuch", "loop.example/g00952/impl.errSameMelt", "loop.example/g00952/impl.errUsed", "loop.example/g00952/impl.errNoPlace"], fn := fun _ => fun
  | [d1, d2, g1, g2, g3, g4, g5] => { results := [.lit (.bool true)], args := [d1, d2], vars := [g1, g2, g3, g4, g5] }
  | _ => none }
def fnExactAlloyOfMeltRow : OpenClaim := { program := "ytjicnfgpbbganaadoor", sum := "24214a14f79ed80ab685bef5d1e107db3b061a6ba4ae6be443b8fca25514a08b", func := "loop.example/g00952/laws.FnExactAlloyOfMelt", spec := "fnExactAlloyOfMelt", inPlace := ["internal/reflectlite.TypeOf"], unfollowed := true, recurses := true, named := ["loop.example/g00952/impl.errNoIngot", "loop.example/g00952/impl.errTooMuch", "loop.example/g00952/impl.errSameMelt", "loop.example/g00952/impl.errUsed", "loop.example/g00952/impl.errNoPlace"], ifaces := true, apart := false, laid := [("loop.example/g00952/impl.errNoIngot", laid_loop_example_g00952_impl_errNoIngot), ("loop.example/g00952/impl.errTooMuch", laid_loop_example_g00952_impl_errTooMuch), ("loop.example/g00952/impl.errSameMelt", laid_loop_example_g00952_impl_errSameMelt), ("loop.example/g00952/impl.errUsed", laid_loop_example_g00952_impl_errUsed), ("loop.example/g00952/impl.errNoPlace", laid_loop_example_g00952_impl_errNoPlace)] }
def FnExactAlloyOfMeltSaid : Prop := fnExactAlloyOfMeltRow.holds Tryd.pinned (OpenSpec.ofChange fnExactAlloyOfMeltSpec)

/-- ITS FALSE NEIGHBOUR: 'it returns false'. Refute it at one input. -/
def fnExactAlloyOfMeltWrong : ChangeSpec := { name := "fnExactAlloyOfMelt", vars := ["loop.example/g00952/impl.errNoIngot", "loop.example/g00952/impl.errTooMuch", "loop.example/g00952/impl.errSameMelt", "loop.example/g00952/impl.errUsed", "loop.example/g00952/impl.errNoPlace"], fn := fun _ => fun
  | [d1, d2, g1, g2, g3, g4, g5] => { results := [.lit (.bool false)], args := [d1, d2], vars := [g1, g2, g3, g4, g5] }
  | _ => none }
def FnExactAlloyOfMeltWrongFalsely : Prop := fnExactAlloyOfMeltRow.holds Tryd.pinned (OpenSpec.ofChange fnExactAlloyOfMeltWrong)

/-- 'laws.FnExactUnusedIngots': WHATEVER THE INPUT: true; the input reads as it did. -/
def fnExactUnusedIngotsSpec : ChangeSpec := { name := "fnExactUnusedIngots", vars := ["loop.example/g00952/impl.errNoIngot", "loop.example/g00952/impl.errTooMuch", "loop.example/g00952/impl.errSameMelt", "loop.example/g00952/impl.errUsed", "loop.example/g00952/impl.errNoPlace"], fn := fun _ => fun
  | [d1, d2, g1, g2, g3, g4, g5] => { results := [.lit (.bool true)], args := [d1, d2], vars := [g1, g2, g3, g4, g5] }
  | _ => none }
def fnExactUnusedIngotsRow : OpenClaim := { program := "ytjicnfgpbbganaadoor", sum := "24214a14f79ed80ab685bef5d1e107db3b061a6ba4ae6be443b8fca25514a08b", func := "loop.example/g00952/laws.FnExactUnusedIngots", spec := "fnExactUnusedIngots", inPlace := ["internal/reflectlite.TypeOf"], unfollowed := true, recurses := true, named := ["loop.example/g00952/impl.errNoIngot", "loop.example/g00952/impl.errTooMuch", "loop.example/g00952/impl.errSameMelt", "loop.example/g00952/impl.errUsed", "loop.example/g00952/impl.errNoPlace"], ifaces := true, apart := false, laid := [("loop.example/g00952/impl.errNoIngot", laid_loop_example_g00952_impl_errNoIngot), ("loop.example/g00952/impl.errTooMuch", laid_loop_example_g00952_impl_errTooMuch), ("loop.example/g00952/impl.errSameMelt", laid_loop_example_g00952_impl_errSameMelt), ("loop.example/g00952/impl.errUsed", laid_loop_example_g00952_impl_errUsed), ("loop.example/g00952/impl.errNoPlace", laid_loop_example_g00952_impl_errNoPlace)] }
def FnExactUnusedIngotsSaid : Prop := fnExactUnusedIngotsRow.holds Tryd.pinned (OpenSpec.ofChange fnExactUnusedIngotsSpec)

/-- ITS FALSE NEIGHBOUR: 'it returns false'. Refute it at one input. -/
def fnExactUnusedIngotsWrong : ChangeSpec := { name := "fnExactUnusedIngots", vars := ["loop.example/g00952/impl.errNoIngot", "loop.example/g00952/impl.errTooMuch", "loop.example/g00952/impl.errSameMelt", "loop.example/g00952/impl.errUsed", "loop.example/g00952/impl.errNoPlace"], fn := fun _ => fun
  | [d1, d2, g1, g2, g3, g4, g5] => { results := [.lit (.bool false)], args := [d1, d2], vars := [g1, g2, g3, g4, g5] }
  | _ => none }
def FnExactUnusedIngotsWrongFalsely : Prop := fnExactUnusedIngotsRow.holds Tryd.pinned (OpenSpec.ofChange fnExactUnusedIngotsWrong)

/-- 'laws.FnExactLossOf': WHATEVER THE INPUT: true; the input reads as it did. -/
def fnExactLossOfSpec : ChangeSpec := { name := "fnExactLossOf", vars := ["loop.example/g00952/impl.errTooMuch", "loop.example/g00952/impl.errNoIngot", "loop.example/g00952/impl.errSameMelt", "loop.example/g00952/impl.errUsed", "loop.example/g00952/impl.errNoPlace"], fn := fun _ => fun
  | [d1, d2, g1, g2, g3, g4, g5] => { results := [.lit (.bool true)], args := [d1, d2], vars := [g1, g2, g3, g4, g5] }
  | _ => none }
def fnExactLossOfRow : OpenClaim := { program := "ytjicnfgpbbganaadoor", sum := "24214a14f79ed80ab685bef5d1e107db3b061a6ba4ae6be443b8fca25514a08b", func := "loop.example/g00952/laws.FnExactLossOf", spec := "fnExactLossOf", inPlace := ["internal/reflectlite.TypeOf"], unfollowed := true, recurses := true, named := ["loop.example/g00952/impl.errTooMuch", "loop.example/g00952/impl.errNoIngot", "loop.example/g00952/impl.errSameMelt", "loop.example/g00952/impl.errUsed", "loop.example/g00952/impl.errNoPlace"], ifaces := true, apart := false, laid := [("loop.example/g00952/impl.errNoIngot", laid_loop_example_g00952_impl_errNoIngot), ("loop.example/g00952/impl.errTooMuch", laid_loop_example_g00952_impl_errTooMuch), ("loop.example/g00952/impl.errSameMelt", laid_loop_example_g00952_impl_errSameMelt), ("loop.example/g00952/impl.errUsed", laid_loop_example_g00952_impl_errUsed), ("loop.example/g00952/impl.errNoPlace", laid_loop_example_g00952_impl_errNoPlace)] }
def FnExactLossOfSaid : Prop := fnExactLossOfRow.holds Tryd.pinned (OpenSpec.ofChange fnExactLossOfSpec)

/-- ITS FALSE NEIGHBOUR: 'it returns false'. Refute it at one input. -/
def fnExactLossOfWrong : ChangeSpec := { name := "fnExactLossOf", vars := ["loop.example/g00952/impl.errTooMuch", "loop.example/g00952/impl.errNoIngot", "loop.example/g00952/impl.errSameMelt", "loop.example/g00952/impl.errUsed", "loop.example/g00952/impl.errNoPlace"], fn := fun _ => fun
  | [d1, d2, g1, g2, g3, g4, g5] => { results := [.lit (.bool false)], args := [d1, d2], vars := [g1, g2, g3, g4, g5] }
  | _ => none }
def FnExactLossOfWrongFalsely : Prop := fnExactLossOfRow.holds Tryd.pinned (OpenSpec.ofChange fnExactLossOfWrong)

/-- 'laws.FnExactMeltText': WHATEVER THE INPUT: true; the input reads as it did. -/
def fnExactMeltTextSpec : ChangeSpec := { name := "fnExactMeltText", fn := fun _ => fun
  | [d] => { results := [.lit (.bool true)], args := [d] }
  | _ => none }
def fnExactMeltTextRow : OpenClaim := { program := "ytjicnfgpbbganaadoor", sum := "24214a14f79ed80ab685bef5d1e107db3b061a6ba4ae6be443b8fca25514a08b", func := "loop.example/g00952/laws.FnExactMeltText", spec := "fnExactMeltText", inPlace := ["internal/abi.NoEscape", "internal/bytealg.MakeNoZero"], named := ["internal/strconv.uint64pow10", "math/bits.deBruijn32tab", "math/bits.deBruijn64tab"], apart := false, laid := [("math/bits.deBruijn32tab", laid_math_bits_deBruijn32tab), ("math/bits.deBruijn64tab", laid_math_bits_deBruijn64tab), ("internal/strconv.uint64pow10", laid_internal_strconv_uint64pow10)] }
def FnExactMeltTextSaid : Prop := fnExactMeltTextRow.holds Tryd.pinned (OpenSpec.ofChange fnExactMeltTextSpec)

/-- ITS FALSE NEIGHBOUR: 'it returns false'. Refute it at one input. -/
def fnExactMeltTextWrong : ChangeSpec := { name := "fnExactMeltText", fn := fun _ => fun
  | [d] => { results := [.lit (.bool false)], args := [d] }
  | _ => none }
def FnExactMeltTextWrongFalsely : Prop := fnExactMeltTextRow.holds Tryd.pinned (OpenSpec.ofChange fnExactMeltTextWrong)

/- THE SECOND FORM. 'bulk': how many values and letters a reading holds, each counted each time it is reached (what is shared counts as often as it is met; a slice's spare places count too). A statement '..UptoSaid' is the law's where the arguments, and the package variables that the reading takes, are together of bulk at most 1048576: NARROWER than '..Said'. Prove '..Said' where nothing that the law and all that it calls make is longer than what came in: it says more and counts as full. Else prove '..UptoSaid'. A law counts once. -/
mutual
def uptoBulk {H : Type} : DataW H → Nat
  | .lit (.string bytes) => bytes.length + 1
  | .lit _ => 1
  | .nil => 1
  | .ptr d => uptoBulk d + 1
  | .slice elems spare => uptoBulkAll elems + uptoBulkAll spare + 1
  | .agg parts => uptoBulkAll parts + 1
  | .iface _ d => uptoBulk d + 1
  | .map entries => uptoBulkEntries entries + 1
  | .held _ => 1
def uptoBulkAll {H : Type} : List (DataW H) → Nat
  | [] => 0
  | d :: r => uptoBulk d + uptoBulkAll r
def uptoBulkEntries {H : Type} : List (Lit × DataW H) → Nat
  | [] => 0
  | x :: r => uptoBulkEntry x + uptoBulkEntries r
def uptoBulkEntry {H : Type} : Lit × DataW H → Nat
  | (.string bytes, d) => bytes.length + uptoBulk d + 1
  | (_, d) => uptoBulk d + 1
 end
def uptoSmall : (H : Type) → List (DataW H) → Bool := fun _ ds => decide (uptoBulkAll ds ≤ 1048576)
def OpenSpec.upto (s : _root_.Go.ChangeSpec) : _root_.Go.OpenSpec := { _root_.Go.OpenSpec.ofChange s with cond := some uptoSmall }

/-- 'laws.FnExactPossibleMelts', WHERE WHAT IT READS IS OF BULK AT MOST 1048576: true; the input reads as it did. -/
def fnExactPossibleMeltsUptoRow : OpenClaim := { program := "ytjicnfgpbbganaadoor", sum := "24214a14f79ed80ab685bef5d1e107db3b061a6ba4ae6be443b8fca25514a08b", func := "loop.example/g00952/laws.FnExactPossibleMelts", spec := "fnExactPossibleMelts", unfollowed := true, recurses := true, named := ["loop.example/g00952/impl.errTooMuch", "loop.example/g00952/impl.errNoIngot"], ifaces := true, apart := false, laid := [("loop.example/g00952/impl.errNoIngot", laid_loop_example_g00952_impl_errNoIngot), ("loop.example/g00952/impl.errTooMuch", laid_loop_example_g00952_impl_errTooMuch)], narrowed := true }
def FnExactPossibleMeltsUptoSaid : Prop := fnExactPossibleMeltsUptoRow.holds Tryd.pinned (OpenSpec.upto fnExactPossibleMeltsSpec)

/-- 'laws.FnExactMetalOf', WHERE WHAT IT READS IS OF BULK AT MOST 1048576: true; the input reads as it did. -/
def fnExactMetalOfUptoRow : OpenClaim := { program := "ytjicnfgpbbganaadoor", sum := "24214a14f79ed80ab685bef5d1e107db3b061a6ba4ae6be443b8fca25514a08b", func := "loop.example/g00952/laws.FnExactMetalOf", spec := "fnExactMetalOf", inPlace := ["internal/reflectlite.TypeOf"], unfollowed := true, recurses := true, named := ["loop.example/g00952/impl.errNoIngot", "loop.example/g00952/impl.errTooMuch", "loop.example/g00952/impl.errSameMelt", "loop.example/g00952/impl.errUsed", "loop.example/g00952/impl.errNoPlace"], ifaces := true, apart := false, laid := [("loop.example/g00952/impl.errNoIngot", laid_loop_example_g00952_impl_errNoIngot), ("loop.example/g00952/impl.errTooMuch", laid_loop_example_g00952_impl_errTooMuch), ("loop.example/g00952/impl.errSameMelt", laid_loop_example_g00952_impl_errSameMelt), ("loop.example/g00952/impl.errUsed", laid_loop_example_g00952_impl_errUsed), ("loop.example/g00952/impl.errNoPlace", laid_loop_example_g00952_impl_errNoPlace)], narrowed := true }
def FnExactMetalOfUptoSaid : Prop := fnExactMetalOfUptoRow.holds Tryd.pinned (OpenSpec.upto fnExactMetalOfSpec)

/-- 'laws.FnExactMostFrom', WHERE WHAT IT READS IS OF BULK AT MOST 1048576: true; the input reads as it did. -/
def fnExactMostFromUptoRow : OpenClaim := { program := "ytjicnfgpbbganaadoor", sum := "24214a14f79ed80ab685bef5d1e107db3b061a6ba4ae6be443b8fca25514a08b", func := "loop.example/g00952/laws.FnExactMostFrom", spec := "fnExactMostFrom", inPlace := ["internal/reflectlite.TypeOf"], unfollowed := true, recurses := true, named := ["loop.example/g00952/impl.errNoIngot", "loop.example/g00952/impl.errTooMuch", "loop.example/g00952/impl.errSameMelt", "loop.example/g00952/impl.errUsed", "loop.example/g00952/impl.errNoPlace"], ifaces := true, apart := false, laid := [("loop.example/g00952/impl.errNoIngot", laid_loop_example_g00952_impl_errNoIngot), ("loop.example/g00952/impl.errTooMuch", laid_loop_example_g00952_impl_errTooMuch), ("loop.example/g00952/impl.errSameMelt", laid_loop_example_g00952_impl_errSameMelt), ("loop.example/g00952/impl.errUsed", laid_loop_example_g00952_impl_errUsed), ("loop.example/g00952/impl.errNoPlace", laid_loop_example_g00952_impl_errNoPlace)], narrowed := true }
def FnExactMostFromUptoSaid : Prop := fnExactMostFromUptoRow.holds Tryd.pinned (OpenSpec.upto fnExactMostFromSpec)

/-- 'laws.FnExactAlloyOfMelt', WHERE WHAT IT READS IS OF BULK AT MOST 1048576: true; the input reads as it did. -/
def fnExactAlloyOfMeltUptoRow : OpenClaim := { program := "ytjicnfgpbbganaadoor", sum := "24214a14f79ed80ab685bef5d1e107db3b061a6ba4ae6be443b8fca25514a08b", func := "loop.example/g00952/laws.FnExactAlloyOfMelt", spec := "fnExactAlloyOfMelt", inPlace := ["internal/reflectlite.TypeOf"], unfollowed := true, recurses := true, named := ["loop.example/g00952/impl.errNoIngot", "loop.example/g00952/impl.errTooMuch", "loop.example/g00952/impl.errSameMelt", "loop.example/g00952/impl.errUsed", "loop.example/g00952/impl.errNoPlace"], ifaces := true, apart := false, laid := [("loop.example/g00952/impl.errNoIngot", laid_loop_example_g00952_impl_errNoIngot), ("loop.example/g00952/impl.errTooMuch", laid_loop_example_g00952_impl_errTooMuch), ("loop.example/g00952/impl.errSameMelt", laid_loop_example_g00952_impl_errSameMelt), ("loop.example/g00952/impl.errUsed", laid_loop_example_g00952_impl_errUsed), ("loop.example/g00952/impl.errNoPlace", laid_loop_example_g00952_impl_errNoPlace)], narrowed := true }
def FnExactAlloyOfMeltUptoSaid : Prop := fnExactAlloyOfMeltUptoRow.holds Tryd.pinned (OpenSpec.upto fnExactAlloyOfMeltSpec)

/-- 'laws.FnExactUnusedIngots', WHERE WHAT IT READS IS OF BULK AT MOST 1048576: true; the input reads as it did. -/
def fnExactUnusedIngotsUptoRow : OpenClaim := { program := "ytjicnfgpbbganaadoor", sum := "24214a14f79ed80ab685bef5d1e107db3b061a6ba4ae6be443b8fca25514a08b", func := "loop.example/g00952/laws.FnExactUnusedIngots", spec := "fnExactUnusedIngots", inPlace := ["internal/reflectlite.TypeOf"], unfollowed := true, recurses := true, named := ["loop.example/g00952/impl.errNoIngot", "loop.example/g00952/impl.errTooMuch", "loop.example/g00952/impl.errSameMelt", "loop.example/g00952/impl.errUsed", "loop.example/g00952/impl.errNoPlace"], ifaces := true, apart := false, laid := [("loop.example/g00952/impl.errNoIngot", laid_loop_example_g00952_impl_errNoIngot), ("loop.example/g00952/impl.errTooMuch", laid_loop_example_g00952_impl_errTooMuch), ("loop.example/g00952/impl.errSameMelt", laid_loop_example_g00952_impl_errSameMelt), ("loop.example/g00952/impl.errUsed", laid_loop_example_g00952_impl_errUsed), ("loop.example/g00952/impl.errNoPlace", laid_loop_example_g00952_impl_errNoPlace)], narrowed := true }
def FnExactUnusedIngotsUptoSaid : Prop := fnExactUnusedIngotsUptoRow.holds Tryd.pinned (OpenSpec.upto fnExactUnusedIngotsSpec)

/-- 'laws.FnExactLossOf', WHERE WHAT IT READS IS OF BULK AT MOST 1048576: true; the input reads as it did. -/
def fnExactLossOfUptoRow : OpenClaim := { program := "ytjicnfgpbbganaadoor", sum := "24214a14f79ed80ab685bef5d1e107db3b061a6ba4ae6be443b8fca25514a08b", func := "loop.example/g00952/laws.FnExactLossOf", spec := "fnExactLossOf", inPlace := ["internal/reflectlite.TypeOf"], unfollowed := true, recurses := true, named := ["loop.example/g00952/impl.errTooMuch", "loop.example/g00952/impl.errNoIngot", "loop.example/g00952/impl.errSameMelt", "loop.example/g00952/impl.errUsed", "loop.example/g00952/impl.errNoPlace"], ifaces := true, apart := false, laid := [("loop.example/g00952/impl.errNoIngot", laid_loop_example_g00952_impl_errNoIngot), ("loop.example/g00952/impl.errTooMuch", laid_loop_example_g00952_impl_errTooMuch), ("loop.example/g00952/impl.errSameMelt", laid_loop_example_g00952_impl_errSameMelt), ("loop.example/g00952/impl.errUsed", laid_loop_example_g00952_impl_errUsed), ("loop.example/g00952/impl.errNoPlace", laid_loop_example_g00952_impl_errNoPlace)], narrowed := true }
def FnExactLossOfUptoSaid : Prop := fnExactLossOfUptoRow.holds Tryd.pinned (OpenSpec.upto fnExactLossOfSpec)

/-- 'laws.FnExactMeltText', WHERE WHAT IT READS IS OF BULK AT MOST 1048576: true; the input reads as it did. -/
def fnExactMeltTextUptoRow : OpenClaim := { program := "ytjicnfgpbbganaadoor", sum := "24214a14f79ed80ab685bef5d1e107db3b061a6ba4ae6be443b8fca25514a08b", func := "loop.example/g00952/laws.FnExactMeltText", spec := "fnExactMeltText", inPlace := ["internal/abi.NoEscape", "internal/bytealg.MakeNoZero"], named := ["internal/strconv.uint64pow10", "math/bits.deBruijn32tab", "math/bits.deBruijn64tab"], apart := false, laid := [("math/bits.deBruijn32tab", laid_math_bits_deBruijn32tab), ("math/bits.deBruijn64tab", laid_math_bits_deBruijn64tab), ("internal/strconv.uint64pow10", laid_internal_strconv_uint64pow10)], narrowed := true }
def FnExactMeltTextUptoSaid : Prop := fnExactMeltTextUptoRow.holds Tryd.pinned (OpenSpec.upto fnExactMeltTextSpec)

end Rows
end Go.Proofs.YtjicnfgpbbganaaDoor
