/-
  NARROWER THAN 'FOR EVERY INPUT', by the rows' own cells (each row's printed sentence says how): FnExactHertzText: laid · FnExactReadHertz: laid · FnExactCentsText: laid · FnExactReadCents: laid · FnExactTemperamentNames: laid · FnExactNoteName: laid · FnExactNoteNamed: laid.
  DERIVED. THE GIVEN ROWS OF THIS SEAT. 7 by the template 'for every input the law returns true; each argument reads behind the call as it read before'; 0 by the template 'total and deterministic' (their statements: YtpfpdhgdeaoemabDoorTotals.lean).
  GIVEN WITH THE SEED: the statements are not yours to turn. If you find one false, say at which input.
  Laid BY PROGRAM, IN A SANDBOX (cutbox-rows.mjs): the forced cells as the released guide's own fill.sh prints them over the translation c2b0e223f4235bb8… (all of the seat's roots in one cut). By AI agents, Wed Nov 11 2026. No macro, syntax, notation, axiom, sorry.
-/
import Derived.Test.YtpfpdhgdeaoemabDoorChecked
import GoSem.PinnedTables
import GoSem.Claim
import GoSem.ClaimJoined
import GoSem.ClaimMapViews
import Derived.JoinedTies
import Derived.KernelRfl
namespace Go.Proofs.YtpfpdhgdeaoemabDoor
/- THE CELL 'sum', in the pinned program and in every row, IS THE sha256 OF THE DUMP (.gsa) THAT YtpfpdhgdeaoemabDoorProg.lean LOADS. Nothing in Lean hashes anything: it is a label: what it is worth is what the hold of that sum in a sandbox is worth. -/
noncomputable def Tryd.pinned : Pinned := { name := "ytpfpdhgdeaoemabdoor", sum := "c2b0e223f4235bb8d764fff9190fb26b444f8f658c72763779ca14172679ad23", checked := Tryd.checked }
namespace Rows
def none {H : Type} : Left H := { results := [], args := [] }

/- WHAT THE LISTED PACKAGE-LEVEL VARIABLES READ AS WHEN THE CALL BEGINS. Each datum BY PROGRAM (the guide's laid-datum.mjs) off the statement by which the dump's own 'gosem.cut.vars' lays the variable. In a bare row this is a premise. The card (YtpfpdhgdeaoemabDoorCards.lean) ties it to the program's text. -/
def laid_math_bits_deBruijn32tab {H : Type} : DataW H := .agg [.lit (.int .u8 0), .lit (.int .u8 1), .lit (.int .u8 28), .lit (.int .u8 2), .lit (.int .u8 29), .lit (.int .u8 14), .lit (.int .u8 24), .lit (.int .u8 3), .lit (.int .u8 30), .lit (.int .u8 22), .lit (.int .u8 20), .lit (.int .u8 15), .lit (.int .u8 25), .lit (.int .u8 17), .lit (.int .u8 4), .lit (.int .u8 8), .lit (.int .u8 31), .lit (.int .u8 27), .lit (.int .u8 13), .lit (.int .u8 23), .lit (.int .u8 21), .lit (.int .u8 19), .lit (.int .u8 16), .lit (.int .u8 7), .lit (.int .u8 26), .lit (.int .u8 12), .lit (.int .u8 18), .lit (.int .u8 6), .lit (.int .u8 11), .lit (.int .u8 5), .lit (.int .u8 10), .lit (.int .u8 9)]
def laid_math_bits_deBruijn64tab {H : Type} : DataW H := .agg [.lit (.int .u8 0), .lit (.int .u8 1), .lit (.int .u8 56), .lit (.int .u8 2), .lit (.int .u8 57), .lit (.int .u8 49), .lit (.int .u8 28), .lit (.int .u8 3), .lit (.int .u8 61), .lit (.int .u8 58), .lit (.int .u8 42), .lit (.int .u8 50), .lit (.int .u8 38), .lit (.int .u8 29), .lit (.int .u8 17), .lit (.int .u8 4), .lit (.int .u8 62), .lit (.int .u8 47), .lit (.int .u8 59), .lit (.int .u8 36), .lit (.int .u8 45), .lit (.int .u8 43), .lit (.int .u8 51), .lit (.int .u8 22), .lit (.int .u8 53), .lit (.int .u8 39), .lit (.int .u8 33), .lit (.int .u8 30), .lit (.int .u8 24), .lit (.int .u8 18), .lit (.int .u8 12), .lit (.int .u8 5), .lit (.int .u8 63), .lit (.int .u8 55), .lit (.int .u8 48), .lit (.int .u8 27), .lit (.int .u8 60), .lit (.int .u8 41), .lit (.int .u8 37), .lit (.int .u8 16), .lit (.int .u8 46), .lit (.int .u8 35), .lit (.int .u8 44), .lit (.int .u8 21), .lit (.int .u8 52), .lit (.int .u8 32), .lit (.int .u8 23), .lit (.int .u8 11), .lit (.int .u8 54), .lit (.int .u8 26), .lit (.int .u8 40), .lit (.int .u8 15), .lit (.int .u8 34), .lit (.int .u8 20), .lit (.int .u8 31), .lit (.int .u8 10), .lit (.int .u8 25), .lit (.int .u8 14), .lit (.int .u8 19), .lit (.int .u8 9), .lit (.int .u8 13), .lit (.int .u8 8), .lit (.int .u8 7), .lit (.int .u8 6)]
def laid_internal_strconv_uint64pow10 {H : Type} : DataW H := .agg [.lit (.int .u64 1), .lit (.int .u64 10), .lit (.int .u64 100), .lit (.int .u64 1000), .lit (.int .u64 10000), .lit (.int .u64 100000), .lit (.int .u64 1000000), .lit (.int .u64 10000000), .lit (.int .u64 100000000), .lit (.int .u64 1000000000), .lit (.int .u64 10000000000), .lit (.int .u64 100000000000), .lit (.int .u64 1000000000000), .lit (.int .u64 10000000000000), .lit (.int .u64 100000000000000), .lit (.int .u64 1000000000000000), .lit (.int .u64 10000000000000000), .lit (.int .u64 100000000000000000), .lit (.int .u64 1000000000000000000), .lit (.int .u64 10000000000000000000)]
def laid_unicode_utf8_acceptRanges {H : Type} : DataW H := .agg [.agg [.lit (.int .u8 128), .lit (.int .u8 191)], .agg [.lit (.int .u8 160), .lit (.int .u8 191)], .agg [.lit (.int .u8 128), .lit (.int .u8 159)], .agg [.lit (.int .u8 144), .lit (.int .u8 191)], .agg [.lit (.int .u8 128), .lit (.int .u8 143)], .agg [.lit (.int .u8 0), .lit (.int .u8 0)], .agg [.lit (.int .u8 0), .lit (.int .u8 0)], .agg [.lit (.int .u8 0), .lit (.int .u8 0)], .agg [.lit (.int .u8 0), .lit (.int .u8 0)], .agg [.lit (.int .u8 0), .lit (.int .u8 0)], .agg [.lit (.int .u8 0), .lit (.int .u8 0)], .agg [.lit (.int .u8 0), .lit (.int .u8 0)], .agg [.lit (.int .u8 0), .lit (.int .u8 0)], .agg [.lit (.int .u8 0), .lit (.int .u8 0)], .agg [.lit (.int .u8 0), .lit (.int .u8 0)], .agg [.lit (.int .u8 0), .lit (.int .u8 0)]]
def laid_strconv_ErrRange {H : Type} : DataW H := .iface "*errors.errorString" (.ptr (.agg [.lit (.string [118, 97, 108, 117, 101, 32, 111, 117, 116, 32, 111, 102, 32, 114, 97, 110, 103, 101])]))
def laid_strconv_ErrSyntax {H : Type} : DataW H := .iface "*errors.errorString" (.ptr (.agg [.lit (.string [105, 110, 118, 97, 108, 105, 100, 32, 115, 121, 110, 116, 97, 120])]))
/-- One of Go's own tables, pinned by name: the form's constant. -/
def laid_unicode_utf8_first : DataW Unit := Go.Pinned.utf8First
def laid_loop_example_g00952_impl_temperamentNames {H : Type} : DataW H := .agg [.lit (.string [101, 113, 117, 97, 108]), .lit (.string [106, 117, 115, 116]), .lit (.string [109, 101, 97, 110, 116, 111, 110, 101]), .lit (.string [112, 121, 116, 104, 97, 103, 111, 114, 97, 115])]
def laid_loop_example_g00952_impl_noteNames {H : Type} : DataW H := .agg [.lit (.string [99]), .lit (.string [99, 115]), .lit (.string [100]), .lit (.string [100, 115]), .lit (.string [101]), .lit (.string [102]), .lit (.string [102, 115]), .lit (.string [103]), .lit (.string [103, 115]), .lit (.string [97]), .lit (.string [97, 115]), .lit (.string [98])]

/-- 'laws.FnExactHertzText': WHATEVER THE INPUT: true; the input reads as it did. -/
def fnExactHertzTextSpec : ChangeSpec := { name := "fnExactHertzText", fn := fun _ => fun
  | [d] => { results := [.lit (.bool true)], args := [d] }
  | _ => none }
def fnExactHertzTextRow : OpenClaim := { program := "ytpfpdhgdeaoemabdoor", sum := "c2b0e223f4235bb8d764fff9190fb26b444f8f658c72763779ca14172679ad23", func := "loop.example/g00952/laws.FnExactHertzText", spec := "fnExactHertzText", inPlace := ["internal/abi.NoEscape", "internal/bytealg.MakeNoZero"], named := ["internal/strconv.uint64pow10", "math/bits.deBruijn32tab", "math/bits.deBruijn64tab"], apart := false, laid := [("math/bits.deBruijn32tab", laid_math_bits_deBruijn32tab), ("math/bits.deBruijn64tab", laid_math_bits_deBruijn64tab), ("internal/strconv.uint64pow10", laid_internal_strconv_uint64pow10)] }
def FnExactHertzTextSaid : Prop := fnExactHertzTextRow.holds Tryd.pinned (OpenSpec.ofChange fnExactHertzTextSpec)

/-- ITS FALSE NEIGHBOUR: 'it returns false'. Refute it at one input. -/
def fnExactHertzTextWrong : ChangeSpec := { name := "fnExactHertzText", fn := fun _ => fun
  | [d] => { results := [.lit (.bool false)], args := [d] }
  | _ => none }
def FnExactHertzTextWrongFalsely : Prop := fnExactHertzTextRow.holds Tryd.pinned (OpenSpec.ofChange fnExactHertzTextWrong)

/-- 'laws.FnExactReadHertz': WHATEVER THE INPUT: true; the input reads as it did. -/
def fnExactReadHertzSpec : ChangeSpec := { name := "fnExactReadHertz", fn := fun _ => fun
  | [d] => { results := [.lit (.bool true)], args := [d] }
  | _ => none }
def fnExactReadHertzRow : OpenClaim := { program := "ytpfpdhgdeaoemabdoor", sum := "c2b0e223f4235bb8d764fff9190fb26b444f8f658c72763779ca14172679ad23", func := "loop.example/g00952/laws.FnExactReadHertz", spec := "fnExactReadHertz", inPlace := ["internal/bytealg.CountString", "internal/bytealg.IndexByteString", "internal/bytealg.IndexString", "internal/abi.NoEscape", "internal/bytealg.MakeNoZero"], unfollowed := true, recurses := true, named := ["internal/bytealg.MaxLen", "unicode/utf8.first", "unicode/utf8.acceptRanges", "strconv.ErrSyntax", "strconv.ErrRange", "internal/strconv.uint64pow10", "math/bits.deBruijn32tab", "math/bits.deBruijn64tab"], apart := false, laid := [("math/bits.deBruijn32tab", laid_math_bits_deBruijn32tab), ("math/bits.deBruijn64tab", laid_math_bits_deBruijn64tab), ("internal/strconv.uint64pow10", laid_internal_strconv_uint64pow10), ("unicode/utf8.acceptRanges", laid_unicode_utf8_acceptRanges), ("strconv.ErrRange", laid_strconv_ErrRange), ("strconv.ErrSyntax", laid_strconv_ErrSyntax), ("unicode/utf8.first", laid_unicode_utf8_first)] }
def FnExactReadHertzSaid : Prop := fnExactReadHertzRow.holds Tryd.pinned (OpenSpec.ofChange fnExactReadHertzSpec)

/-- ITS FALSE NEIGHBOUR: 'it returns false'. Refute it at one input. -/
def fnExactReadHertzWrong : ChangeSpec := { name := "fnExactReadHertz", fn := fun _ => fun
  | [d] => { results := [.lit (.bool false)], args := [d] }
  | _ => none }
def FnExactReadHertzWrongFalsely : Prop := fnExactReadHertzRow.holds Tryd.pinned (OpenSpec.ofChange fnExactReadHertzWrong)

/-- 'laws.FnExactCentsText': WHATEVER THE INPUT: true; the input reads as it did. -/
def fnExactCentsTextSpec : ChangeSpec := { name := "fnExactCentsText", fn := fun _ => fun
  | [d] => { results := [.lit (.bool true)], args := [d] }
  | _ => none }
def fnExactCentsTextRow : OpenClaim := { program := "ytpfpdhgdeaoemabdoor", sum := "c2b0e223f4235bb8d764fff9190fb26b444f8f658c72763779ca14172679ad23", func := "loop.example/g00952/laws.FnExactCentsText", spec := "fnExactCentsText", inPlace := ["internal/abi.NoEscape", "internal/bytealg.MakeNoZero"], named := ["internal/strconv.uint64pow10", "math/bits.deBruijn32tab", "math/bits.deBruijn64tab"], apart := false, laid := [("math/bits.deBruijn32tab", laid_math_bits_deBruijn32tab), ("math/bits.deBruijn64tab", laid_math_bits_deBruijn64tab), ("internal/strconv.uint64pow10", laid_internal_strconv_uint64pow10)] }
def FnExactCentsTextSaid : Prop := fnExactCentsTextRow.holds Tryd.pinned (OpenSpec.ofChange fnExactCentsTextSpec)

/-- ITS FALSE NEIGHBOUR: 'it returns false'. Refute it at one input. -/
def fnExactCentsTextWrong : ChangeSpec := { name := "fnExactCentsText", fn := fun _ => fun
  | [d] => { results := [.lit (.bool false)], args := [d] }
  | _ => none }
def FnExactCentsTextWrongFalsely : Prop := fnExactCentsTextRow.holds Tryd.pinned (OpenSpec.ofChange fnExactCentsTextWrong)

/-- 'laws.FnExactReadCents': WHATEVER THE INPUT: true; the input reads as it did. -/
def fnExactReadCentsSpec : ChangeSpec := { name := "fnExactReadCents", fn := fun _ => fun
  | [d] => { results := [.lit (.bool true)], args := [d] }
  | _ => none }
def fnExactReadCentsRow : OpenClaim := { program := "ytpfpdhgdeaoemabdoor", sum := "c2b0e223f4235bb8d764fff9190fb26b444f8f658c72763779ca14172679ad23", func := "loop.example/g00952/laws.FnExactReadCents", spec := "fnExactReadCents", inPlace := ["internal/bytealg.CountString", "internal/bytealg.IndexByteString", "internal/bytealg.IndexString", "internal/abi.NoEscape", "internal/bytealg.MakeNoZero"], unfollowed := true, recurses := true, named := ["internal/bytealg.MaxLen", "unicode/utf8.first", "unicode/utf8.acceptRanges", "strconv.ErrSyntax", "strconv.ErrRange", "internal/strconv.uint64pow10", "math/bits.deBruijn32tab", "math/bits.deBruijn64tab"], apart := false, laid := [("math/bits.deBruijn32tab", laid_math_bits_deBruijn32tab), ("math/bits.deBruijn64tab", laid_math_bits_deBruijn64tab), ("internal/strconv.uint64pow10", laid_internal_strconv_uint64pow10), ("unicode/utf8.acceptRanges", laid_unicode_utf8_acceptRanges), ("strconv.ErrRange", laid_strconv_ErrRange), ("strconv.ErrSyntax", laid_strconv_ErrSyntax), ("unicode/utf8.first", laid_unicode_utf8_first)] }
def FnExactReadCentsSaid : Prop := fnExactReadCentsRow.holds Tryd.pinned (OpenSpec.ofChange fnExactReadCentsSpec)

/-- ITS FALSE NEIGHBOUR: 'it returns false'. Refute it at one input. -/
def fnExactReadCentsWrong : ChangeSpec := { name := "fnExactReadCents", fn := fun _ => fun
  | [d] => { results := [.lit (.bool false)], args := [d] }
  | _ => none }
def FnExactReadCentsWrongFalsely : Prop := fnExactReadCentsRow.holds Tryd.pinned (OpenSpec.ofChange fnExactReadCentsWrong)

/-- 'laws.FnExactTemperamentNames': WHATEVER THE INPUT: true; the input reads as it did. -/
def fnExactTemperamentNamesSpec : ChangeSpec := { name := "fnExactTemperamentNames", vars := ["loop.example/g00952/impl.temperamentNames"], fn := fun _ => fun
  | [g1] => { results := [.lit (.bool true)], args := [], vars := [g1] }
  | _ => none }
def fnExactTemperamentNamesRow : OpenClaim := { program := "ytpfpdhgdeaoemabdoor", sum := "c2b0e223f4235bb8d764fff9190fb26b444f8f658c72763779ca14172679ad23", func := "loop.example/g00952/laws.FnExactTemperamentNames", spec := "fnExactTemperamentNames", named := ["loop.example/g00952/impl.temperamentNames"], apart := false, laid := [("loop.example/g00952/impl.temperamentNames", laid_loop_example_g00952_impl_temperamentNames)] }
def FnExactTemperamentNamesSaid : Prop := fnExactTemperamentNamesRow.holds Tryd.pinned (OpenSpec.ofChange fnExactTemperamentNamesSpec)

/-- ITS FALSE NEIGHBOUR: 'it returns false'. Refute it at one input. -/
def fnExactTemperamentNamesWrong : ChangeSpec := { name := "fnExactTemperamentNames", vars := ["loop.example/g00952/impl.temperamentNames"], fn := fun _ => fun
  | [g1] => { results := [.lit (.bool false)], args := [], vars := [g1] }
  | _ => none }
def FnExactTemperamentNamesWrongFalsely : Prop := fnExactTemperamentNamesRow.holds Tryd.pinned (OpenSpec.ofChange fnExactTemperamentNamesWrong)

/-- 'laws.FnExactNoteName': WHATEVER THE INPUT: true; the input reads as it did. -/
def fnExactNoteNameSpec : ChangeSpec := { name := "fnExactNoteName", vars := ["loop.example/g00952/impl.noteNames"], fn := fun _ => fun
  | [d, g1] => { results := [.lit (.bool true)], args := [d], vars := [g1] }
  | _ => none }
def fnExactNoteNameRow : OpenClaim := { program := "ytpfpdhgdeaoemabdoor", sum := "c2b0e223f4235bb8d764fff9190fb26b444f8f658c72763779ca14172679ad23", func := "loop.example/g00952/laws.FnExactNoteName", spec := "fnExactNoteName", named := ["loop.example/g00952/impl.noteNames", "internal/strconv.uint64pow10", "math/bits.deBruijn32tab", "math/bits.deBruijn64tab"], apart := false, laid := [("math/bits.deBruijn32tab", laid_math_bits_deBruijn32tab), ("math/bits.deBruijn64tab", laid_math_bits_deBruijn64tab), ("internal/strconv.uint64pow10", laid_internal_strconv_uint64pow10), ("loop.example/g00952/impl.noteNames", laid_loop_example_g00952_impl_noteNames)] }
def FnExactNoteNameSaid : Prop := fnExactNoteNameRow.holds Tryd.pinned (OpenSpec.ofChange fnExactNoteNameSpec)

/-- ITS FALSE NEIGHBOUR: 'it returns false'. Refute it at one input. -/
def fnExactNoteNameWrong : ChangeSpec := { name := "fnExactNoteName", vars := ["loop.example/g00952/impl.noteNames"], fn := fun _ => fun
  | [d, g1] => { results := [.lit (.bool false)], args := [d], vars := [g1] }
  | _ => none }
def FnExactNoteNameWrongFalsely : Prop := fnExactNoteNameRow.holds Tryd.pinned (OpenSpec.ofChange fnExactNoteNameWrong)

/-- 'laws.FnExactNoteNamed': WHATEVER THE INPUT: true; the input reads as it did. -/
def fnExactNoteNamedSpec : ChangeSpec := { name := "fnExactNoteNamed", vars := ["loop.example/g00952/impl.noteNames"], fn := fun _ => fun
  | [d, g1] => { results := [.lit (.bool true)], args := [d], vars := [g1] }
  | _ => none }
def fnExactNoteNamedRow : OpenClaim := { program := "ytpfpdhgdeaoemabdoor", sum := "c2b0e223f4235bb8d764fff9190fb26b444f8f658c72763779ca14172679ad23", func := "loop.example/g00952/laws.FnExactNoteNamed", spec := "fnExactNoteNamed", named := ["loop.example/g00952/impl.noteNames", "internal/strconv.uint64pow10", "math/bits.deBruijn32tab", "math/bits.deBruijn64tab"], apart := false, laid := [("math/bits.deBruijn32tab", laid_math_bits_deBruijn32tab), ("math/bits.deBruijn64tab", laid_math_bits_deBruijn64tab), ("internal/strconv.uint64pow10", laid_internal_strconv_uint64pow10), ("loop.example/g00952/impl.noteNames", laid_loop_example_g00952_impl_noteNames)] }
def FnExactNoteNamedSaid : Prop := fnExactNoteNamedRow.holds Tryd.pinned (OpenSpec.ofChange fnExactNoteNamedSpec)

/-- ITS FALSE NEIGHBOUR: 'it returns false'. Refute it at one input. -/
def fnExactNoteNamedWrong : ChangeSpec := { name := "fnExactNoteNamed", vars := ["loop.example/g00952/impl.noteNames"], fn := fun _ => fun
  | [d, g1] => { results := [.lit (.bool false)], args := [d], vars := [g1] }
  | _ => none }
def FnExactNoteNamedWrongFalsely : Prop := fnExactNoteNamedRow.holds Tryd.pinned (OpenSpec.ofChange fnExactNoteNamedWrong)

/- THE SECOND FORM. 'bulk': how many values and letters a reading holds, each counted each time it is reached (what is shared counts as often as it is met; a slice's spare places count too). A statement '..UptoSaid' is the law's where the arguments, and the package variables that the reading takes, are together of bulk at most 1048576: NARROWER than '..Said'. Prove '..Said' where nothing that the law and all that it calls make is longer than what came in: it says more and counts as full. Else prove '..UptoSaid'. A law counts once. -/
mutual
def uptoBulk {H : Type} : DataW H → Nat
  | .lit (.string bytes) => bytes.length + 1
  | .lit _ => 1
  | .nil => 1
  | .ptr d => uptoBulk d + 1
  | .slice elems spare => uptoBulkAll elems + uptoBulkAll spare + 1
  | .agg parts => uptoBulkAll parts + 1
  | .iface _ d => uptoBulk d + 1
  | .map entries => uptoBulkEntries entries + 1
  | .held _ => 1
def uptoBulkAll {H : Type} : List (DataW H) → Nat
  | [] => 0
  | d :: r => uptoBulk d + uptoBulkAll r
def uptoBulkEntries {H : Type} : List (Lit × DataW H) → Nat
  | [] => 0
  | x :: r => uptoBulkEntry x + uptoBulkEntries r
def uptoBulkEntry {H : Type} : Lit × DataW H → Nat
  | (.string bytes, d) => bytes.length + uptoBulk d + 1
  | (_, d) => uptoBulk d + 1
 end
def uptoSmall : (H : Type) → List (DataW H) → Bool := fun _ ds => decide (uptoBulkAll ds ≤ 1048576)
def OpenSpec.upto (s : _root_.Go.ChangeSpec) : _root_.Go.OpenSpec := { _root_.Go.OpenSpec.ofChange s with cond := some uptoSmall }

/-- 'laws.FnExactHertzText', WHERE WHAT IT READS IS OF BULK AT MOST 1048576: true; the input reads as it did. -/
def fnExactHertzTextUptoRow : OpenClaim := { program := "ytpfpdhgdeaoemabdoor", sum := "c2b0e223f4235bb8d764fff9190fb26b444f8f658c72763779ca14172679ad23", func := "loop.example/g00952/laws.FnExactHertzText", spec := "fnExactHertzText", inPlace := ["internal/abi.NoEscape", "internal/bytealg.MakeNoZero"], named := ["internal/strconv.uint64pow10", "math/bits.deBruijn32tab", "math/bits.deBruijn64tab"], apart := false, laid := [("math/bits.deBruijn32tab", laid_math_bits_deBruijn32tab), ("math/bits.deBruijn64tab", laid_math_bits_deBruijn64tab), ("internal/strconv.uint64pow10", laid_internal_strconv_uint64pow10)], narrowed := true }
def FnExactHertzTextUptoSaid : Prop := fnExactHertzTextUptoRow.holds Tryd.pinned (OpenSpec.upto fnExactHertzTextSpec)

/-- 'laws.FnExactReadHertz', WHERE WHAT IT READS IS OF BULK AT MOST 1048576: true; the input reads as it did. -/
def fnExactReadHertzUptoRow : OpenClaim := { program := "ytpfpdhgdeaoemabdoor", sum := "c2b0e223f4235bb8d764fff9190fb26b444f8f658c72763779ca14172679ad23", func := "loop.example/g00952/laws.FnExactReadHertz", spec := "fnExactReadHertz", inPlace := ["internal/bytealg.CountString", "internal/bytealg.IndexByteString", "internal/bytealg.IndexString", "internal/abi.NoEscape", "internal/bytealg.MakeNoZero"], unfollowed := true, recurses := true, named := ["internal/bytealg.MaxLen", "unicode/utf8.first", "unicode/utf8.acceptRanges", "strconv.ErrSyntax", "strconv.ErrRange", "internal/strconv.uint64pow10", "math/bits.deBruijn32tab", "math/bits.deBruijn64tab"], apart := false, laid := [("math/bits.deBruijn32tab", laid_math_bits_deBruijn32tab), ("math/bits.deBruijn64tab", laid_math_bits_deBruijn64tab), ("internal/strconv.uint64pow10", laid_internal_strconv_uint64pow10), ("unicode/utf8.acceptRanges", laid_unicode_utf8_acceptRanges), ("strconv.ErrRange", laid_strconv_ErrRange), ("strconv.ErrSyntax", laid_strconv_ErrSyntax), ("unicode/utf8.first", laid_unicode_utf8_first)], narrowed := true }
def FnExactReadHertzUptoSaid : Prop := fnExactReadHertzUptoRow.holds Tryd.pinned (OpenSpec.upto fnExactReadHertzSpec)

/-- 'laws.FnExactCentsText', WHERE WHAT IT READS IS OF BULK AT MOST 1048576: true; the input reads as it did. -/
def fnExactCentsTextUptoRow : OpenClaim := { program := "ytpfpdhgdeaoemabdoor", sum := "c2b0e223f4235bb8d764fff9190fb26b444f8f658c72763779ca14172679ad23", func := "loop.example/g00952/laws.FnExactCentsText", spec := "fnExactCentsText", inPlace := ["internal/abi.NoEscape", "internal/bytealg.MakeNoZero"], named := ["internal/strconv.uint64pow10", "math/bits.deBruijn32tab", "math/bits.deBruijn64tab"], apart := false, laid := [("math/bits.deBruijn32tab", laid_math_bits_deBruijn32tab), ("math/bits.deBruijn64tab", laid_math_bits_deBruijn64tab), ("internal/strconv.uint64pow10", laid_internal_strconv_uint64pow10)], narrowed := true }
def FnExactCentsTextUptoSaid : Prop := fnExactCentsTextUptoRow.holds Tryd.pinned (OpenSpec.upto fnExactCentsTextSpec)

/-- 'laws.FnExactReadCents', WHERE WHAT IT READS IS OF BULK AT MOST 1048576: true; the input reads as it did. -/
def fnExactReadCentsUptoRow : OpenClaim := { program := "ytpfpdhgdeaoemabdoor", sum := "c2b0e223f4235bb8d764fff9190fb26b444f8f658c72763779ca14172679ad23", func := "loop.example/g00952/laws.FnExactReadCents", spec := "fnExactReadCents", inPlace := ["internal/bytealg.CountString", "internal/bytealg.IndexByteString", "internal/bytealg.IndexString", "internal/abi.NoEscape", "internal/bytealg.MakeNoZero"], unfollowed := true, recurses := true, named := ["internal/bytealg.MaxLen", "unicode/utf8.first", "unicode/utf8.acceptRanges", "strconv.ErrSyntax", "strconv.ErrRange", "internal/strconv.uint64pow10", "math/bits.deBruijn32tab", "math/bits.deBruijn64tab"], apart := false, laid := [("math/bits.deBruijn32tab", laid_math_bits_deBruijn32tab), ("math/bits.deBruijn64tab", laid_math_bits_deBruijn64tab), ("internal/strconv.uint64pow10", laid_internal_strconv_uint64pow10), ("unicode/utf8.acceptRanges", laid_unicode_utf8_acceptRanges), ("strconv.ErrRange", laid_strconv_ErrRange), ("strconv.ErrSyntax", laid_strconv_ErrSyntax), ("unicode/utf8.first", laid_unicode_utf8_first)], narrowed := true }
def FnExactReadCentsUptoSaid : Prop := fnExactReadCentsUptoRow.holds Tryd.pinned (OpenSpec.upto fnExactReadCentsSpec)

/-- 'laws.FnExactTemperamentNames', WHERE WHAT IT READS IS OF BULK AT MOST 1048576: true; the input reads as it did. -/
def fnExactTemperamentNamesUptoRow : OpenClaim := { program := "ytpfpdhgdeaoemabdoor", sum := "c2b0e223f4235bb8d764fff9190fb26b444f8f658c72763779ca14172679ad23", func := "loop.example/g00952/laws.FnExactTemperamentNames", spec := "fnExactTemperamentNames", named := ["loop.example/g00952/impl.temperamentNames"], apart := false, laid := [("loop.example/g00952/impl.temperamentNames", laid_loop_example_g00952_impl_temperamentNames)], narrowed := true }
def FnExactTemperamentNamesUptoSaid : Prop := fnExactTemperamentNamesUptoRow.holds Tryd.pinned (OpenSpec.upto fnExactTemperamentNamesSpec)

/-- 'laws.FnExactNoteName', WHERE WHAT IT READS IS OF BULK AT MOST 1048576: true; the input reads as it did. -/
def fnExactNoteNameUptoRow : OpenClaim := { program := "ytpfpdhgdeaoemabdoor", sum := "c2b0e223f4235bb8d764fff9190fb26b444f8f658c72763779ca14172679ad23", func := "loop.example/g00952/laws.FnExactNoteName", spec := "fnExactNoteName", named := ["loop.example/g00952/impl.noteNames", "internal/strconv.uint64pow10", "math/bits.deBruijn32tab", "math/bits.deBruijn64tab"], apart := false, laid := [("math/bits.deBruijn32tab", laid_math_bits_deBruijn32tab), ("math/bits.deBruijn64tab", laid_math_bits_deBruijn64tab), ("internal/strconv.uint64pow10", laid_internal_strconv_uint64pow10), ("loop.example/g00952/impl.noteNames", laid_loop_example_g00952_impl_noteNames)], narrowed := true }
def FnExactNoteNameUptoSaid : Prop := fnExactNoteNameUptoRow.holds Tryd.pinned (OpenSpec.upto fnExactNoteNameSpec)

/-- 'laws.FnExactNoteNamed', WHERE WHAT IT READS IS OF BULK AT MOST 1048576: true; the input reads as it did. -/
def fnExactNoteNamedUptoRow : OpenClaim := { program := "ytpfpdhgdeaoemabdoor", sum := "c2b0e223f4235bb8d764fff9190fb26b444f8f658c72763779ca14172679ad23", func := "loop.example/g00952/laws.FnExactNoteNamed", spec := "fnExactNoteNamed", named := ["loop.example/g00952/impl.noteNames", "internal/strconv.uint64pow10", "math/bits.deBruijn32tab", "math/bits.deBruijn64tab"], apart := false, laid := [("math/bits.deBruijn32tab", laid_math_bits_deBruijn32tab), ("math/bits.deBruijn64tab", laid_math_bits_deBruijn64tab), ("internal/strconv.uint64pow10", laid_internal_strconv_uint64pow10), ("loop.example/g00952/impl.noteNames", laid_loop_example_g00952_impl_noteNames)], narrowed := true }
def FnExactNoteNamedUptoSaid : Prop := fnExactNoteNamedUptoRow.holds Tryd.pinned (OpenSpec.upto fnExactNoteNamedSpec)

end Rows
end Go.Proofs.YtpfpdhgdeaoemabDoor
