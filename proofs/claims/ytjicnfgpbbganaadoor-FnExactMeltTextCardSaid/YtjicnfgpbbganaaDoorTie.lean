/-
  DERIVED. GIVEN WITH THE SEED: THE PROGRAM's TIES (one call each: nine closed facts by the kernel) AND EACH ROW's TIE, after the 31st guide's Derived/Test/Toyas{Tie, Card}.lean. No idea stands in it: it is a product of the set-up. Laid BY PROGRAM, IN A SANDBOX (cutbox-door.mjs). By AI agents, Wed Nov 11 2026. No macro, syntax, notation, axiom, sorry.
-/
import Derived.Test.YtjicnfgpbbganaaDoorRows
import Derived.LaidByTextLater
import Derived.SevenTiedAt
import Derived.LaidSub
import Derived.LaidOnce
namespace Go.Proofs.YtjicnfgpbbganaaDoor
open Go
set_option maxRecDepth 100000
theorem seatTie1 : Tryd.prog.laidByTextLater [("math/bits.deBruijn32tab", Rows.laid_math_bits_deBruijn32tab), ("math/bits.deBruijn64tab", Rows.laid_math_bits_deBruijn64tab), ("internal/strconv.uint64pow10", Rows.laid_internal_strconv_uint64pow10), ("loop.example/g00952/impl.errNoIngot", Rows.laid_loop_example_g00952_impl_errNoIngot), ("loop.example/g00952/impl.errTooMuch", Rows.laid_loop_example_g00952_impl_errTooMuch), ("loop.example/g00952/impl.errSameMelt", Rows.laid_loop_example_g00952_impl_errSameMelt), ("loop.example/g00952/impl.errUsed", Rows.laid_loop_example_g00952_impl_errUsed), ("loop.example/g00952/impl.errNoPlace", Rows.laid_loop_example_g00952_impl_errNoPlace)] [.data, .data, .data, .sentinel, .sentinel, .sentinel, .sentinel, .sentinel] true :=
  Program.laidByTextLater_by_one 119 8 65 (by kernel_rfl) (by kernel_rfl) (by kernel_rfl) (by kernel_rfl) (by kernel_rfl) (by kernel_rfl) (fun _ _ => by kernel_rfl)
theorem noOwnUnsafe : Tryd.pinned.checked.prog.headLifts.contains "ownunsafe" = false := by kernel_rfl
theorem tie : Tryd.prog.laidByTextLater [("loop.example/g00952/impl.errNoIngot", Rows.laid_loop_example_g00952_impl_errNoIngot), ("loop.example/g00952/impl.errTooMuch", Rows.laid_loop_example_g00952_impl_errTooMuch)] [.sentinel, .sentinel] true :=
  Program.laidByTextLater.sub seatTie1 ["loop.example/g00952/impl.errNoIngot", "loop.example/g00952/impl.errTooMuch"] (by kernel_rfl) (by kernel_rfl)
theorem fnExactPossibleMelts_row_tie : Rows.fnExactPossibleMeltsRow.laidByTextAt .later Tryd.pinned [.sentinel, .sentinel] true :=
  OpenClaim.laidByTextAt_later rfl rfl tie noOwnUnsafe
theorem tie2 : Tryd.prog.laidByTextLater [("loop.example/g00952/impl.errNoIngot", Rows.laid_loop_example_g00952_impl_errNoIngot), ("loop.example/g00952/impl.errTooMuch", Rows.laid_loop_example_g00952_impl_errTooMuch), ("loop.example/g00952/impl.errSameMelt", Rows.laid_loop_example_g00952_impl_errSameMelt), ("loop.example/g00952/impl.errUsed", Rows.laid_loop_example_g00952_impl_errUsed), ("loop.example/g00952/impl.errNoPlace", Rows.laid_loop_example_g00952_impl_errNoPlace)] [.sentinel, .sentinel, .sentinel, .sentinel, .sentinel] true :=
  Program.laidByTextLater.sub seatTie1 ["loop.example/g00952/impl.errNoIngot", "loop.example/g00952/impl.errTooMuch", "loop.example/g00952/impl.errSameMelt", "loop.example/g00952/impl.errUsed", "loop.example/g00952/impl.errNoPlace"] (by kernel_rfl) (by kernel_rfl)
theorem fnExactMetalOf_row_tie : Rows.fnExactMetalOfRow.laidByTextAt .later Tryd.pinned [.sentinel, .sentinel, .sentinel, .sentinel, .sentinel] true :=
  OpenClaim.laidByTextAt_later rfl rfl tie2 noOwnUnsafe
theorem fnExactMostFrom_row_tie : Rows.fnExactMostFromRow.laidByTextAt .later Tryd.pinned [.sentinel, .sentinel, .sentinel, .sentinel, .sentinel] true :=
  OpenClaim.laidByTextAt_later rfl rfl tie2 noOwnUnsafe
theorem fnExactAlloyOfMelt_row_tie : Rows.fnExactAlloyOfMeltRow.laidByTextAt .later Tryd.pinned [.sentinel, .sentinel, .sentinel, .sentinel, .sentinel] true :=
  OpenClaim.laidByTextAt_later rfl rfl tie2 noOwnUnsafe
theorem fnExactUnusedIngots_row_tie : Rows.fnExactUnusedIngotsRow.laidByTextAt .later Tryd.pinned [.sentinel, .sentinel, .sentinel, .sentinel, .sentinel] true :=
  OpenClaim.laidByTextAt_later rfl rfl tie2 noOwnUnsafe
theorem fnExactLossOf_row_tie : Rows.fnExactLossOfRow.laidByTextAt .later Tryd.pinned [.sentinel, .sentinel, .sentinel, .sentinel, .sentinel] true :=
  OpenClaim.laidByTextAt_later rfl rfl tie2 noOwnUnsafe
theorem tie3 : Tryd.prog.laidByTextLater [("math/bits.deBruijn32tab", Rows.laid_math_bits_deBruijn32tab), ("math/bits.deBruijn64tab", Rows.laid_math_bits_deBruijn64tab), ("internal/strconv.uint64pow10", Rows.laid_internal_strconv_uint64pow10)] [.data, .data, .data] true :=
  Program.laidByTextLater.sub seatTie1 ["math/bits.deBruijn32tab", "math/bits.deBruijn64tab", "internal/strconv.uint64pow10"] (by kernel_rfl) (by kernel_rfl)
theorem fnExactMeltText_row_tie : Rows.fnExactMeltTextRow.laidByTextAt .later Tryd.pinned [.data, .data, .data] true :=
  OpenClaim.laidByTextAt_later rfl rfl tie3 noOwnUnsafe
theorem fnExactPossibleMeltsUpto_row_tie : Rows.fnExactPossibleMeltsUptoRow.laidByTextAt .later Tryd.pinned [.sentinel, .sentinel] true :=
  OpenClaim.laidByTextAt_later rfl rfl tie noOwnUnsafe
theorem fnExactMetalOfUpto_row_tie : Rows.fnExactMetalOfUptoRow.laidByTextAt .later Tryd.pinned [.sentinel, .sentinel, .sentinel, .sentinel, .sentinel] true :=
  OpenClaim.laidByTextAt_later rfl rfl tie2 noOwnUnsafe
theorem fnExactMostFromUpto_row_tie : Rows.fnExactMostFromUptoRow.laidByTextAt .later Tryd.pinned [.sentinel, .sentinel, .sentinel, .sentinel, .sentinel] true :=
  OpenClaim.laidByTextAt_later rfl rfl tie2 noOwnUnsafe
theorem fnExactAlloyOfMeltUpto_row_tie : Rows.fnExactAlloyOfMeltUptoRow.laidByTextAt .later Tryd.pinned [.sentinel, .sentinel, .sentinel, .sentinel, .sentinel] true :=
  OpenClaim.laidByTextAt_later rfl rfl tie2 noOwnUnsafe
theorem fnExactUnusedIngotsUpto_row_tie : Rows.fnExactUnusedIngotsUptoRow.laidByTextAt .later Tryd.pinned [.sentinel, .sentinel, .sentinel, .sentinel, .sentinel] true :=
  OpenClaim.laidByTextAt_later rfl rfl tie2 noOwnUnsafe
theorem fnExactLossOfUpto_row_tie : Rows.fnExactLossOfUptoRow.laidByTextAt .later Tryd.pinned [.sentinel, .sentinel, .sentinel, .sentinel, .sentinel] true :=
  OpenClaim.laidByTextAt_later rfl rfl tie2 noOwnUnsafe
theorem fnExactMeltTextUpto_row_tie : Rows.fnExactMeltTextUptoRow.laidByTextAt .later Tryd.pinned [.data, .data, .data] true :=
  OpenClaim.laidByTextAt_later rfl rfl tie3 noOwnUnsafe
end Go.Proofs.YtjicnfgpbbganaaDoor
