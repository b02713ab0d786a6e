/- Sounds: one partial, and a changed one: the program's walks, and the reference model's of a changed partial. -/
import Derived.Test.YtpllmehcndinkabDoorSndValid
namespace Go.Proofs.YtpllmehcndinkabDoor
open Go.ChangeShapes Go.WideShapes Go.ChangeAt Go.RowKit

/-- One of five numbers of an array. -/
theorem index5 (a b c e f : Int) (q : Nat) (hq : q < 5) (w : World) : (Instr.index 59 (.agg #[.int .i64 a, .int .i64 b, .int .i64 c, .int .i64 e, .int .i64 f]) (.int .i64 (q : Int))).run Tryd.prog w = .ok (.int .i64 ([a, b, c, e, f].getD q 0)) w := by
  have hu := Tryd.underlying59
  rcases (by omega : q = 0 ∨ q = 1 ∨ q = 2 ∨ q = 3 ∨ q = 4) with rfl | rfl | rfl | rfl | rfl <;> simp [Instr.index, run_underlying hu, asIntOf, go_sem]
end Go.Proofs.YtpllmehcndinkabDoor
