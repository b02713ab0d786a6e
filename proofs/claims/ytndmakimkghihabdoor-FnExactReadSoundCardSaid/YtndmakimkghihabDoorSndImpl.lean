/- Sounds: the program's validity. -/
import Derived.Test.YtndmakimkghihabDoorSndSpec
import Derived.Test.YtndmakimkghihabDoorPick
import Derived.Deep.RegionHeld3
import Derived.ChangeKeysEq
namespace Go.Proofs.YtndmakimkghihabDoor
open Go.ChangeShapes Go.WideShapes Go.ChangeAt Go.RowKit


/-- Two arrays of five numbers, compared. -/
theorem eql5 (a b c e f a' b' c' e' f' : Int) (w : World) :
    (Op.equalIn 10000 88 (.agg #[.int .i64 a, .int .i64 b, .int .i64 c, .int .i64 e, .int .i64 f]) (.agg #[.int .i64 a', .int .i64 b', .int .i64 c', .int .i64 e', .int .i64 f'])).run Tryd.prog w = .ok (a == a' && (b == b' && (c == c' && (e == e' && f == f')))) w := by
  obtain ⟨i0, hi, -, -, -⟩ := info_parts infoI64
  have hc : Tryd.prog.cellsOf 2 = 1 := by kernel_rfl
  rw [show (10000 : Nat) = 9999 + 1 from rfl, run_equalIn_array w 9999 _ _ Tryd.underlying88 hi, hc, show List.range 5 = [0, 1, 2, 3, 4] from rfl]
  have hu := Tryd.underlying2
  cases h0 : (a == a') <;> cases h1 : (b == b') <;> cases h2 : (c == c') <;> cases h3 : (e == e') <;> cases h4 : (f == f') <;> simp [Op.eqItems, go_sem, h0, h1, h2, h3, h4, hu]
end Go.Proofs.YtndmakimkghihabDoor
