/- Sounds: the program's validity. -/
import Derived.Test.YtpjopfhkgegahaaGreatSndSpec
import Derived.Test.YtpjopfhkgegahaaGreatG1
import Derived.Deep.RegionHeld3
import Derived.ChangeKeysEq
namespace Go.Proofs.YtpjopfhkgegahaaGreat
open Go.ChangeShapes Go.WideShapes Go.ChangeAt Go.RowKit

set_option maxHeartbeats 400000 in
theorem partialsOf_any (a b c e f : Int) (w : World) :
    Calls Tryz.prog 95 #[.agg #[.int .i64 a, .int .i64 b, .int .i64 c, .int .i64 e, .int .i64 f]] w fun en w' => en = .returned (.agg #[.int .i64 a, .int .i64 b, .int .i64 c, .int .i64 e, .int .i64 f]) ∧ Below w.heap.size w w' := by
  go_enter Tryz.func95, Tryz.ntmps95
  go_wp2
  refine bodyPost_ret (v := .agg #[.int .i64 a, .int .i64 b, .int .i64 c, .int .i64 e, .int .i64 f]) (by simp [results, Tryz.results95, go_sem]) rfl ⟨rfl, ?_⟩
  exact (((Below.refl _ _).alloc (Nat.le_refl _) _).alloc (by simp) _)

/-- Two arrays of five numbers, compared. -/
theorem eql5 (a b c e f a' b' c' e' f' : Int) (w : World) :
    (Op.equalIn 10000 101 (.agg #[.int .i64 a, .int .i64 b, .int .i64 c, .int .i64 e, .int .i64 f]) (.agg #[.int .i64 a', .int .i64 b', .int .i64 c', .int .i64 e', .int .i64 f'])).run Tryz.prog w = .ok (a == a' && (b == b' && (c == c' && (e == e' && f == f')))) w := by
  obtain ⟨i0, hi, -, -, -⟩ := info_parts infoI64
  have hc : Tryz.prog.cellsOf 2 = 1 := by kernel_rfl
  rw [show (10000 : Nat) = 9999 + 1 from rfl, run_equalIn_array w 9999 _ _ Tryz.underlying101 hi, hc, show List.range 5 = [0, 1, 2, 3, 4] from rfl]
  have hu := Tryz.underlying2
  cases h0 : (a == a') <;> cases h1 : (b == b') <;> cases h2 : (c == c') <;> cases h3 : (e == e') <;> cases h4 : (f == f') <;> simp [Op.eqItems, go_sem, h0, h1, h2, h3, h4, hu]
end Go.Proofs.YtpjopfhkgegahaaGreat
