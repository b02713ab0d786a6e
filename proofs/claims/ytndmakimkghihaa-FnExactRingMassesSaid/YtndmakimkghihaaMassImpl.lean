/- Masses: the program's product and quotient in 128 bits, and what it reckons of one ring. -/
import Derived.Test.YtndmakimkghihaaProfVal
import Derived.Test.YtndmakimkghihaaMassMath
import Derived.Test.YtndmakimkghihaaShelfM
import Derived.Laws.Externs
set_option linter.unusedVariables false
namespace Go.Proofs.Ytndmakimkghihaa
open Go.ChangeShapes Go.WideShapes Go.ChangeAt Go.RowKit

theorem add64_any (x y : Int) (hx : 0 ≤ x) (hy : 0 ≤ y) (h : x + y < 18446744073709551616) (w : World) : (callFunc 179 #[.int .u64 x, .int .u64 y, .int .u64 0]).run Try.prog w = .ok (.value (.tuple #[.int .u64 (x + y), .int .u64 0])) w := by
  rw [run_callFunc_extern Try.func179 (by kernel_rfl) (by kernel_rfl) (by kernel_rfl) (e := add64Entry) (by kernel_rfl), run_add64 x y 0 hx hy (by omega) (by omega)]
  simp only [Result.andThen]
  rw [show (x + y + 0) % 18446744073709551616 = x + y by omega, show (x + y + 0) / 18446744073709551616 = 0 by omega]
theorem ret_two_u {a b c d : Int} (h : a = b) (k : c = d) : Ending.returned (.tuple #[.int .u64 a, .int .u64 c]) = .returned (.tuple #[.int .u64 b, .int .u64 d]) := by rw [h, k]
theorem ret_any {a b : Int} {r : Value} (h : a = b) : Ending.returned (.tuple #[.int .u64 a, r]) = .returned (.tuple #[.int .u64 b, r]) := by rw [h]
theorem div64_any (lo y : Int) (h0 : 0 ≤ lo) (h1 : lo < 18446744073709551616) (y0 : 0 < y) (y1 : y < 18446744073709551616) (w : World) :
    Calls Try.prog 180 #[.int .u64 0, .int .u64 lo, .int .u64 y] w fun e w' => (∃ r, e = .returned (.tuple #[.int .u64 (lo / y), r])) ∧ ∃ n, w' = w.drewN n := by
  go_enter Try.func180, Try.ntmps180
  go_wp2
  go_quiet (fail)
  go_wp2
  go_ret2
  exact ⟨⟨_, ret_any (by first | rfl | exact (Int.tdiv_eq_ediv_of_nonneg h0))⟩, _, rfl⟩
set_option maxHeartbeats 400000 in
theorem nearProd_nat (a b d : Nat) (ha : a ≤ 4000000000000000000) (hb : b ≤ 4000000000000000000) (hd : 0 < d) (hd2 : d ≤ 1000000000000) (hab : a * b ≤ 4000000000000000000) (w : World) :
    Calls Try.prog 172 #[.int .i64 (a : Int), .int .i64 (b : Int), .int .i64 (d : Int)] w fun e w' => e = .returned (.int .i64 (((a * b + d / 2) / d : Nat) : Int)) ∧ ∃ n, w' = w.drewN n := by
  have HM := Try.bits_Mul64 a b (by omega) (by omega)
  have e1 : a * b / 18446744073709551616 = 0 := Nat.div_eq_of_lt (by omega)
  have e2 : a * b % 18446744073709551616 = a * b := Nat.mod_eq_of_lt (by omega)
  rw [e1, e2] at HM
  clear e1 e2
  generalize a * b = p at *
  have HR := Lib.hid (show (((p + d / 2) / d : Nat) : Int) = ((p : Int) + (d : Int) / 2) / (d : Int) by simp)
  have hq0 : 0 ≤ ((p : Int) + (d : Int) / 2) / (d : Int) := Int.ediv_nonneg (by omega) (by omega)
  have hq1 : ((p : Int) + (d : Int) / 2) / (d : Int) ≤ 4000001000000000000 := Int.le_trans (Int.ediv_le_self _ (by omega)) (by omega)
  have hadd := fun w => add64_any (p : Int) ((d : Int) / 2) (by omega) (by omega) (by omega) w
  go_enter Try.func172, Try.ntmps172
  go_wp2_with (first | (go_at_call 178; refine (HM _).mono ?_; rintro e w' ⟨rfl, hw'⟩; subst hw') | (go_at_call 180; refine (div64_any ((p : Int) + (d : Int) / 2) (d : Int) (by omega) (by omega) (by omega) (by omega) _).mono ?_; rintro e w' ⟨⟨r, rfl⟩, n, rfl⟩))
  go_ret
  exact ⟨ret_i64 HR.out.symm, _, rfl⟩
theorem nearProd_any (a b d : Int) (ha : 0 ≤ a) (hb : 0 ≤ b) (ha1 : a ≤ 4000000000000000000) (hb1 : b ≤ 4000000000000000000) (hd : 0 < d) (hd2 : d ≤ 1000000000000) (hab : a * b ≤ 4000000000000000000) (w : World) :
    Calls Try.prog 172 #[.int .i64 a, .int .i64 b, .int .i64 d] w fun e w' => e = .returned (.int .i64 (nq (a * b) d)) ∧ ∃ n, w' = w.drewN n := by
  obtain ⟨a, rfl⟩ := Int.eq_ofNat_of_zero_le ha
  obtain ⟨b, rfl⟩ := Int.eq_ofNat_of_zero_le hb
  obtain ⟨d, rfl⟩ := Int.eq_ofNat_of_zero_le (show 0 ≤ d by omega)
  have e : ((a : Int) * (b : Int)) = ((a * b : Nat) : Int) := by simp
  rw [e] at hab ⊢
  rw [nq_half _ _ (by omega)]
  exact nearProd_nat a b d (by omega) (by omega) (by omega) (by omega) (by omega) w
end Go.Proofs.Ytndmakimkghihaa
