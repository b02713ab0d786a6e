/- The program's nearest quotient and the reference model's are one function of two numbers. -/
import Derived.Test.YtpjopfhkgegahaaWithin
import Derived.Test.YtpjopfhkgegahaaDivMath
import Derived.Deep.QuietTactic
import Derived.BigQuiet
namespace Go.Proofs.Ytpjopfhkgegahaa
open Go.ChangeShapes Go.WideShapes Go.ChangeAt Go.RowKit

theorem specDiv_any (a b : Int) (w : World) (hb0 : b ≠ 0) (ha : -2000000000000000000 ≤ a ∧ a ≤ 2000000000000000000) (hb : -1000000000000000000 ≤ b ∧ b ≤ 1000000000000000000) :
    Calls Try.prog 47 #[.int .i64 a, .int .i64 b] w fun e w' => e = .returned (.int .i64 (nq a b)) ∧ w = w' := by
  by_cases hbn : b < 0
  · by_cases han : 0 < a
    · have HF := Lib.hid (show nq a b = wrap64 (-((-b - 2 * -a) / (2 * -b))) by
        have := IntWalk.tdiv_le (-b - 2 * -a) (2 * -b) (by omega) (by omega)
        rw [IntWalk.wrap64_in _ (by omega), nq_neg a b (by omega) hbn, nq_np _ _ (by omega) (by omega)])
      have hn : -a < 0 := by omega
      go_enter Try.func47, Try.ntmps47
      go_wp2
      go_ret
      exact ⟨ret_i64 HF.out.symm, rfl⟩
    · have HF := Lib.hid (show nq a b = (2 * -a + -b) / (2 * -b) by
        by_cases h0 : a = 0
        · subst h0; rw [nq_zero b hbn]; symm; rw [Int.ediv_eq_zero_of_lt (by omega) (by omega)]
        · rw [nq_neg a b h0 hbn, nq_pp _ _ (by omega) (by omega)])
      have hn : ¬ -a < 0 := by omega
      go_enter Try.func47, Try.ntmps47
      go_wp2
      go_ret
      exact ⟨ret_i64 HF.out.symm, rfl⟩
  · by_cases han : a < 0
    · have HF := Lib.hid (show nq a b = wrap64 (-((b - 2 * a) / (2 * b))) by
        have := IntWalk.tdiv_le (b - 2 * a) (2 * b) (by omega) (by omega)
        rw [IntWalk.wrap64_in _ (by omega), nq_np a b han (by omega)])
      go_enter Try.func47, Try.ntmps47
      go_wp2
      go_ret
      exact ⟨ret_i64 HF.out.symm, rfl⟩
    · have HF := Lib.hid (nq_pp a b (by omega) (by omega))
      go_enter Try.func47, Try.ntmps47
      go_wp2
      go_ret
      exact ⟨ret_i64 HF.out.symm, rfl⟩

theorem ret_u64 {a b : Int} (h : a = b) : Ending.returned (.int .u64 a) = .returned (.int .u64 b) := by rw [h]
/-- The absolute value, behind a name of its own. -/
def mag (n : Int) : Int := n.natAbs
theorem magnitude_any (n : Int) (w : World) (h : -9000000000000000000 ≤ n ∧ n ≤ 9000000000000000000) :
    Calls Try.prog 63 #[.int .i64 n] w fun e w' => e = .returned (.int .u64 (mag n)) ∧ w = w' := by
  by_cases hn : n < 0
  · have HF := Lib.hid (show IntKind.u64.wrap (-(IntKind.u64.wrap n)) = mag n by
      simp [mag, IntKind.wrap, IntKind.bits, IntKind.signed]; omega)
    go_enter Try.func63, Try.ntmps63
    go_wp2
    go_ret
    exact ⟨ret_u64 (by first | exact HF.out | rfl), rfl⟩
  · have HF := Lib.hid (show mag n = n by unfold mag; omega)
    go_enter Try.func63, Try.ntmps63
    go_wp2
    go_ret
    exact ⟨ret_u64 HF.out.symm, rfl⟩

theorem tdiv_bd (a b : Int) : -(a.natAbs : Int) ≤ a.tdiv b ∧ a.tdiv b ≤ a.natAbs := by
  have h : (a.tdiv b).natAbs = a.natAbs / b.natAbs := Int.natAbs_tdiv a b
  have := Nat.div_le_self a.natAbs b.natAbs
  omega
theorem tmod_bd (a b : Int) (hb : b ≠ 0) : -(b.natAbs : Int) < a.tmod b ∧ a.tmod b < b.natAbs := by
  have h := Int.natAbs_tmod a b
  have := Nat.mod_lt a.natAbs (show 0 < b.natAbs by omega)
  omega

set_option maxHeartbeats 400000 in
theorem nearest_any (a b : Int) (w : World) (ha : -4000000000000000000 ≤ a ∧ a ≤ 4000000000000000000) (hb : -4000000000000000000 ≤ b ∧ b ≤ 4000000000000000000) :
    Calls Try.prog 50 #[.int .i64 a, .int .i64 b] w fun e w' => e = .returned (.int .i64 (nq a b)) ∧ Below w.heap.size w w' := by
  by_cases hb0 : b = 0
  · subst hb0
    have HF := Lib.hid (show nq a 0 = 0 by simp [nq])
    go_enter Try.func50, Try.ntmps50
    go_wp2
    go_ret
    exact ⟨ret_i64 HF.out.symm, Below.refl _ _⟩
  · obtain ⟨hq1, hq2⟩ : -4000000000000000000 ≤ a.tdiv b ∧ a.tdiv b ≤ 4000000000000000000 := by have := tdiv_bd a b; omega
    obtain ⟨hr1, hr2⟩ : -4000000000000000000 ≤ a.tmod b ∧ a.tmod b ≤ 4000000000000000000 := by have := tmod_bd a b hb0; omega
    obtain ⟨hm1, hm2, hm3⟩ : 0 ≤ mag (a.tmod b) ∧ mag (a.tmod b) < mag b ∧ mag b ≤ 4000000000000000000 := by have := tmod_bd a b hb0; unfold mag; omega
    have HF := Lib.hid (nq_impl a b hb0)
    have hb1 : (b == 0) = false := by simpa using hb0
    by_cases h1 : mag (a.tmod b) < mag b - mag (a.tmod b)
    · have HR := Lib.hid (show nq a b = a.tdiv b by rw [HF.out, if_pos (by unfold mag at h1; omega)])
      clear HF
      go_enter Try.func50, Try.ntmps50
      go_wp2_with fail
      go_quiet ((go_at_call 63; exact Calls.quiet_of_same ((magnitude_any _ _ (by omega)).mono (fun _ _ h => ⟨h.1, h.2.symm⟩))))
      go_wp2_with (go_at_call 63; refine (magnitude_any _ _ (by omega)).mono ?_; rintro e w' ⟨rfl, rfl⟩)
      go_ret
      exact ⟨ret_i64 HR.out.symm, below_drewN _ _⟩
    · by_cases h2 : (a < 0) = (b < 0)
      · have HR := Lib.hid (show nq a b = a.tdiv b + 1 by rw [HF.out, if_neg (by unfold mag at h1; omega), if_pos h2])
        have hd : (decide (a < 0) == decide (b < 0)) = true := by simp [h2]
        clear h2 HF
        go_enter Try.func50, Try.ntmps50
        go_wp2_with fail
        go_quiet ((go_at_call 63; exact Calls.quiet_of_same ((magnitude_any _ _ (by omega)).mono (fun _ _ h => ⟨h.1, h.2.symm⟩))))
        go_wp2_with (go_at_call 63; refine (magnitude_any _ _ (by omega)).mono ?_; rintro e w' ⟨rfl, rfl⟩)
        go_ret
        exact ⟨ret_i64 HR.out.symm, below_drewN _ _⟩
      · have HR := Lib.hid (show nq a b = a.tdiv b - 1 by rw [HF.out, if_neg (by unfold mag at h1; omega), if_neg h2])
        have hd : (decide (a < 0) == decide (b < 0)) = false := by
          rw [beq_eq_false_iff_ne]; intro h; exact h2 (by simpa using h)
        clear h2 HF
        go_enter Try.func50, Try.ntmps50
        go_wp2_with fail
        go_quiet ((go_at_call 63; exact Calls.quiet_of_same ((magnitude_any _ _ (by omega)).mono (fun _ _ h => ⟨h.1, h.2.symm⟩))))
        go_wp2_with (go_at_call 63; refine (magnitude_any _ _ (by omega)).mono ?_; rintro e w' ⟨rfl, rfl⟩)
        go_ret
        exact ⟨ret_i64 HR.out.symm, below_drewN _ _⟩
end Go.Proofs.Ytpjopfhkgegahaa
