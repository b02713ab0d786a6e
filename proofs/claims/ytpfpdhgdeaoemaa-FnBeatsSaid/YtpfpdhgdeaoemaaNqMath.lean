/- A nearest quotient is near. -/
import Derived.Test.YtpfpdhgdeaoemaaDivMath
namespace Go.Proofs.Ytpfpdhgdeaoemaa
theorem nq_near (a b : Int) (hb : 0 < b) : 2 * (a - nq a b * b) ≤ b ∧ -b ≤ 2 * (a - nq a b * b) := by
  by_cases ha : 0 ≤ a
  · rw [nq_pp a b ha hb]
    have h1 := Int.mul_ediv_add_emod (2 * a + b) (2 * b)
    have h2 := Int.emod_nonneg (2 * a + b) (show 2 * b ≠ 0 by omega)
    have h3 := Int.emod_lt_of_pos (2 * a + b) (show 0 < 2 * b by omega)
    generalize (2 * a + b) / (2 * b) = q at *
    have e : 2 * b * q = 2 * (q * b) := by rw [Int.mul_assoc, Int.mul_comm b q]
    rw [e] at h1
    omega
  · rw [nq_np a b (by omega) hb]
    have h1 := Int.mul_ediv_add_emod (b - 2 * a) (2 * b)
    have h2 := Int.emod_nonneg (b - 2 * a) (show 2 * b ≠ 0 by omega)
    have h3 := Int.emod_lt_of_pos (b - 2 * a) (show 0 < 2 * b by omega)
    generalize (b - 2 * a) / (2 * b) = q at *
    have e : 2 * b * q = 2 * (q * b) := by rw [Int.mul_assoc, Int.mul_comm b q]
    rw [e] at h1
    rw [Int.neg_mul]
    omega

end Go.Proofs.Ytpfpdhgdeaoemaa
