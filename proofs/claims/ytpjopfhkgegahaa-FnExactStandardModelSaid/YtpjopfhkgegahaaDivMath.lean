/- Arithmetic of the nearest quotient: plain integers. -/
import Derived.IntWalk
namespace Go.Proofs.Ytpjopfhkgegahaa
/-- The nearest quotient, halves away from 0; 0 for a divisor of 0. -/
def nq (a b : Int) : Int := if b = 0 then 0 else if (a < 0) = (b < 0) then (((2 * a.natAbs + b.natAbs) / (2 * b.natAbs) : Nat) : Int) else -(((2 * a.natAbs + b.natAbs) / (2 * b.natAbs) : Nat) : Int)

theorem near_nat (A B : Nat) (hB : 0 < B) : (2 * A + B) / (2 * B) = A / B + (if A % B < B - A % B then 0 else 1) := by
  have h1 := Nat.div_add_mod A B
  have h2 := Nat.mod_lt A hB
  generalize A / B = q at *
  generalize A % B = r at *
  have e : q * (2 * B) = 2 * (B * q) := by rw [Nat.mul_left_comm, Nat.mul_comm q B]
  split
  · exact Nat.div_eq_of_lt_le (by rw [Nat.add_zero, e]; omega) (by rw [Nat.add_zero, Nat.add_mul, Nat.one_mul, e]; omega)
  · exact Nat.div_eq_of_lt_le (by rw [Nat.add_mul, Nat.one_mul, e]; omega) (by rw [Nat.add_mul, Nat.add_mul, Nat.one_mul, e]; omega)
/-- What the reference model reckons for a positive divisor and a number that is not negative. -/
theorem nq_pp (a b : Int) (ha : 0 ≤ a) (hb : 0 < b) : nq a b = (2 * a + b) / (2 * b) := by
  obtain ⟨A, rfl⟩ := Int.eq_ofNat_of_zero_le ha
  obtain ⟨B, rfl⟩ := Int.eq_ofNat_of_zero_le (show 0 ≤ b by omega)
  unfold nq
  rw [if_neg (by omega), if_pos (by simp only [eq_iff_iff]; omega)]
  simp
theorem nq_np (a b : Int) (ha : a < 0) (hb : 0 < b) : nq a b = -((b - 2 * a) / (2 * b)) := by
  obtain ⟨A, hA⟩ := Int.eq_ofNat_of_zero_le (show 0 ≤ -a by omega)
  obtain ⟨B, rfl⟩ := Int.eq_ofNat_of_zero_le (show 0 ≤ b by omega)
  obtain rfl : a = -(A : Int) := by omega
  unfold nq
  rw [if_neg (by omega), if_neg (by simp only [eq_iff_iff]; omega)]
  rw [show (B : Int) - 2 * -(A : Int) = ((2 * A + B : Nat) : Int) from by omega, show (-(A : Int)).natAbs = A from by omega, show ((B : Int)).natAbs = B from by omega]
  rfl
theorem nq_neg (a b : Int) (ha : a ≠ 0) (hb : b < 0) : nq a b = nq (-a) (-b) := by
  unfold nq
  rw [if_neg (show ¬ b = 0 by omega), if_neg (show ¬ -b = 0 by omega), Int.natAbs_neg, Int.natAbs_neg]
  by_cases h : a < 0
  · rw [if_pos (show (a < 0) = (b < 0) by simp only [eq_iff_iff]; omega), if_pos (show (-a < 0) = (-b < 0) by simp only [eq_iff_iff]; omega)]
  · rw [if_neg (show ¬ (a < 0) = (b < 0) by simp only [eq_iff_iff]; omega), if_neg (show ¬ (-a < 0) = (-b < 0) by simp only [eq_iff_iff]; omega)]
theorem nq_zero (b : Int) (hb : b < 0) : nq 0 b = 0 := by
  unfold nq
  rw [if_neg (by omega), if_neg (by simp only [eq_iff_iff]; omega)]
  obtain ⟨B, rfl⟩ : ∃ B : Nat, b = -(B : Int) := ⟨b.natAbs, by omega⟩
  rw [show (2 * (0 : Int).natAbs + (-(B : Int)).natAbs) = B from by omega, show (-(B : Int)).natAbs = B from by omega, Nat.div_eq_of_lt (by omega)]
  rfl
/-- What the program reckons: a quotient cut towards 0, moved by one away from 0 if the rest is not less than what it lacks. -/
theorem nq_impl (a b : Int) (hb : b ≠ 0) : nq a b = if (a.tmod b).natAbs < b.natAbs - (a.tmod b).natAbs then a.tdiv b else if (a < 0) = (b < 0) then a.tdiv b + 1 else a.tdiv b - 1 := by
  have hB : 0 < b.natAbs := by omega
  unfold nq
  rw [if_neg hb, near_nat _ _ hB, Int.natAbs_tmod]
  have hd : a.tdiv b = if (a < 0) = (b < 0) then ((a.natAbs / b.natAbs : Nat) : Int) else -((a.natAbs / b.natAbs : Nat) : Int) := by
    rcases Int.lt_or_le a 0 with h1 | h1 <;> rcases Int.lt_or_le b 0 with h2 | h2
    · rw [if_pos (by simp only [eq_iff_iff]; omega)]
      obtain ⟨A, rfl⟩ : ∃ A : Nat, a = -(A : Int) := ⟨a.natAbs, by omega⟩
      obtain ⟨B, rfl⟩ : ∃ B : Nat, b = -(B : Int) := ⟨b.natAbs, by omega⟩
      simp [Int.neg_tdiv, Int.tdiv_neg]
    · rw [if_neg (by simp only [eq_iff_iff]; omega)]
      obtain ⟨A, rfl⟩ : ∃ A : Nat, a = -(A : Int) := ⟨a.natAbs, by omega⟩
      obtain ⟨B, rfl⟩ : ∃ B : Nat, b = (B : Int) := ⟨b.natAbs, by omega⟩
      simp [Int.neg_tdiv]
    · rw [if_neg (by simp only [eq_iff_iff]; omega)]
      obtain ⟨A, rfl⟩ : ∃ A : Nat, a = (A : Int) := ⟨a.natAbs, by omega⟩
      obtain ⟨B, rfl⟩ : ∃ B : Nat, b = -(B : Int) := ⟨b.natAbs, by omega⟩
      simp [Int.tdiv_neg]
    · rw [if_pos (by simp only [eq_iff_iff]; omega)]
      obtain ⟨A, rfl⟩ : ∃ A : Nat, a = (A : Int) := ⟨a.natAbs, by omega⟩
      obtain ⟨B, rfl⟩ : ∃ B : Nat, b = (B : Int) := ⟨b.natAbs, by omega⟩
      simp
  rw [hd]
  generalize a.natAbs / b.natAbs = q
  split <;> split <;> simp_all <;> omega
end Go.Proofs.Ytpjopfhkgegahaa
