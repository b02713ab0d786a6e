/- Arithmetic of the program's root: a bit that is set below the lowest set one is added; the square of a trial fits. -/
import Derived.Laws.BitsAllLaws
import Derived.Lib.BitFns
import Derived.IntWalk
namespace Go.Proofs.YtfleececlafjkaaDoor
theorem or_pow (r j : Nat) (h : 2 ^ (j + 1) ∣ r) : r ||| 2 ^ j = r + 2 ^ j := by
  obtain ⟨a, rfl⟩ := h
  exact (Nat.two_pow_add_eq_or_of_lt (Nat.pow_lt_pow_right (by omega) (by omega)) a).symm

theorem pow_le32 (j : Nat) (h : j ≤ 31) : 2 ^ j ≤ 2147483648 := by
  have := Nat.pow_le_pow_right (n := 2) (by omega) h
  omega

/-- The trial of the text: root | 1<<bit. -/
theorem trial_eq (r j : Nat) (hj : j ≤ 31) (hd : 2 ^ (j + 1) ∣ r) (hb : r + 2 ^ (j + 1) ≤ 4294967296) :
    bits BinOp.or IntKind.u64 (r : Int) (IntKind.u64.wrap ((2 : Int) ^ j)) = ((r + 2 ^ j : Nat) : Int) := by
  have hp := pow_le32 j hj
  have e : (2 : Int) ^ j = ((2 ^ j : Nat) : Int) := by simp
  rw [e, IntWalk.u64_in _ ⟨by omega, by omega⟩, u64_or_nat r (2 ^ j) (by have : 0 < 2 ^ (j + 1) := Nat.pow_pos (by omega); omega) (by omega), or_pow r j hd]

theorem trial_sq (t : Nat) (h : t ≤ 4294967295) : IntKind.u64.wrap ((t : Int) * (t : Int)) = ((t * t : Nat) : Int) := by
  have h1 : t * t ≤ 4294967295 * 4294967295 := Nat.mul_le_mul h h
  have e : (t : Int) * (t : Int) = ((t * t : Nat) : Int) := by simp
  rw [e]
  exact IntWalk.u64_in _ ⟨by omega, by omega⟩

theorem aux_lt : ∀ (f x : Nat), x < 2 ^ f → x < 2 ^ (Lib.bitLenAux f x)
  | 0, x, h => by simpa [Lib.bitLenAux] using h
  | f + 1, x, h => by
    rw [Lib.bitLenAux]
    split
    · omega
    · have := aux_lt f (x / 2) (by rw [Nat.pow_succ] at h; omega)
      rw [Nat.add_comm, Nat.pow_succ]
      omega
theorem aux_le : ∀ (f x m : Nat), x < 2 ^ m → Lib.bitLenAux f x ≤ m
  | 0, x, m, h => by simp [Lib.bitLenAux]
  | f + 1, x, m, h => by
    rw [Lib.bitLenAux]
    split
    · omega
    · match m with
      | 0 => simp at h; omega
      | m + 1 =>
        have := aux_le f (x / 2) m (by rw [Nat.pow_succ] at h; omega)
        omega
theorem len_lt (x : Nat) (h : x < 18446744073709551616) : x < 2 ^ (Lib.bitLen x) := aux_lt 64 x h
theorem len_le (x : Nat) (h : x ≤ 9223372036854775807) : Lib.bitLen x ≤ 63 := aux_le 64 x 63 (by omega)
theorem len_pos (x : Nat) (h0 : 0 < x) : 1 ≤ Lib.bitLen x := by
  unfold Lib.bitLen
  rw [show (64 : Nat) = 63 + 1 from rfl, Lib.bitLenAux, if_neg (by omega)]
  omega

/-- What holds at the loop's head with k bits to find. -/
def RootInv (n : Int) (r k : Nat) : Prop := k ≤ 32 ∧ 2 ^ k ∣ r ∧ r + 2 ^ k ≤ 4294967296 ∧ ((r * r : Nat) : Int) ≤ n ∧ n < (((r + 2 ^ k) * (r + 2 ^ k) : Nat) : Int)

theorem inv_start (n : Int) (h0 : 0 < n) (h1 : n ≤ 9223372036854775807) : RootInv n 0 ((Lib.bitLen n.toNat - 1) / 2 + 1) := by
  have hl := len_lt n.toNat (by omega)
  have hle := len_le n.toNat (by omega)
  have hp := len_pos n.toNat (by omega)
  generalize Lib.bitLen n.toNat = b at hl hle hp
  have hk : (b - 1) / 2 + 1 ≤ 32 := by omega
  have h32 := Nat.pow_le_pow_right (n := 2) (by omega) hk
  have hb : 2 ^ b ≤ 2 ^ ((b - 1) / 2 + 1) * 2 ^ ((b - 1) / 2 + 1) := by
    rw [← Nat.pow_add]
    exact Nat.pow_le_pow_right (by omega) (by omega)
  refine ⟨hk, ⟨0, rfl⟩, by omega, by simp; omega, ?_⟩
  rw [Nat.zero_add]
  omega

theorem inv_take (n : Int) (r j : Nat) (h : RootInv n r (j + 1)) (hc : (((r + 2 ^ j) * (r + 2 ^ j) : Nat) : Int) ≤ n) : RootInv n (r + 2 ^ j) j := by
  obtain ⟨h1, ⟨a, rfl⟩, h3, h4, h5⟩ := h
  have e : 2 ^ (j + 1) = 2 ^ j + 2 ^ j := by rw [Nat.pow_succ]; omega
  refine ⟨by omega, ⟨2 * a + 1, by rw [e, Nat.mul_add, Nat.add_mul]; simp [Nat.mul_comm, Nat.mul_assoc, Nat.two_mul, Nat.mul_add]⟩, by omega, hc, ?_⟩
  rw [show 2 ^ (j + 1) * a + 2 ^ j + 2 ^ j = 2 ^ (j + 1) * a + 2 ^ (j + 1) from by omega]
  exact h5
theorem inv_skip (n : Int) (r j : Nat) (h : RootInv n r (j + 1)) (hc : n < (((r + 2 ^ j) * (r + 2 ^ j) : Nat) : Int)) : RootInv n r j := by
  obtain ⟨h1, ⟨a, rfl⟩, h3, h4, h5⟩ := h
  have e : 2 ^ (j + 1) = 2 ^ j + 2 ^ j := by rw [Nat.pow_succ]; omega
  have hp : 0 < 2 ^ j := Nat.pow_pos (by omega)
  exact ⟨by omega, ⟨2 * a, by rw [Nat.pow_succ, Nat.mul_assoc]⟩, by rw [e] at h3 ⊢; generalize 2 ^ j = q at *; omega, h4, hc⟩
theorem inv_bd (n : Int) (r k : Nat) (h : RootInv n r k) (hn : n ≤ 9223372036854775807) : r ≤ 3037000499 := by
  obtain ⟨_, _, _, h4, _⟩ := h
  by_cases hr : r ≤ 3037000499
  · exact hr
  · have := Nat.mul_le_mul (show 3037000500 ≤ r by omega) (show 3037000500 ≤ r by omega)
    omega
end Go.Proofs.YtfleececlafjkaaDoor
