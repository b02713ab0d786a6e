/- The decimal digits of a number, collected from the last one on. -/
import Derived.Lib.ItoaNum
import Derived.IntWalk
namespace Go.Proofs.YtjicnfgpbbganabDoor
open Go

theorem dec_small (u : Nat) (h : u < 10) : Lib.decDigits u = [UInt8.ofNat (48 + u)] := by rw [Lib.decDigits, dif_pos h]
theorem dec_step (u : Nat) (h : ¬ u < 10) : Lib.decDigits u = Lib.decDigits (u / 10) ++ [UInt8.ofNat (48 + u % 10)] := by rw [Lib.decDigits, dif_neg h]

/-- With A still to be written and ds collected (last digit first), the digits of N come out. -/
def DecInv (N A : Nat) (ds : List UInt8) : Prop := (if A = 0 then ds.reverse = Lib.decDigits N else Lib.decDigits A ++ ds.reverse = Lib.decDigits N) ∧ ds.length ≤ 19 ∧ A * 10 ^ ds.length ≤ 9223372036854775808

theorem inv_begin (N : Nat) (h0 : N ≠ 0) (h : N ≤ 9223372036854775808) : DecInv N N [] := ⟨by rw [if_neg h0]; simp, by simp, by simpa using h⟩
theorem inv_len (N A : Nat) (ds : List UInt8) (h : DecInv N A ds) (hA : A ≠ 0) : ds.length ≤ 18 := by
  obtain ⟨_, _, h3⟩ := h
  by_cases hl : ds.length ≤ 18
  · exact hl
  · have h19 : 10 ^ 19 ≤ 10 ^ ds.length := Nat.pow_le_pow_right (by omega) (by omega)
    have : 1 * 10 ^ ds.length ≤ A * 10 ^ ds.length := Nat.mul_le_mul_right _ (by omega)
    omega
theorem inv_next (N A : Nat) (ds : List UInt8) (h : DecInv N A ds) (hA : A ≠ 0) : DecInv N (A / 10) (ds ++ [UInt8.ofNat (48 + A % 10)]) := by
  have hl := inv_len N A ds h hA
  obtain ⟨h1, h2, h3⟩ := h
  rw [if_neg hA] at h1
  refine ⟨?_, by simp; omega, ?_⟩
  · by_cases hs : A < 10
    · rw [if_pos (by omega), List.reverse_append, ← h1, dec_small A hs, Nat.mod_eq_of_lt hs]; rfl
    · rw [if_neg (by omega), List.reverse_append, ← h1, dec_step A hs]; simp
  · rw [List.length_append, List.length_singleton, Nat.pow_succ, Nat.mul_comm (10 ^ ds.length) 10, ← Nat.mul_assoc]
    exact Nat.le_trans (Nat.mul_le_mul_right _ (Nat.div_mul_le_self A 10)) h3
theorem inv_end (N : Nat) (ds : List UInt8) (h : DecInv N 0 ds) : ds.reverse = Lib.decDigits N := by have := h.1; rwa [if_pos rfl] at this
theorem digit_u8 (d : Nat) (h : d ≤ 9) : ((UInt8.ofNat (48 + d)).toNat : Int) = 48 + (d : Int) := by
  have : (UInt8.ofNat (48 + d)).toNat = 48 + d := by rw [UInt8.toNat_ofNat']; omega
  omega
/-- Go's quotient and rest of a number that is not positive. -/
theorem neg_parts (A : Nat) : (-(A : Int)).tmod 10 = -((A % 10 : Nat) : Int) ∧ (-(A : Int)).tdiv 10 = -((A / 10 : Nat) : Int) := by
  rw [Int.neg_tmod, Int.neg_tdiv]; exact ⟨rfl, rfl⟩
end Go.Proofs.YtjicnfgpbbganabDoor
