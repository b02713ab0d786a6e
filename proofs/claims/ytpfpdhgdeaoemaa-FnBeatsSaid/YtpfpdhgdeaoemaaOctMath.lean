/- A frequency that is moved by octaves has moved by that many octaves, nearly. -/
import Derived.Test.YtpfpdhgdeaoemaaGapMath
namespace Go.Proofs.Ytpfpdhgdeaoemaa

theorem exp_half {f : Int} {k eg : Nat} (hg : IsExp (f / 2 ^ k) eg) : IsExp f (eg + k) := by
  obtain ⟨h1, h2⟩ := hg
  have hp := pow_pos' k
  refine ⟨?_, ?_⟩
  · rw [pow_add']
    have a := Int.mul_le_mul_of_nonneg_right h1 (Int.le_of_lt hp)
    have b := Int.ediv_mul_le f (show (2 : Int) ^ k ≠ 0 by omega)
    omega
  · have a : f < (f / 2 ^ k + 1) * 2 ^ k := Int.lt_ediv_add_one_mul_self f hp
    have b := Int.mul_le_mul_of_nonneg_right (show f / 2 ^ k + 1 ≤ 2 ^ (eg + 1) by omega) (Int.le_of_lt hp)
    rw [← pow_add'] at b
    rw [show eg + k + 1 = eg + 1 + k by omega]
    omega
theorem exp_dbl {f : Int} {k e : Nat} (hf : IsExp f e) : IsExp (f * 2 ^ k) (e + k) := by
  obtain ⟨h1, h2⟩ := hf
  have hp := pow_pos' k
  refine ⟨?_, ?_⟩
  · rw [pow_add']
    exact Int.mul_le_mul_of_nonneg_right h1 (Int.le_of_lt hp)
  · rw [show e + k + 1 = e + 1 + k by omega, pow_add']
    exact Int.mul_lt_mul_of_pos_right h2 hp
theorem exp_24 {n : Int} {e : Nat} (h : IsExp n e) (hn : n ≤ 20000000) : e ≤ 24 := by
  by_cases hc : e ≤ 24
  · exact hc
  · have := pow_mono 25 e (by omega)
    rw [show (2 : Int) ^ 25 = 33554432 from rfl] at this
    have := h.1
    omega
theorem exp_13 {n : Int} {e : Nat} (h : IsExp n e) (hn : 10000 ≤ n) : 13 ≤ e := by
  by_cases hc : 13 ≤ e
  · exact hc
  · have := pow_mono (e + 1) 13 (by omega)
    rw [show (2 : Int) ^ 13 = 8192 from rfl] at this
    have := h.2
    omega
theorem near_half {f : Int} {k : Nat} (hf : f ≤ 20000000) (hg : 10000 ≤ f / 2 ^ k) : 0 ≤ fineV f - fineV (f / 2 ^ k) - 16777216 * k ∧ fineV f - fineV (f / 2 ^ k) - 16777216 * k ≤ 32767 := by
  have h1 := exp_of (f / 2 ^ k) (by omega)
  have h13 := exp_13 h1 hg
  have h2 := exp_half h1
  have h24 := exp_24 h2 hf
  rw [fine_of h1, fine_of h2]
  generalize Nat.log2 (f / 2 ^ k).toNat = eg at *
  have n1 := norm_bd h1
  have n2 := norm_bd h2
  have hp := pow_pos' k
  have hq := pow_pos' (30 - (eg + k))
  have a0 := Int.ediv_mul_le f (show (2 : Int) ^ k ≠ 0 by omega)
  have a1 : f < (f / 2 ^ k + 1) * 2 ^ k := Int.lt_ediv_add_one_mul_self f hp
  have e2 : normX f (eg + k) = f * 2 ^ (30 - (eg + k)) := by unfold normX; rw [if_neg (by omega)]
  have e1 : normX (f / 2 ^ k) eg = f / 2 ^ k * 2 ^ k * 2 ^ (30 - (eg + k)) := by
    unfold normX
    rw [if_neg (by omega), Int.mul_assoc, ← pow_add', show k + (30 - (eg + k)) = 30 - eg by omega]
  have d0 := Int.mul_le_mul_of_nonneg_right a0 (Int.le_of_lt hq)
  have d1 := Int.mul_lt_mul_of_pos_right a1 hq
  have e3 : (f / 2 ^ k + 1) * 2 ^ k * 2 ^ (30 - (eg + k)) = f / 2 ^ k * 2 ^ k * 2 ^ (30 - (eg + k)) + 2 ^ (30 - eg) := by
    rw [Int.add_mul, Int.one_mul, Int.add_mul, ← pow_add', show k + (30 - (eg + k)) = 30 - eg by omega]
  rw [e3] at d1
  have hm := pow_mono (30 - eg) 17 (by omega)
  rw [show (2 : Int) ^ 17 = 131072 from rfl] at hm
  have r := rest_near (x := normX f (eg + k)) (y := normX (f / 2 ^ k) eg) n2.2 n1.1 (by omega) (by omega)
  unfold fineAt
  omega
theorem near_dbl {f : Int} {k : Nat} (hf : 0 < f) (hg : f * 2 ^ k ≤ 20000000) : fineV (f * 2 ^ k) - fineV f = 16777216 * k := by
  have h1 := exp_of f hf
  have h2 := exp_dbl (k := k) h1
  have h24 := exp_24 h2 hg
  rw [fine_of h1, fine_of h2]
  generalize Nat.log2 f.toNat = e at *
  have e1 : normX (f * 2 ^ k) (e + k) = normX f e := by
    unfold normX
    rw [if_neg (by omega), if_neg (by omega), Int.mul_assoc, ← pow_add', show k + (30 - (e + k)) = 30 - e by omega]
  unfold fineAt
  rw [e1]
  omega
theorem red_near {f base g b : Int} (f0 : 10000 ≤ f) (f1 : f ≤ 20000000) (b0 : 10000 ≤ base) (h : IsRed f base g b) (hg : g ≤ 20000000) : -24 ≤ logV g - logV f + 12000 * b ∧ logV g - logV f + 12000 * b ≤ 0 := by
  obtain ⟨h1, h2, h3 | h3⟩ := h
  · obtain ⟨k, rfl, rfl, _⟩ := h3
    have := near_half (k := k) f1 (by omega)
    unfold logV
    omega
  · obtain ⟨k, rfl, rfl, _⟩ := h3
    have := near_dbl (k := k) (show 0 < f by omega) hg
    unfold logV
    omega
end Go.Proofs.Ytpfpdhgdeaoemaa
