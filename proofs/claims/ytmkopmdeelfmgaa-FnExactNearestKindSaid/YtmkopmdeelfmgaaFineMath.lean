/- The binary logarithm in 24 bits: its rounds, its bounds, and that it never falls. -/
import Derived.IntWalk
namespace Go.Proofs.Ytmkopmdeelfmgaa

/-- One round on x and r. -/
def fstep (p : Int × Int) : Int × Int := if 2147483648 ≤ p.1 * p.1 / 1073741824 then (p.1 * p.1 / 1073741824 / 2, 2 * p.2 + 1) else (p.1 * p.1 / 1073741824, 2 * p.2)
def fiter : Nat → Int × Int → Int × Int
  | 0, p => p
  | k + 1, p => fstep (fiter k p)
def normX (n : Int) (e : Nat) : Int := if 30 < e then n / 2 ^ (e - 30) else n * 2 ^ (30 - e)
def fineAt (n : Int) (e : Nat) : Int := e * 16777216 + (fiter 24 (normX n e, 0)).2
def fineV (n : Int) : Int := fineAt n (Nat.log2 n.toNat)

theorem sq_bd (x : Int) (h0 : 1073741824 ≤ x) (h1 : x < 2147483648) : 1073741824 ≤ x * x / 1073741824 ∧ x * x / 1073741824 < 4294967296 ∧ x * x < 4611686018427387904 ∧ 0 ≤ x * x := by
  have a := Int.mul_le_mul h0 h0 (by omega) (by omega)
  have b := Int.mul_le_mul (show x ≤ 2147483647 by omega) (show x ≤ 2147483647 by omega) (by omega) (by omega)
  omega
theorem fstep_bd (p : Int × Int) (M : Int) (h0 : 1073741824 ≤ p.1) (h1 : p.1 < 2147483648) (h2 : 0 ≤ p.2) (h3 : p.2 < M) :
    1073741824 ≤ (fstep p).1 ∧ (fstep p).1 < 2147483648 ∧ 0 ≤ (fstep p).2 ∧ (fstep p).2 < 2 * M := by
  have := sq_bd p.1 h0 h1
  unfold fstep
  split <;> simp only <;> omega
theorem fiter_bd (x : Int) (h0 : 1073741824 ≤ x) (h1 : x < 2147483648) : ∀ k : Nat, 1073741824 ≤ (fiter k (x, 0)).1 ∧ (fiter k (x, 0)).1 < 2147483648 ∧ 0 ≤ (fiter k (x, 0)).2 ∧ (fiter k (x, 0)).2 < 2 ^ k
  | 0 => by simp [fiter]; omega
  | k + 1 => by
    obtain ⟨a, b, c, d⟩ := fiter_bd x h0 h1 k
    have := fstep_bd (fiter k (x, 0)) (2 ^ k) a b c d
    rw [Int.pow_succ]
    simp only [fiter]
    omega

/-- (x, r) is at most (x', r'), r first. -/
def LexLe (p q : Int × Int) : Prop := p.2 < q.2 ∨ (p.2 = q.2 ∧ p.1 ≤ q.1)
theorem fstep_mono (p q : Int × Int) (h : LexLe p q) (h0 : 0 ≤ p.1) : LexLe (fstep p) (fstep q) := by
  unfold LexLe at h ⊢
  rcases h with h | ⟨h1, h2⟩
  · left
    unfold fstep
    split <;> split <;> simp only <;> omega
  · have hs : p.1 * p.1 ≤ q.1 * q.1 := Int.mul_le_mul h2 h2 h0 (by omega)
    have hd : p.1 * p.1 / 1073741824 ≤ q.1 * q.1 / 1073741824 := Int.ediv_le_ediv (by omega) hs
    unfold fstep
    split <;> split <;> simp only <;> omega
theorem fiter_mono (x y : Int) (h0 : 1073741824 ≤ x) (h1 : x < 2147483648) (h : x ≤ y) : ∀ k : Nat, LexLe (fiter k (x, 0)) (fiter k (y, 0))
  | 0 => .inr ⟨rfl, h⟩
  | k + 1 => fstep_mono _ _ (fiter_mono x y h0 h1 h k) (by have := fiter_bd x h0 h1 k; omega)

/-- e is the exponent of the greatest power of two that is at most n. -/
def IsExp (n : Int) (e : Nat) : Prop := (2 : Int) ^ e ≤ n ∧ n < 2 ^ (e + 1)
theorem exp_of (n : Int) (h : 0 < n) : IsExp n (Nat.log2 n.toNat) := by
  have h1 := Nat.log2_self_le (n := n.toNat) (by omega)
  have h2 := Nat.lt_log2_self (n := n.toNat)
  refine ⟨?_, ?_⟩
  · have : ((2 ^ Nat.log2 n.toNat : Nat) : Int) ≤ (n.toNat : Int) := by exact_mod_cast h1
    rw [Int.natCast_pow] at this
    have e : (n.toNat : Int) = n := Int.toNat_of_nonneg (by omega)
    rw [e] at this
    exact this
  · have : (n.toNat : Int) < ((2 ^ (Nat.log2 n.toNat + 1) : Nat) : Int) := by exact_mod_cast h2
    rw [Int.natCast_pow] at this
    have e : (n.toNat : Int) = n := Int.toNat_of_nonneg (by omega)
    rw [e] at this
    exact this
theorem pow_mono (a b : Nat) (h : a ≤ b) : (2 : Int) ^ a ≤ 2 ^ b := by
  have h1 := Nat.pow_le_pow_right (n := 2) (by omega) h
  have : ((2 ^ a : Nat) : Int) ≤ ((2 ^ b : Nat) : Int) := by exact_mod_cast h1
  rw [Int.natCast_pow, Int.natCast_pow] at this
  exact this
theorem exp_le {n m : Int} {e f : Nat} (h : IsExp n e) (k : IsExp m f) (hnm : n ≤ m) : e ≤ f := by
  by_cases hc : e ≤ f
  · exact hc
  · have := pow_mono (f + 1) e (by omega)
    have := h.1
    have := k.2
    omega
theorem exp_unique {n : Int} {e f : Nat} (h : IsExp n e) (k : IsExp n f) : e = f := by
  have := exp_le h k (Int.le_refl n)
  have := exp_le k h (Int.le_refl n)
  omega
theorem fine_of {n : Int} {e : Nat} (h : IsExp n e) : fineV n = fineAt n e := by
  have hp : (0 : Int) < 2 ^ e := Int.pow_pos (by omega)
  have h1 := h.1
  have : Nat.log2 n.toNat = e := exp_unique (exp_of n (by omega)) h
  unfold fineV
  rw [this]

theorem norm_bd {n : Int} {e : Nat} (h : IsExp n e) : 1073741824 ≤ normX n e ∧ normX n e < 2147483648 := by
  obtain ⟨h1, h2⟩ := h
  unfold normX
  split
  · rename_i he
    have hp : (0 : Int) < 2 ^ (e - 30) := Int.pow_pos (by omega)
    have e1 : (2 : Int) ^ e = 1073741824 * 2 ^ (e - 30) := by
      conv => lhs; rw [show e = 30 + (e - 30) by omega, Int.pow_add]
      rfl
    rw [Int.pow_succ] at h2
    constructor
    · apply Int.le_ediv_of_mul_le hp; omega
    · apply Int.ediv_lt_of_lt_mul hp; omega
  · rename_i he
    have hp : (0 : Int) < 2 ^ (30 - e) := Int.pow_pos (by omega)
    have e1 : (2 : Int) ^ e * 2 ^ (30 - e) = 1073741824 := by
      rw [← Int.pow_add, show e + (30 - e) = 30 by omega]; rfl
    rw [Int.pow_succ] at h2
    have a := Int.mul_le_mul_of_nonneg_right h1 (Int.le_of_lt hp)
    have b := Int.mul_lt_mul_of_pos_right h2 hp
    rw [show (2 : Int) ^ e * 2 * 2 ^ (30 - e) = 2 ^ e * 2 ^ (30 - e) * 2 by rw [Int.mul_assoc, Int.mul_comm 2, ← Int.mul_assoc]] at b
    omega
theorem norm_mono {n m : Int} {e : Nat} (h : n ≤ m) : normX n e ≤ normX m e := by
  unfold normX
  split
  · exact Int.ediv_le_ediv (Int.pow_pos (by omega)) h
  · exact Int.mul_le_mul_of_nonneg_right h (Int.le_of_lt (Int.pow_pos (by omega)))
theorem fineAt_bd {n : Int} {e : Nat} (h : IsExp n e) : (e : Int) * 16777216 ≤ fineAt n e ∧ fineAt n e < ((e : Int) + 1) * 16777216 := by
  obtain ⟨a, b⟩ := norm_bd h
  have := fiter_bd (normX n e) a b 24
  unfold fineAt
  rw [show (2 : Int) ^ 24 = 16777216 from rfl] at this
  omega
theorem fine_mono {n m : Int} (h0 : 0 < n) (h : n ≤ m) : fineV n ≤ fineV m := by
  have hn := exp_of n h0
  have hm := exp_of m (by omega)
  rw [fine_of hn, fine_of hm]
  generalize Nat.log2 n.toNat = e at *
  generalize Nat.log2 m.toNat = f at *
  have hle := exp_le hn hm h
  by_cases hef : e = f
  · subst hef
    obtain ⟨a, b⟩ := norm_bd hn
    have := fiter_mono (normX n e) (normX m e) a b (norm_mono h) 24
    unfold LexLe at this
    unfold fineAt
    omega
  · have := fineAt_bd hn
    have := fineAt_bd hm
    omega
theorem exp_40 {n : Int} {e : Nat} (h : IsExp n e) (hn : n ≤ 1000000000000) : e ≤ 39 := by
  by_cases hc : e ≤ 39
  · exact hc
  · have := pow_mono 40 e (by omega)
    rw [show (2 : Int) ^ 40 = 1099511627776 from rfl] at this
    have := h.1
    omega
theorem fine_bd {n : Int} (h0 : 0 < n) (h1 : n ≤ 1000000000000) : 0 ≤ fineV n ∧ fineV n < 671088640 := by
  have h := exp_of n h0
  rw [fine_of h]
  have := exp_40 h h1
  have := fineAt_bd h
  omega

/-- The logarithm in tenths of a cent. -/
def logV (n : Int) : Int := 12000 * fineV n / 16777216
theorem log_bd {n : Int} (h0 : 0 < n) (h1 : n ≤ 1000000000000) : 0 ≤ logV n ∧ logV n < 480000 := by
  have := fine_bd h0 h1
  unfold logV
  omega
theorem log_mono {n m : Int} (h0 : 0 < n) (h : n ≤ m) : logV n ≤ logV m := by
  have := fine_mono h0 h
  unfold logV
  omega
end Go.Proofs.Ytmkopmdeelfmgaa
