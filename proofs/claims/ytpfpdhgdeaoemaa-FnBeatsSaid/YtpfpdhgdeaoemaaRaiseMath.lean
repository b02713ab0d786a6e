/- Raising a frequency: the least one whose logarithm is large enough; moving one by octaves. -/
import Derived.Test.YtpfpdhgdeaoemaaFineMath
namespace Go.Proofs.Ytpfpdhgdeaoemaa

def upV (t : Int) : Int := -((-(t * 16777216)) / 12000)
def wantV (f t : Int) : Int := fineV f + upV t
def IsLeast (want g : Int) : Prop := 10000 ≤ g ∧ g ≤ 20000000 ∧ want ≤ fineV g ∧ ∀ m, 10000 ≤ m → m < g → fineV m < want
def outWant (want : Int) : Bool := decide (want < fineV 10000) || decide (fineV 20000000 < want)
theorem least_unique {want a b : Int} (ha : IsLeast want a) (hb : IsLeast want b) : a = b := by
  obtain ⟨a0, a1, a2, a3⟩ := ha
  obtain ⟨b0, b1, b2, b3⟩ := hb
  rcases Int.lt_trichotomy a b with h | h | h
  · have := b3 a a0 h; omega
  · exact h
  · have := a3 b b0 h; omega
theorem least_of {want g : Int} (h0 : 10000 ≤ g) (h1 : g ≤ 20000000) (h2 : want ≤ fineV g) (h3 : g = 10000 ∨ fineV (g - 1) < want) : IsLeast want g :=
  ⟨h0, h1, h2, fun m m0 m1 => by
    rcases h3 with rfl | h3
    · omega
    · have := fine_mono (n := m) (m := g - 1) (by omega) (by omega)
      omega⟩
/-- The quotient rounded up, as it is reckoned: towards 0, and one more if it is positive and not exact. -/
theorem up_neg (t : Int) (h : t ≤ 0) : (t * 16777216).tdiv 12000 = upV t := by
  unfold upV
  obtain ⟨u, rfl⟩ : ∃ u : Int, t = -u := ⟨-t, by omega⟩
  rw [Int.neg_mul, Int.neg_neg, Int.neg_tdiv, Int.tdiv_eq_ediv_of_nonneg (by omega)]
theorem up_pos (t : Int) (h : 0 < t) : (if (t * 16777216).tdiv 12000 * 12000 < t * 16777216 then (t * 16777216).tdiv 12000 + 1 else (t * 16777216).tdiv 12000) = upV t := by
  rw [Int.tdiv_eq_ediv_of_nonneg (by omega)]
  unfold upV
  split <;> omega
theorem up_bd (t : Int) (h0 : -120000 ≤ t) (h1 : t ≤ 120000) : -167772160 ≤ upV t ∧ upV t ≤ 167772160 := by
  unfold upV
  omega

/-- The frequency g, and by how many octaves f has been lowered to it. -/
def IsRed (f base g by' : Int) : Prop := base ≤ g ∧ g < 2 * base ∧ ((∃ k : Nat, by' = k ∧ g = f / 2 ^ k ∧ base ≤ f) ∨ ∃ k : Nat, by' = -(k : Int) ∧ g = f * 2 ^ k ∧ f < base)
theorem half_pow (f : Int) (k : Nat) : f / 2 ^ (k + 1) = f / 2 ^ k / 2 := by
  rw [Int.pow_succ, Int.ediv_ediv_of_nonneg (Int.le_of_lt (Int.pow_pos (by omega)))]
theorem half_le (f : Int) (h : 0 ≤ f) : ∀ j k : Nat, f / 2 ^ (k + j) ≤ f / 2 ^ k
  | 0, k => Int.le_refl _
  | j + 1, k => by
    have := half_le f h j k
    have h2 : 0 ≤ f / 2 ^ (k + j) := Int.ediv_nonneg h (Int.le_of_lt (Int.pow_pos (by omega)))
    rw [← Nat.add_assoc, half_pow]
    omega
theorem dbl_le (f : Int) (h : 0 ≤ f) : ∀ j k : Nat, f * 2 ^ k ≤ f * 2 ^ (k + j)
  | 0, k => Int.le_refl _
  | j + 1, k => by
    have := dbl_le f h j k
    have h2 : 0 ≤ f * 2 ^ (k + j) := Int.mul_nonneg h (Int.le_of_lt (Int.pow_pos (by omega)))
    rw [← Nat.add_assoc, Int.pow_succ, ← Int.mul_assoc]
    omega
theorem red_unique {f base g b g' b' : Int} (hf : 0 ≤ f) (h : IsRed f base g b) (h' : IsRed f base g' b') : g = g' ∧ b = b' := by
  obtain ⟨g0, g1, h⟩ := h
  obtain ⟨g0', g1', h'⟩ := h'
  rcases h with ⟨k, rfl, rfl, hb⟩ | ⟨k, rfl, rfl, hb⟩
  · rcases h' with ⟨k', rfl, rfl, _⟩ | ⟨k', _, _, hb'⟩
    · have key : ∀ i j : Nat, i < j → f / 2 ^ i < 2 * base → base ≤ f / 2 ^ j → False := fun i j hij hi hj => by
        have := half_le f hf (j - (i + 1)) (i + 1)
        rw [show i + 1 + (j - (i + 1)) = j by omega, half_pow] at this
        omega
      rcases Nat.lt_trichotomy k k' with hk | hk | hk
      · exact (key k k' hk g1 g0').elim
      · subst hk; exact ⟨rfl, rfl⟩
      · exact (key k' k hk g1' g0).elim
    · omega
  · rcases h' with ⟨k', _, _, hb'⟩ | ⟨k', rfl, rfl, _⟩
    · omega
    · have key : ∀ i j : Nat, i < j → base ≤ f * 2 ^ i → f * 2 ^ j < 2 * base → False := fun i j hij hi hj => by
        have := dbl_le f hf (j - (i + 1)) (i + 1)
        rw [show i + 1 + (j - (i + 1)) = j by omega, Int.pow_succ, ← Int.mul_assoc] at this
        omega
      rcases Nat.lt_trichotomy k k' with hk | hk | hk
      · exact (key k k' hk g0 g1').elim
      · subst hk; exact ⟨rfl, rfl⟩
      · exact (key k' k hk g0' g1).elim
end Go.Proofs.Ytpfpdhgdeaoemaa
