/- A frequency moved by whole octaves: halved while it is at least twice the base, doubled while it is less than the base. -/
import Derived.Test.YtpfpdhgdeaoemaaRaiseMath
namespace Go.Proofs.Ytpfpdhgdeaoemaa

noncomputable def redG (f base : Int) : Int × Int := by
  classical
  exact if h : ∃ p : Int × Int, IsRed f base p.1 p.2 then h.choose else (0, 0)
theorem red_is {f base g b : Int} (hf : 0 ≤ f) (h : IsRed f base g b) : (redG f base).1 = g ∧ (redG f base).2 = b := by
  have hx : ∃ p : Int × Int, IsRed f base p.1 p.2 := ⟨(g, b), h⟩
  have e : redG f base = hx.choose := by unfold redG; exact dif_pos hx
  have := red_unique hf hx.choose_spec h
  rw [e]
  exact this

/-- After k halvings. -/
def Half (f base x : Int) (k : Nat) : Prop := x = f / 2 ^ k ∧ (k = 0 ∨ base ≤ x) ∧ x + k ≤ f ∧ 0 < x
theorem half_start {f base : Int} (h : 0 < f) : Half f base f 0 := ⟨by simp, .inl rfl, by simp, h⟩
theorem half_next {f base x : Int} {k : Nat} (h : Half f base x k) (hb : 0 < base) (hx : 2 * base ≤ x) : Half f base (x / 2) (k + 1) := by
  obtain ⟨h1, h2, h3, h4⟩ := h
  exact ⟨by rw [half_pow, h1], .inr (by omega), by omega, by omega⟩
/-- While it is doubled, or done. -/
def Mid (f base y b : Int) : Prop := 0 < y ∧ y < 2 * base ∧ -20000000 ≤ b ∧ b ≤ 20000000 ∧ ((base ≤ y ∧ IsRed f base y b) ∨ ∃ j : Nat, y = f * 2 ^ j ∧ b = -(j : Int) ∧ y < base ∧ f < base ∧ j ≤ y)
theorem mid_start {f base x : Int} {k : Nat} (h : Half f base x k) (hf : f ≤ 20000000) (hx : x < 2 * base) : Mid f base x k := by
  obtain ⟨h1, h2, h3, h4⟩ := h
  refine ⟨h4, hx, by omega, by omega, ?_⟩
  by_cases hb : base ≤ x
  · refine .inl ⟨hb, hb, hx, .inl ⟨k, rfl, h1, ?_⟩⟩
    have : 0 ≤ (k : Int) := by omega
    omega
  · have hk : k = 0 := by rcases h2 with h | h <;> omega
    subst hk
    have hxf : x = f := by rw [h1]; simp
    exact .inr ⟨0, by rw [hxf]; simp, rfl, by omega, by omega, by omega⟩
theorem mid_next {f base y b : Int} (h : Mid f base y b) (hb : base ≤ 20000000) (hy : y < base) : Mid f base (y * 2) (b - 1) := by
  obtain ⟨h1, h2, h3, h4, h5⟩ := h
  rcases h5 with ⟨h6, _⟩ | ⟨j, h6, h7, h8, h9, h10⟩
  · omega
  · have e : y * 2 = f * 2 ^ (j + 1) := by rw [Int.pow_succ, ← Int.mul_assoc, ← h6]
    refine ⟨by omega, by omega, by omega, by omega, ?_⟩
    by_cases hc : base ≤ y * 2
    · exact .inl ⟨hc, hc, by omega, .inr ⟨j + 1, by omega, e, h9⟩⟩
    · exact .inr ⟨j + 1, e, by omega, by omega, h9, by omega⟩
theorem mid_end {f base y b : Int} (h : Mid f base y b) (hy : ¬ y < base) : IsRed f base y b := by
  obtain ⟨h1, h2, h3, h4, h5⟩ := h
  rcases h5 with ⟨_, h6⟩ | ⟨j, _, _, h8, _⟩
  · exact h6
  · omega
end Go.Proofs.Ytpfpdhgdeaoemaa
