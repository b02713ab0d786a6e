/- The logarithms of two numbers, one of which is the other halved a few times: they differ by that many octaves, and by little more. -/
import Derived.Test.YtpfpdhgdeaoemaaRedMath
namespace Go.Proofs.Ytpfpdhgdeaoemaa

/-- What p stands for is at most M / N times what q stands for. -/
def Gap (M N : Int) (p q : Int × Int) : Prop := p.1 * 2 ^ p.2.toNat * N ≤ M * (q.1 * 2 ^ q.2.toNat)
theorem pow_add' (a b : Nat) : (2 : Int) ^ (a + b) = 2 ^ a * 2 ^ b := Int.pow_add ..
theorem pow_pos' (a : Nat) : (0 : Int) < 2 ^ a := Int.pow_pos (by omega)

/-- A round at most squares. -/
theorem step_up (p : Int × Int) (h0 : 0 ≤ p.1) (h2 : 0 ≤ p.2) : (fstep p).1 * 2 ^ (fstep p).2.toNat * 1073741824 ≤ p.1 * 2 ^ p.2.toNat * (p.1 * 2 ^ p.2.toNat) := by
  obtain ⟨x, r⟩ := p
  simp only at h0 h2
  obtain ⟨n, rfl⟩ := Int.eq_ofNat_of_zero_le h2
  have hs : 0 ≤ x * x := Int.mul_nonneg h0 h0
  have hp := pow_pos' (2 * n)
  have e : x * 2 ^ n * (x * 2 ^ n) = x * x * 2 ^ (2 * n) := by
    rw [show 2 * n = n + n by omega, pow_add']
    rw [Int.mul_assoc, Int.mul_assoc, Int.mul_left_comm (2 ^ n) x]
  show (fstep (x, (n : Int))).1 * 2 ^ (fstep (x, (n : Int))).2.toNat * 1073741824 ≤ x * 2 ^ (n : Int).toNat * (x * 2 ^ (n : Int).toNat)
  rw [show ((n : Int)).toNat = n from rfl, e]
  unfold fstep
  split
  · simp only
    rw [show (2 * (n : Int) + 1).toNat = 2 * n + 1 by omega, pow_add' (2 * n) 1, show (2 : Int) ^ 1 = 2 from rfl]
    have : x * x / 1073741824 / 2 * 2 * 1073741824 ≤ x * x := by omega
    have := Int.mul_le_mul_of_nonneg_right this (Int.le_of_lt hp)
    calc x * x / 1073741824 / 2 * (2 ^ (2 * n) * 2) * 1073741824 = x * x / 1073741824 / 2 * 2 * 1073741824 * 2 ^ (2 * n) := by
          ac_rfl
      _ ≤ _ := this
  · simp only
    rw [show (2 * (n : Int)).toNat = 2 * n by omega]
    have : x * x / 1073741824 * 1073741824 ≤ x * x := by omega
    have := Int.mul_le_mul_of_nonneg_right this (Int.le_of_lt hp)
    calc x * x / 1073741824 * 2 ^ (2 * n) * 1073741824 = x * x / 1073741824 * 1073741824 * 2 ^ (2 * n) := by
          ac_rfl
      _ ≤ _ := this
/-- .. and no less than that but for rounding. -/
theorem step_down (q : Int × Int) (h0 : 1073741824 ≤ q.1) (h1 : q.1 < 2147483648) (h2 : 0 ≤ q.2) : q.1 * 2 ^ q.2.toNat * (q.1 * 2 ^ q.2.toNat) ≤ (fstep q).1 * 2 ^ (fstep q).2.toNat * 1073741825 := by
  obtain ⟨x, r⟩ := q
  simp only at h0 h1 h2
  obtain ⟨n, rfl⟩ := Int.eq_ofNat_of_zero_le h2
  have hq := sq_bd x h0 h1
  have hp := pow_pos' (2 * n)
  have e : x * 2 ^ n * (x * 2 ^ n) = x * x * 2 ^ (2 * n) := by
    rw [show 2 * n = n + n by omega, pow_add']
    rw [Int.mul_assoc, Int.mul_assoc, Int.mul_left_comm (2 ^ n) x]
  show x * 2 ^ (n : Int).toNat * (x * 2 ^ (n : Int).toNat) ≤ (fstep (x, (n : Int))).1 * 2 ^ (fstep (x, (n : Int))).2.toNat * 1073741825
  rw [show ((n : Int)).toNat = n from rfl, e]
  unfold fstep
  split
  · simp only
    rename_i hc
    simp only at hc
    rw [show (2 * (n : Int) + 1).toNat = 2 * n + 1 by omega, pow_add' (2 * n) 1, show (2 : Int) ^ 1 = 2 from rfl]
    have : x * x ≤ x * x / 1073741824 / 2 * 2 * 1073741825 := by omega
    have := Int.mul_le_mul_of_nonneg_right this (Int.le_of_lt hp)
    calc _ ≤ x * x / 1073741824 / 2 * 2 * 1073741825 * 2 ^ (2 * n) := this
      _ = _ := by ac_rfl
  · simp only
    rw [show (2 * (n : Int)).toNat = 2 * n by omega]
    have : x * x ≤ x * x / 1073741824 * 1073741825 := by omega
    have := Int.mul_le_mul_of_nonneg_right this (Int.le_of_lt hp)
    calc _ ≤ x * x / 1073741824 * 1073741825 * 2 ^ (2 * n) := this
      _ = _ := by ac_rfl

/-- In the range of a round. -/
def InR (p : Int × Int) : Prop := 1073741824 ≤ p.1 ∧ p.1 < 2147483648 ∧ 0 ≤ p.2
theorem inR_iter {x : Int} (h0 : 1073741824 ≤ x) (h1 : x < 2147483648) (k : Nat) : InR (fiter k (x, 0)) := by
  have := fiter_bd x h0 h1 k
  exact ⟨this.1, this.2.1, this.2.2.1⟩
theorem val_pos {p : Int × Int} (h : InR p) : 0 ≤ p.1 * 2 ^ p.2.toNat := Int.mul_nonneg (by have := h.1; omega) (Int.le_of_lt (pow_pos' _))
theorem sq_le {a b : Int} (h0 : 0 ≤ a) (h : a ≤ b) : a * a ≤ b * b := Int.mul_le_mul h h h0 (by omega)

theorem gap_step {M N : Int} {p q : Int × Int} (hN : 0 ≤ N) (hp : InR p) (hq : InR q) (h : Gap M N p q) : Gap (M * M * 1073741825) (N * N * 1073741824) (fstep p) (fstep q) := by
  have h1 := step_up p (by have := hp.1; omega) hp.2.2
  have h2 := step_down q hq.1 hq.2.1 hq.2.2
  have a0 := val_pos hp
  unfold Gap at *
  generalize (fstep p).1 * 2 ^ (fstep p).2.toNat = A' at *
  generalize (fstep q).1 * 2 ^ (fstep q).2.toNat = B' at *
  generalize p.1 * 2 ^ p.2.toNat = A at *
  generalize q.1 * 2 ^ q.2.toNat = B at *
  have h3 := sq_le (Int.mul_nonneg a0 hN) h
  have hNN : 0 ≤ N * N := Int.mul_nonneg hN hN
  have hMM : 0 ≤ M * M := by
    rcases Int.le_total 0 M with m | m
    · exact Int.mul_nonneg m m
    · have := Int.mul_nonneg (show 0 ≤ -M by omega) (show 0 ≤ -M by omega)
      rwa [Int.neg_mul_neg] at this
  have h4 := Int.mul_le_mul_of_nonneg_right h1 hNN
  have h5 := Int.mul_le_mul_of_nonneg_left h2 hMM
  have e1 : A' * (N * N * 1073741824) = A' * 1073741824 * (N * N) := by ac_rfl
  have e2 : A * A * (N * N) = A * N * (A * N) := by ac_rfl
  have e3 : M * B * (M * B) = M * M * (B * B) := by ac_rfl
  have e4 : M * M * 1073741825 * B' = M * M * (B' * 1073741825) := by ac_rfl
  rw [e1, e4]
  rw [e2] at h4
  rw [e3] at h3
  exact Int.le_trans h4 (Int.le_trans h3 h5)
theorem gap_weak {M N M' N' : Int} {p q : Int × Int} (hN : 0 < N) (hN' : 0 ≤ N') (hq : InR q) (h : Gap M N p q) (hw : M * N' ≤ M' * N) : Gap M' N' p q := by
  have b0 := val_pos hq
  unfold Gap at *
  generalize p.1 * 2 ^ p.2.toNat = A at *
  generalize q.1 * 2 ^ q.2.toNat = B at *
  have h1 := Int.mul_le_mul_of_nonneg_right h hN'
  have h2 := Int.mul_le_mul_of_nonneg_right hw b0
  have e1 : A * N * N' = A * N' * N := by ac_rfl
  have e2 : M * B * N' = M * N' * B := by ac_rfl
  have e3 : M' * N * B = M' * B * N := by ac_rfl
  rw [e1, e2] at h1
  rw [e3] at h2
  exact Int.le_of_mul_le_mul_right (Int.le_trans h1 h2) hN

theorem gap_next {M N M' N' : Int} {x y : Int} {k : Nat} (hx0 : 1073741824 ≤ x) (hx1 : x < 2147483648) (hy0 : 1073741824 ≤ y) (hy1 : y < 2147483648) (hN : 0 < N) (hN' : 0 ≤ N')
    (h : Gap M N (fiter k (x, 0)) (fiter k (y, 0))) (hw : M * M * 1073741825 * N' ≤ M' * (N * N * 1073741824)) : Gap M' N' (fiter (k + 1) (x, 0)) (fiter (k + 1) (y, 0)) :=
  gap_weak (Int.mul_pos (Int.mul_pos hN hN) (by omega)) hN' (inR_iter hy0 hy1 (k + 1)) (gap_step (Int.le_of_lt hN) (inR_iter hx0 hx1 k) (inR_iter hy0 hy1 k) h) hw
theorem gap_ten {x y : Int} (hx0 : 1073741824 ≤ x) (hx1 : x < 2147483648) (hy0 : 1073741824 ≤ y) (hy1 : y < 2147483648) (h : x ≤ y + 131072) : Gap 2 1 (fiter 10 (x, 0)) (fiter 10 (y, 0)) := by
  have g0 : Gap 1048704 1048576 (fiter 0 (x, 0)) (fiter 0 (y, 0)) := by
    show x * 2 ^ (0 : Int).toNat * 1048576 ≤ 1048704 * (y * 2 ^ (0 : Int).toNat)
    rw [show ((0 : Int)).toNat = 0 from rfl, Int.pow_zero]
    omega
  have g1 := gap_next (M' := 1048833) (N' := 1048576) hx0 hx1 hy0 hy1 (by omega) (by omega) g0 (by decide)
  have g2 := gap_next (M' := 1049091) (N' := 1048576) hx0 hx1 hy0 hy1 (by omega) (by omega) g1 (by decide)
  have g3 := gap_next (M' := 1049607) (N' := 1048576) hx0 hx1 hy0 hy1 (by omega) (by omega) g2 (by decide)
  have g4 := gap_next (M' := 1050640) (N' := 1048576) hx0 hx1 hy0 hy1 (by omega) (by omega) g3 (by decide)
  have g5 := gap_next (M' := 1052709) (N' := 1048576) hx0 hx1 hy0 hy1 (by omega) (by omega) g4 (by decide)
  have g6 := gap_next (M' := 1056859) (N' := 1048576) hx0 hx1 hy0 hy1 (by omega) (by omega) g5 (by decide)
  have g7 := gap_next (M' := 1065208) (N' := 1048576) hx0 hx1 hy0 hy1 (by omega) (by omega) g6 (by decide)
  have g8 := gap_next (M' := 1082104) (N' := 1048576) hx0 hx1 hy0 hy1 (by omega) (by omega) g7 (by decide)
  have g9 := gap_next (M' := 1116705) (N' := 1048576) hx0 hx1 hy0 hy1 (by omega) (by omega) g8 (by decide)
  exact gap_next (M' := 2) (N' := 1) hx0 hx1 hy0 hy1 (by omega) (by omega) g9 (by decide)
theorem gap_pow {x y : Int} (hx0 : 1073741824 ≤ x) (hx1 : x < 2147483648) (hy0 : 1073741824 ≤ y) (hy1 : y < 2147483648) (h : x ≤ y + 131072) : ∀ i : Nat, Gap (2 ^ (2 ^ (i + 1) - 1)) 1 (fiter (10 + i) (x, 0)) (fiter (10 + i) (y, 0))
  | 0 => gap_ten hx0 hx1 hy0 hy1 h
  | i + 1 => by
    have g := gap_pow hx0 hx1 hy0 hy1 h i
    refine gap_next (k := 10 + i) hx0 hx1 hy0 hy1 (by omega) (by omega) g ?_
    have hp : 0 < 2 ^ (i + 1) := Nat.pow_pos (by omega)
    have e : 2 ^ (i + 1 + 1) - 1 = (2 ^ (i + 1) - 1) + (2 ^ (i + 1) - 1) + 1 := by rw [Nat.pow_succ]; omega
    rw [e, pow_add', pow_add', show (2 : Int) ^ 1 = 2 from rfl]
    have hm : (0 : Int) ≤ 2 ^ (2 ^ (i + 1) - 1) * 2 ^ (2 ^ (i + 1) - 1) := Int.mul_nonneg (Int.le_of_lt (pow_pos' _)) (Int.le_of_lt (pow_pos' _))
    generalize (2 : Int) ^ (2 ^ (i + 1) - 1) * 2 ^ (2 ^ (i + 1) - 1) = m at *
    omega
theorem gap_end {D : Nat} {p q : Int × Int} (hp : InR p) (hq : InR q) (h : Gap (2 ^ D) 1 p q) : p.2 ≤ q.2 + D := by
  rcases Int.lt_or_le (q.2 + D) p.2 with hc | hc
  · exfalso
    obtain ⟨p0, p1, p2⟩ := hp
    obtain ⟨q0, q1, q2⟩ := hq
    unfold Gap at h
    have hm : (2 : Int) ^ (D + q.2.toNat + 1) ≤ 2 ^ p.2.toNat := pow_mono _ _ (by omega)
    rw [pow_add', pow_add', show (2 : Int) ^ 1 = 2 from rfl] at hm
    have hD := pow_pos' D
    have hs := pow_pos' q.2.toNat
    have hx : (0 : Int) < 2 ^ D * 2 ^ q.2.toNat := Int.mul_pos hD hs
    have h1 : 1073741824 * 2 ^ p.2.toNat ≤ p.1 * 2 ^ p.2.toNat := Int.mul_le_mul_of_nonneg_right p0 (Int.le_of_lt (pow_pos' _))
    have h2 : q.1 * (2 ^ D * 2 ^ q.2.toNat) < 2147483648 * (2 ^ D * 2 ^ q.2.toNat) := Int.mul_lt_mul_of_pos_right q1 hx
    have e : (2 : Int) ^ D * (q.1 * 2 ^ q.2.toNat) = q.1 * (2 ^ D * 2 ^ q.2.toNat) := Int.mul_left_comm _ _ _
    rw [e] at h
    generalize (2 : Int) ^ D * 2 ^ q.2.toNat = m at *
    generalize (2 : Int) ^ p.2.toNat = n at *
    omega
  · exact hc

/-- Two numbers in the range of a round, little apart. -/
theorem rest_near {x y : Int} (hx1 : x < 2147483648) (hy0 : 1073741824 ≤ y) (h0 : y ≤ x) (h : x ≤ y + 131072) : 0 ≤ (fiter 24 (x, 0)).2 - (fiter 24 (y, 0)).2 ∧ (fiter 24 (x, 0)).2 - (fiter 24 (y, 0)).2 ≤ 32767 := by
  have g := gap_end (D := 2 ^ (14 + 1) - 1) (inR_iter (by omega) hx1 24) (inR_iter hy0 (by omega) 24) (gap_pow (by omega) hx1 hy0 (by omega) h 14)
  have m := fiter_mono y x hy0 (by omega) h0 24
  unfold LexLe at m
  have : ((2 ^ (14 + 1) - 1 : Nat) : Int) = 32767 := by decide
  omega
end Go.Proofs.Ytpfpdhgdeaoemaa
