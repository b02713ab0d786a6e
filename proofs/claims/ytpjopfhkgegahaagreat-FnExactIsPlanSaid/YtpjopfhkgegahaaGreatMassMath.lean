/- Masses: what the volumes, masses and moments of rings are, and how great they may be. -/
import Derived.Test.YtpjopfhkgegahaaGreatG2
import Derived.Test.YtpjopfhkgegahaaGreatDivMath
namespace Go.Proofs.YtpjopfhkgegahaaGreat

theorem near_int (x d : Nat) : (2 * (x : Int) + (d : Int)) / (2 * (d : Int)) = (((2 * x + d) / (2 * d) : Nat) : Int) := by simp
theorem nq_half (x d : Nat) (hd : 0 < d) : nq x d = (((x + d / 2) / d : Nat) : Int) := by
  have h1 : (0 : Int) ≤ (x : Int) := by omega
  have h2 : (0 : Int) < (d : Int) := by omega
  rw [nq_pp _ _ h1 h2, near_int x d]
  congr 1
  rw [show 2 * x + d = d % 2 + (x + d / 2) * 2 by omega, Nat.mul_comm 2 d]
  rw [Nat.div_eq_of_lt_le (k := (x + d / 2) / d)]
  · have := Nat.div_add_mod (x + d / 2) d
    have e : (x + d / 2) / d * (d * 2) = (d * ((x + d / 2) / d)) * 2 := by rw [← Nat.mul_assoc, Nat.mul_comm ((x + d / 2) / d) d]
    rw [e]; omega
  · have := Nat.div_add_mod (x + d / 2) d
    have := Nat.mod_lt (x + d / 2) hd
    have e : ((x + d / 2) / d + 1) * (d * 2) = (d * ((x + d / 2) / d)) * 2 + d * 2 := by rw [Nat.add_mul, ← Nat.mul_assoc, Nat.mul_comm ((x + d / 2) / d) d, Nat.one_mul]
    rw [e]; omega

/-- A nearest quotient by a million lies between. -/
theorem nq_mil (x M : Int) (h0 : 0 ≤ x) (h1 : x ≤ M * 1000000) : 0 ≤ nq x 1000000 ∧ nq x 1000000 ≤ M := by
  rw [nq_pp _ _ h0 (by omega)]; omega
theorem mul_le2 {a b A B : Int} (h0 : 0 ≤ a) (h1 : a ≤ A) (k0 : 0 ≤ b) (k1 : b ≤ B) : 0 ≤ a * b ∧ a * b ≤ A * B :=
  ⟨Int.mul_nonneg h0 k0, Int.le_trans (Int.mul_le_mul_of_nonneg_right h1 k0) (Int.mul_le_mul_of_nonneg_left k1 (by omega))⟩

def tubeV (sq h : Int) : Int := nq (nq (sq * h) 1000000 * 3141593) 1000000
def secR (r : Rg) : Int := r.1 * r.1 - r.2.1 * r.2.1
def inR (r : Rg) : Int := r.2.1 * r.2.1
def volR (r : Rg) : Int := tubeV (secR r) r.2.2
def holR (r : Rg) : Int := tubeV (inR r) r.2.2
def massV (v d : Int) : Int := nq (v * d) 1000000
def armR (r : Rg) : Int := nq (r.1 * r.1 + r.2.1 * r.2.1) 20000
theorem sq_bd {x : Int} (h0 : 0 ≤ x) (h1 : x ≤ 150000) : 0 ≤ x * x ∧ x * x ≤ 22500000000 := mul_le2 (A := 150000) (B := 150000) h0 h1 h0 h1
theorem sec_bd {r : Rg} (h : ringB r = true) : 90000 ≤ secR r ∧ secR r ≤ 22500000000 := by
  obtain ⟨⟨a, b⟩, ⟨c, d⟩, -, -⟩ := ring_iff.1 h
  have h1 := sq_bd (x := r.1) (by omega) b
  have h2 := sq_bd (x := r.2.1) c (by omega)
  have h3 : r.2.1 * r.2.1 ≤ (r.1 - 100) * (r.1 - 100) := (mul_le2 c d c d).2
  have h4 : (r.1 - 100) * (r.1 - 100) = r.1 * r.1 - 200 * r.1 + 10000 := by
    rw [Int.sub_mul, Int.mul_sub]; omega
  unfold secR; omega
theorem in_bd {r : Rg} (h : ringB r = true) : 0 ≤ inR r ∧ inR r ≤ 22500000000 := by
  obtain ⟨⟨a, b⟩, ⟨c, d⟩, -, -⟩ := ring_iff.1 h
  exact sq_bd c (by omega)
theorem tube_in {sq h : Int} (h0 : 0 ≤ sq) (h1 : sq ≤ 22500000000) (k0 : 0 ≤ h) (k1 : h ≤ 300000) : (0 ≤ sq * h ∧ sq * h ≤ 6750000000000000) ∧ (0 ≤ nq (sq * h) 1000000 ∧ nq (sq * h) 1000000 ≤ 6750000000) ∧ 0 ≤ tubeV sq h ∧ tubeV sq h ≤ 21205752750 := by
  have h2 := mul_le2 h0 h1 k0 k1
  have h3 := nq_mil (sq * h) 6750000000 h2.1 (by omega)
  have h4 := nq_mil (nq (sq * h) 1000000 * 3141593) 21205752750 (by omega) (by omega)
  exact ⟨by omega, h3, h4⟩
theorem vol_bd {r : Rg} (h : ringB r = true) : 3 ≤ volR r ∧ volR r ≤ 21205752750 := by
  have hs := sec_bd h
  obtain ⟨-, -, e, f⟩ := ring_iff.1 h
  have ht := tube_in (sq := secR r) (h := r.2.2) (by omega) hs.2 (by omega) f
  refine ⟨?_, ht.2.2.2⟩
  have h1 : 900000 ≤ secR r * r.2.2 := by
    have a1 := Int.mul_le_mul_of_nonneg_left e (show 0 ≤ secR r by omega)
    omega
  have h2 : 1 ≤ nq (secR r * r.2.2) 1000000 := by rw [nq_pp _ _ (by omega) (by omega)]; omega
  unfold volR tubeV
  rw [nq_pp (nq (secR r * r.2.2) 1000000 * 3141593) _ (by omega) (by omega)]; omega
theorem hol_bd {r : Rg} (h : ringB r = true) : 0 ≤ holR r ∧ holR r ≤ 21205752750 := by
  have hs := in_bd h
  obtain ⟨-, -, e, f⟩ := ring_iff.1 h
  exact (tube_in (sq := inR r) (h := r.2.2) hs.1 hs.2 (by omega) f).2.2
theorem mass_bd {v d M : Int} (h0 : 0 ≤ v) (h1 : v ≤ M) (k0 : 0 ≤ d) (k1 : d ≤ 20000) : (0 ≤ v * d ∧ v * d ≤ M * 20000) ∧ 0 ≤ massV v d ∧ massV v d ≤ M := by
  have h2 := mul_le2 h0 h1 k0 k1
  exact ⟨h2, nq_mil _ M h2.1 (by omega)⟩
theorem mass_mono {v d e : Int} (h0 : 0 ≤ v) (k0 : 0 ≤ d) (k1 : d ≤ e) : massV v d ≤ massV v e := by
  have h1 := Int.mul_le_mul_of_nonneg_left k1 h0
  have h2 := Int.mul_nonneg h0 k0
  unfold massV
  rw [nq_pp _ _ h2 (by omega), nq_pp _ _ (by omega) (by omega)]; omega
theorem arm_bd {r : Rg} (h : ringB r = true) : (0 ≤ r.1 * r.1 + r.2.1 * r.2.1 ∧ r.1 * r.1 + r.2.1 * r.2.1 ≤ 45000000000) ∧ 0 ≤ armR r ∧ armR r ≤ 2250000 := by
  obtain ⟨⟨a, b⟩, ⟨c, d⟩, -, -⟩ := ring_iff.1 h
  have h1 := sq_bd (x := r.1) (by omega) b
  have h2 := sq_bd (x := r.2.1) c (by omega)
  refine ⟨by omega, ?_⟩
  unfold armR
  rw [nq_pp _ _ (by omega) (by omega)]; omega

/-- A sum over rings; each is told with the height at which it begins. -/
def sumF (f : Int → Rg → Int) : Int → List Rg → Int
  | _, [] => 0
  | b, r :: rs => f b r + sumF f (b + r.2.2) rs
theorem sumF_append (f : Int → Rg → Int) (b : Int) (xs ys : List Rg) : sumF f b (xs ++ ys) = sumF f b xs + sumF f (b + heights xs) ys := by
  induction xs generalizing b with
  | nil => simp [sumF, heights]
  | cons r xs ih => simp only [List.cons_append, sumF, heights, ih, ← Int.add_assoc]
theorem sumF_next (f : Int → Rg → Int) (rs : List Rg) (k : Nat) (h : k < rs.length) : sumF f 0 (rs.take (k + 1)) = sumF f 0 (rs.take k) + f (heights (rs.take k)) (rs.getD k zR) := by
  rw [List.take_succ_eq_append_getElem h, sumF_append]
  simp [sumF, List.getD, h]
theorem sumF_bd (f : Int → Rg → Int) (rs : List Rg) (M : Int) (hf : ∀ i, i < rs.length → 0 ≤ f (heights (rs.take i)) (rs.getD i zR) ∧ f (heights (rs.take i)) (rs.getD i zR) ≤ M) (k : Nat) (hk : k ≤ rs.length) : 0 ≤ sumF f 0 (rs.take k) ∧ sumF f 0 (rs.take k) ≤ M * k := by
  induction k with
  | zero => simp [sumF]
  | succ k ih =>
    have i1 := ih (by omega)
    have i2 := hf k (by omega)
    rw [sumF_next f rs k (by omega)]
    have e : M * ((k + 1 : Nat) : Int) = M * k + M := by rw [Int.natCast_add, Int.mul_add]; simp
    omega
theorem sumF_all (f : Int → Rg → Int) (rs : List Rg) : sumF f 0 (rs.take rs.length) = sumF f 0 rs := by rw [List.take_length]
theorem sumF_same {f g : Int → Rg → Int} (rs : List Rg) (k : Nat) (hk : k ≤ rs.length) (h : ∀ i, i < rs.length → f (heights (rs.take i)) (rs.getD i zR) = g (heights (rs.take i)) (rs.getD i zR)) : sumF f 0 (rs.take k) = sumF g 0 (rs.take k) := by
  induction k with
  | zero => rfl
  | succ k ih => rw [sumF_next f rs k (by omega), sumF_next g rs k (by omega), ih (by omega), h k (by omega)]
/-- The volume of all rings. -/
def volP (rs : List Rg) : Int := sumF (fun _ r => volR r) 0 rs
theorem volP_bd {rs : List Rg} (h : ∀ i, i < rs.length → ringB (rs.getD i zR) = true) (h1 : 1 ≤ rs.length) (h2 : rs.length ≤ 32) : 3 ≤ volP rs ∧ volP rs ≤ 678584088000 := by
  have b := sumF_bd (fun _ r => volR r) rs 21205752750 (fun i hi => by have := vol_bd (h i hi); omega) rs.length (Nat.le_refl _)
  rw [sumF_all] at b
  refine ⟨?_, by unfold volP; omega⟩
  match rs, h1 with
  | r :: rs, _ =>
    have b0 := vol_bd (h 0 (by simp))
    have e : volP (r :: rs) = volR r + sumF (fun _ r => volR r) (0 + r.2.2) rs := rfl
    have nn : ∀ (l : List Rg) (c : Int), (∀ x ∈ l, ringB x = true) → 0 ≤ sumF (fun _ r => volR r) c l := by
      intro l
      induction l with
      | nil => intro c _; simp [sumF]
      | cons y l ih =>
        intro c hy
        have := vol_bd (hy y (by simp))
        have := ih (c + y.2.2) (fun x hx => hy x (by simp [hx]))
        simp only [sumF]; omega
    have := nn rs (0 + r.2.2) (fun x hx => by
      obtain ⟨i, hi, rfl⟩ := List.getElem_of_mem hx
      have := h (i + 1) (by simpa using hi)
      simpa [List.getD, hi] using this)
    simp only [List.getD_cons_zero] at b0
    omega
end Go.Proofs.YtpjopfhkgegahaaGreat
