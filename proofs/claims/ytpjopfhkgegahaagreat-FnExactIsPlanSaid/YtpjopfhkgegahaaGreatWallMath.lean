/- Zones of a profile, and the mean walls of them. -/
import Derived.Test.YtpjopfhkgegahaaGreatModMath
import Derived.Test.YtpjopfhkgegahaaGreatG2
import Derived.Test.YtpjopfhkgegahaaGreatDivMath
namespace Go.Proofs.YtpjopfhkgegahaaGreat
open Go.ChangeShapes Go.WideShapes Go.ChangeAt Go.RowKit

/-- The walls of the rings from a on, before b. -/
def wallsTo (rs : List Rg) (a : Nat) : Nat → Int
  | 0 => 0
  | k + 1 => wallsTo rs a k + ((rs.getD (a + k) zR).1 - (rs.getD (a + k) zR).2.1)
/-- Where zone z begins, and where it ends. -/
def zBeg (zs : List Int) (z : Nat) : Nat := (zs.getD z 0).toNat
def zEnd (zs : List Int) (n z : Nat) : Nat := if z + 1 < zs.length then zBeg zs (z + 1) else n
def zLen (zs : List Int) (n z : Nat) : Nat := zEnd zs n z - zBeg zs z
def zWall (rs : List Rg) (zs : List Int) (z : Nat) : Int := nq (wallsTo rs (zBeg zs z) (zLen zs rs.length z)) (zLen zs rs.length z)
def zWalls (rs : List Rg) (zs : List Int) : List Int := (List.range zs.length).map (zWall rs zs)
theorem zWalls_len (rs : List Rg) (zs : List Int) : (zWalls rs zs).length = zs.length := by simp [zWalls]
theorem zWalls_get (rs : List Rg) (zs : List Int) (j : Nat) (h : j < zs.length) : (zWalls rs zs).getD j 0 = zWall rs zs j := by simp [zWalls, List.getD, h]
theorem zWalls_take (rs : List Rg) (zs : List Int) (k : Nat) (h : k < zs.length) : (zWalls rs zs).take (k + 1) = (zWalls rs zs).take k ++ [zWall rs zs k] := by
  rw [List.take_succ_eq_append_getElem (by rw [zWalls_len]; exact h)]
  simp [zWalls]
/-- Zones of a profile of n rings. -/
def fitB (n : Nat) (zs : List Int) : Bool := zonesB zs && decide (zs.getD (zs.length - 1) 0 < n)
theorem fit_iff {n : Nat} {zs : List Int} : fitB n zs = true ↔ zonesB zs = true ∧ zs.getD (zs.length - 1) 0 < n := by unfold fitB; rw [Bool.and_eq_true, decide_eq_true_eq]
theorem rises_mono {lo hi : Int} {zs : List Int} (h : risesB lo hi zs = true) : ∀ j, 0 < j → j < zs.length → zs.getD (j - 1) 0 < zs.getD j 0 := by
  intro j h0 hj
  have := rises_at h j hj
  unfold riseAt at this
  rw [Bool.and_eq_true, Bool.or_eq_true, decide_eq_true_eq, decide_eq_true_eq] at this
  rcases this.2 with e | e
  · omega
  · exact e
theorem rises_in {lo hi : Int} {zs : List Int} (h : risesB lo hi zs = true) (j : Nat) (hj : j < zs.length) : lo ≤ zs.getD j 0 ∧ zs.getD j 0 ≤ hi := by
  have := rises_at h j hj
  unfold riseAt at this
  rw [Bool.and_eq_true] at this
  exact inB_iff.1 this.1
theorem mono_leW {zs : List Int} {n : Nat} (h : ∀ j, 0 < j → j < n → zs.getD (j - 1) 0 < zs.getD j 0) (i j : Nat) (hij : i ≤ j) (hj : j < n) : zs.getD i 0 ≤ zs.getD j 0 := by
  induction j with
  | zero => obtain rfl : i = 0 := by omega
            exact Int.le_refl _
  | succ j ih =>
    by_cases e : i = j + 1
    · subst e; exact Int.le_refl _
    · have h1 := ih (by omega) (by omega)
      have h2 := h (j + 1) (by omega) hj
      rw [Nat.add_sub_cancel] at h2
      omega
/-- The facts of zones that fit. -/
theorem fit_facts {n : Nat} {zs : List Int} (h : fitB n zs = true) : (1 ≤ zs.length ∧ zs.length ≤ 8) ∧ zs.getD 0 0 = 0 ∧ (∀ j, j < zs.length → 0 ≤ zs.getD j 0 ∧ zs.getD j 0 < n) ∧ ∀ j, 0 < j → j < zs.length → zs.getD (j - 1) 0 < zs.getD j 0 := by
  obtain ⟨h1, h2⟩ := fit_iff.1 h
  obtain ⟨h3, h4⟩ := zones_rise h1
  have hl := zones_len h1
  have hm := rises_mono h4
  refine ⟨hl, h3, fun j hj => ⟨(rises_in h4 j hj).1, ?_⟩, hm⟩
  have := mono_leW hm j (zs.length - 1) (by omega) (by omega)
  omega
theorem zbeg_int {n : Nat} {zs : List Int} (h : fitB n zs = true) (z : Nat) (hz : z < zs.length) : (zBeg zs z : Int) = zs.getD z 0 ∧ zBeg zs z < n := by
  have := (fit_facts h).2.2.1 z hz
  unfold zBeg
  omega
theorem zone_span {n : Nat} {zs : List Int} (h : fitB n zs = true) (z : Nat) (hz : z < zs.length) : zBeg zs z < zEnd zs n z ∧ zEnd zs n z ≤ n := by
  obtain ⟨-, -, h3, h4⟩ := fit_facts h
  have hb := zbeg_int h z hz
  unfold zEnd
  by_cases hl : z + 1 < zs.length
  · rw [if_pos hl]
    have h5 := h4 (z + 1) (by omega) hl
    rw [Nat.add_sub_cancel] at h5
    have h6 := zbeg_int h (z + 1) hl
    omega
  · rw [if_neg hl]; omega
theorem wallsTo_bd {rs : List Rg} (h : ∀ i, i < rs.length → ringB (rs.getD i zR) = true) (a k : Nat) (hk : a + k ≤ rs.length) : 0 ≤ wallsTo rs a k ∧ wallsTo rs a k ≤ 150000 * k := by
  induction k with
  | zero => simp [wallsTo]
  | succ k ih =>
    have i1 := ih (by omega)
    have i2 := ring_iff.1 (h (a + k) (by omega))
    simp only [wallsTo]
    omega
/-- The reference model's own words for zones that fit. -/
theorem fit_spec {n : Nat} {zs : List Int} (hn : n ≤ 32) : fitB n zs = (decide (1 ≤ zs.length ∧ zs.length ≤ 8) && (decide (zs.getD 0 0 = 0) && risesB 0 ((n : Int) - 1) zs)) := by
  rw [Bool.eq_iff_iff]
  constructor
  · intro h
    obtain ⟨h1, h2, h3, h4⟩ := fit_facts h
    rw [Bool.and_eq_true, Bool.and_eq_true, decide_eq_true_eq, decide_eq_true_eq]
    refine ⟨h1, h2, rises_true fun j hj => ?_⟩
    have := h3 j hj
    by_cases e : j = 0
    · subst e; exact riseAt_zero (inB_true (by omega))
    · exact riseAt_yes (inB_true (by omega)) (h4 j (by omega) hj)
  · intro h
    rw [Bool.and_eq_true, Bool.and_eq_true, decide_eq_true_eq, decide_eq_true_eq] at h
    obtain ⟨h1, h2, h3⟩ := h
    refine fit_iff.2 ⟨?_, ?_⟩
    · rw [zones_end h1 h2]
      refine rises_true fun j hj => ?_
      have := rises_in h3 j hj
      by_cases e : j = 0
      · subst e; exact riseAt_zero (inB_true (by omega))
      · exact riseAt_yes (inB_true (by omega)) (rises_mono h3 j (by omega) hj)
    · have := rises_in h3 (zs.length - 1) (by omega)
      omega
theorem nq_pos {a b M : Int} (ha : 0 ≤ a) (hb : 0 < b) (hM : a ≤ M * b) (_hM0 : 0 ≤ M) : 0 ≤ nq a b ∧ nq a b ≤ M := by
  rw [nq_pp a b ha hb]
  refine ⟨Int.ediv_nonneg (by omega) (by omega), ?_⟩
  have h1 : 2 * a + b < (M + 1) * (2 * b) := by
    have e : (M + 1) * (2 * b) = 2 * (M * b) + 2 * b := by rw [Int.add_mul, Int.one_mul, Int.mul_left_comm]
    rw [e]; omega
  have := (Int.ediv_lt_iff_lt_mul (show 0 < 2 * b by omega)).2 h1
  omega
theorem zWall_bd {rs : List Rg} {zs : List Int} (h : ∀ i, i < rs.length → ringB (rs.getD i zR) = true) (hf : fitB rs.length zs = true) (z : Nat) (hz : z < zs.length) : 0 ≤ zWall rs zs z ∧ zWall rs zs z ≤ 150000 := by
  obtain ⟨h1, h2⟩ := zone_span hf z hz
  have hb := wallsTo_bd h (zBeg zs z) (zLen zs rs.length z) (by unfold zLen; omega)
  exact nq_pos hb.1 (by unfold zLen; omega) hb.2 (by omega)
end Go.Proofs.YtpjopfhkgegahaaGreat
