/- Models: what they are, and when they are valid. -/
import Derived.Test.YtpjopfhkgegahaaIRows
import Derived.Test.YtpjopfhkgegahaaRise
namespace Go.Proofs.Ytpjopfhkgegahaa
open Go.ChangeShapes Go.WideShapes Go.ChangeAt Go.RowKit

def sumI : List Int → Int
  | [] => 0
  | x :: xs => x + sumI xs
theorem sumI_append (a b : List Int) : sumI (a ++ b) = sumI a + sumI b := by
  induction a with
  | nil => simp [sumI]
  | cons x a ih => simp [sumI, ih]; omega
theorem sumI_next (zs : List Int) (k : Nat) (h : k < zs.length) : sumI (zs.take (k + 1)) = sumI (zs.take k) + zs.getD k 0 := by
  rw [List.take_succ_eq_append_getElem h, sumI_append]
  simp [sumI, List.getD, h]
theorem sumI_bd (zs : List Int) (M : Int) (h : ∀ j, j < zs.length → 0 ≤ zs.getD j 0 ∧ zs.getD j 0 ≤ M) : 0 ≤ sumI zs ∧ sumI zs ≤ M * zs.length := by
  induction zs with
  | nil => simp [sumI]
  | cons x xs ih =>
    have h0 := h 0 (by simp)
    have := ih (fun j hj => by have := h (j + 1) (by simp; omega); simpa using this)
    simp only [List.getD_cons_zero] at h0
    simp only [sumI, List.length_cons, Int.natCast_add, Int.natCast_one, Int.mul_add, Int.mul_one]
    omega
theorem take_getD (zs : List Int) (k j : Nat) (h : j < k) : (zs.take k).getD j 0 = zs.getD j 0 := by
  rw [List.getD_eq_getElem?_getD, List.getD_eq_getElem?_getD, List.getElem?_take, if_pos h]
theorem sumI_take_bd (zs : List Int) (M : Int) (k : Nat) (hk : k ≤ zs.length) (h : ∀ j, j < k → 0 ≤ zs.getD j 0 ∧ zs.getD j 0 ≤ M) : 0 ≤ sumI (zs.take k) ∧ sumI (zs.take k) ≤ M * k := by
  have hl : (zs.take k).length = k := by rw [List.length_take]; omega
  have := sumI_bd (zs.take k) M (fun j hj => by rw [take_getD _ _ _ (by omega)]; exact h j (by omega))
  rwa [hl] at this
/-- Not all of them are 0. -/
def nzB (r : List Int) : Bool := r.any fun x => decide (x ≠ 0)
theorem nz_true {r : List Int} {k : Nat} (hk : k < r.length) (h : r.getD k 0 ≠ 0) : nzB r = true := by
  unfold nzB
  rw [List.any_eq_true]
  exact ⟨r.getD k 0, by rw [List.getD_eq_getElem?_getD, List.getElem?_eq_getElem hk]; simp, by simpa using h⟩
theorem nz_false {r : List Int} (h : ∀ j, j < r.length → r.getD j 0 = 0) : nzB r = false := by
  unfold nzB
  rw [List.any_eq_false]
  intro x hx
  obtain ⟨i, hi, rfl⟩ := List.mem_iff_getElem.1 hx
  have := h i hi
  rw [List.getD_eq_getElem?_getD, List.getElem?_eq_getElem hi] at this
  simpa using this
theorem sum_zero {r : List Int} (h : ∀ j, j < r.length → 0 ≤ r.getD j 0) (h0 : sumI r = 0) : ∀ j, j < r.length → r.getD j 0 = 0 := by
  induction r with
  | nil => intro j hj; simp at hj
  | cons x xs ih =>
    have hx := h 0 (by simp)
    simp only [List.getD_cons_zero] at hx
    have hp : ∀ j, j < xs.length → 0 ≤ xs.getD j 0 := fun j hj => by have := h (j + 1) (by simp; omega); simpa using this
    have hs : 0 ≤ sumI xs := by
      clear ih h h0
      induction xs with
      | nil => simp [sumI]
      | cons y ys ih2 =>
        have h1 := hp 0 (by simp)
        simp only [List.getD_cons_zero] at h1
        have h2 := ih2 (fun j hj => by have := hp (j + 1) (by simp; omega); simpa using this)
        simp only [sumI]; omega
    simp only [sumI] at h0
    intro j hj
    match j with
    | 0 => simp only [List.getD_cons_zero]; omega
    | j + 1 => simpa using ih hp (by omega) j (by simpa using hj)
theorem nz_sum {r : List Int} (h : ∀ j, j < r.length → 0 ≤ r.getD j 0) : nzB r = decide (sumI r ≠ 0) := by
  by_cases h0 : sumI r = 0
  · rw [nz_false (sum_zero h h0), decide_eq_false (by simpa using h0)]
  · rw [decide_eq_true h0]
    by_cases hz : ∀ j, j < r.length → r.getD j 0 = 0
    · exfalso
      apply h0
      clear h h0
      induction r with
      | nil => rfl
      | cons x xs ih =>
        have h1 := hz 0 (by simp)
        simp only [List.getD_cons_zero] at h1
        have h2 := ih (fun j hj => by have := hz (j + 1) (by simp; omega); simpa using this)
        simp only [sumI]; omega
    · obtain ⟨j, hj⟩ := Classical.not_forall.1 hz
      obtain ⟨h1, h2⟩ := Classical.not_imp.1 hj
      exact nz_true h1 h2
def zonesB (zs : List Int) : Bool := decide (1 ≤ zs.length ∧ zs.length ≤ 8) && (decide (zs.getD 0 0 = 0) && risesB 0 31 zs)
theorem zones_len {zs : List Int} (h : zonesB zs = true) : 1 ≤ zs.length ∧ zs.length ≤ 8 := by
  unfold zonesB at h
  rw [Bool.and_eq_true] at h
  exact of_decide_eq_true h.1
theorem zones_rise {zs : List Int} (h : zonesB zs = true) : zs.getD 0 0 = 0 ∧ risesB 0 31 zs = true := by
  unfold zonesB at h
  rw [Bool.and_eq_true, Bool.and_eq_true] at h
  exact ⟨of_decide_eq_true h.2.1, h.2.2⟩
theorem zones_no1 {zs : List Int} (h : ¬ (1 ≤ zs.length ∧ zs.length ≤ 8)) : zonesB zs = false := by unfold zonesB; rw [decide_eq_false h]; rfl
theorem zones_no2 {zs : List Int} (h : zs.getD 0 0 ≠ 0) : zonesB zs = false := by unfold zonesB; rw [decide_eq_false h]; simp
theorem zones_end {zs : List Int} (h : 1 ≤ zs.length ∧ zs.length ≤ 8) (h2 : zs.getD 0 0 = 0) : zonesB zs = risesB 0 31 zs := by unfold zonesB; rw [decide_eq_true h, decide_eq_true h2]; rfl
/-- Row j of the weights, for n zones. -/
def rowB (n : Nat) (r : List Int) : Bool := decide (r.length = n) && (allIn 0 1000 r && nzB r)
theorem row_no1 {n : Nat} {r : List Int} (h : r.length ≠ n) : rowB n r = false := by unfold rowB; rw [decide_eq_false h]; rfl
theorem row_no2 {n : Nat} {r : List Int} (h : allIn 0 1000 r = false) : rowB n r = false := by unfold rowB; rw [h]; simp
theorem row_end {n : Nat} {r : List Int} (h : r.length = n) (h2 : allIn 0 1000 r = true) : rowB n r = nzB r := by unfold rowB; rw [decide_eq_true h, h2]; rfl
theorem row_iff {n : Nat} {r : List Int} : rowB n r = true ↔ r.length = n ∧ allIn 0 1000 r = true ∧ nzB r = true := by unfold rowB; rw [Bool.and_eq_true, Bool.and_eq_true, decide_eq_true_eq]
theorem allIn_at {lo hi : Int} {zs : List Int} (h : allIn lo hi zs = true) (j : Nat) (hj : j < zs.length) : lo ≤ zs.getD j 0 ∧ zs.getD j 0 ≤ hi := by
  unfold allIn at h
  rw [List.all_eq_true] at h
  have := h (zs.getD j 0) (by rw [List.getD_eq_getElem?_getD, List.getElem?_eq_getElem hj]; simp)
  exact inB_iff.1 this
def allRows (n : Nat) (ws : List (List Int)) : Bool := (List.range ws.length).all fun j => rowB n (ws.getD j [])
theorem allRows_true {n : Nat} {ws : List (List Int)} (h : ∀ j, j < ws.length → rowB n (ws.getD j []) = true) : allRows n ws = true := by
  unfold allRows
  rw [List.all_eq_true]
  intro j hj
  exact h j (by simpa using hj)
theorem allRows_false {n : Nat} {ws : List (List Int)} {k : Nat} (hk : k < ws.length) (h : rowB n (ws.getD k []) = false) : allRows n ws = false := by
  unfold allRows
  rw [List.all_eq_false]
  exact ⟨k, by simpa using hk, by simp only [h]; simp⟩
theorem allRows_at {n : Nat} {ws : List (List Int)} (h : allRows n ws = true) (j : Nat) (hj : j < ws.length) : rowB n (ws.getD j []) = true := by
  unfold allRows at h
  rw [List.all_eq_true] at h
  exact h j (by simpa using hj)
/-- A valid model. -/
def modB (zs : List Int) (ws : List (List Int)) (bs : List Int) : Bool := zonesB zs && (decide (ws.length = 5 ∧ bs.length = 5) && (allRows zs.length ws && allIn 1 1000000000 bs))
theorem mod_no1 {zs : List Int} {ws : List (List Int)} {bs : List Int} (h : zonesB zs = false) : modB zs ws bs = false := by unfold modB; rw [h]; rfl
theorem mod_no2 {zs : List Int} {ws : List (List Int)} {bs : List Int} (h : ¬ (ws.length = 5 ∧ bs.length = 5)) : modB zs ws bs = false := by unfold modB; rw [decide_eq_false h]; simp
theorem mod_no3 {zs : List Int} {ws : List (List Int)} {bs : List Int} (h : allRows zs.length ws = false) : modB zs ws bs = false := by unfold modB; rw [h]; simp
theorem mod_no4 {zs : List Int} {ws : List (List Int)} {bs : List Int} (h : allIn 1 1000000000 bs = false) : modB zs ws bs = false := by unfold modB; rw [h]; simp
theorem mod_end {zs : List Int} {ws : List (List Int)} {bs : List Int} (h : zonesB zs = true) (h2 : ws.length = 5 ∧ bs.length = 5) (h3 : allRows zs.length ws = true) : modB zs ws bs = allIn 1 1000000000 bs := by unfold modB; rw [h, decide_eq_true h2, h3]; rfl
theorem mod_iff {zs : List Int} {ws : List (List Int)} {bs : List Int} : modB zs ws bs = true ↔ zonesB zs = true ∧ (ws.length = 5 ∧ bs.length = 5) ∧ allRows zs.length ws = true ∧ allIn 1 1000000000 bs = true := by
  unfold modB
  rw [Bool.and_eq_true, Bool.and_eq_true, Bool.and_eq_true, decide_eq_true_eq]

theorem below_drewN2 {B : Nat} {w w1 : World} (h : Below B w w1) (n : Nat) : Below B w (w1.drewN n) := ⟨h.os, h.tape, h.output, h.size, h.block⟩
/-- Block p holds a model: its three slices. -/
structure ModIn (w : World) (p : Nat) (v0 v1 v2 : Value) : Prop where
  c0 : w.cell? ⟨p, 0, none⟩ = some v0
  c1 : w.cell? ⟨p, 1, none⟩ = some v1
  c2 : w.cell? ⟨p, 2, none⟩ = some v2
theorem modIn_keep {w w' : World} {p : Nat} {v0 v1 v2 : Value} (hb : Below w.heap.size w w') (hp : p < w.heap.size) (h : ModIn w p v0 v1 v2) : ModIn w' p v0 v1 v2 :=
  ⟨(below_cell hb _ _ hp).trans h.c0, (below_cell hb _ _ hp).trans h.c1, (below_cell hb _ _ hp).trans h.c2⟩
theorem ints_cells {w : World} {v : Value} {zs : List Int} (h : IntsAt w v zs) (hp : 0 < zs.length) : ∃ b off cap, v = .slice (some ⟨b, off, none⟩) zs.length cap ∧ b < w.heap.size ∧ ∀ j, j < zs.length → w.cell? ⟨b, off + j, none⟩ = some (.int .i64 (zs.getD j 0)) := by
  obtain ⟨_, ⟨a, c, _, rfl⟩ | h⟩ := h
  · simp at hp
  · exact h
theorem mrows_cells {w : World} {v : Value} {ws : List (List Int)} (h : RowsAt w v ws) (hp : 0 < ws.length) : ∃ b off cap, v = .slice (some ⟨b, off, none⟩) ws.length cap ∧ b < w.heap.size ∧ ∀ j, j < ws.length → ∃ u, w.cell? ⟨b, off + j, none⟩ = some u ∧ IntsAt w u (ws.getD j []) := by
  obtain ⟨_, ⟨a, c, _, rfl⟩ | h⟩ := h
  · simp at hp
  · exact h
end Go.Proofs.Ytpjopfhkgegahaa
