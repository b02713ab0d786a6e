/- Sums of steps, zone by zone; a list of cuts for them, in order. -/
import Derived.Test.YtjdnjlakafcglaaCutsV
set_option linter.unusedVariables false
namespace Go.Proofs.Ytjdnjlakafcglaa
open Go.ChangeShapes Go.WideShapes Go.ChangeAt Go.RowKit

def sumAt (z : Int) : List Ct → Int
  | [] => 0
  | c :: cs => (if c.1 = z then c.2 else 0) + sumAt z cs
theorem sumAt_append (z : Int) (a b : List Ct) : sumAt z (a ++ b) = sumAt z a + sumAt z b := by
  induction a with
  | nil => simp [sumAt]
  | cons c a ih => simp only [List.cons_append, sumAt, ih]; omega
theorem sumAt_next (z : Int) (cs : List Ct) (k : Nat) (h : k < cs.length) : sumAt z (cs.take (k + 1)) = sumAt z (cs.take k) + (if (cs.getD k zC).1 = z then (cs.getD k zC).2 else 0) := by
  rw [List.take_succ_eq_append_getElem h, sumAt_append]
  simp [sumAt, List.getD, h]
theorem sumAt_nonneg (z : Int) {cs : List Ct} (h : allC cs = true) : 0 ≤ sumAt z cs := by
  unfold allC at h
  induction cs with
  | nil => simp [sumAt]
  | cons c cs ih =>
    rw [List.all_cons, Bool.and_eq_true] at h
    have h1 := (cut_iff.1 h.1).2
    have h2 := ih h.2
    simp only [sumAt]
    split <;> omega
theorem allC_take {cs : List Ct} (h : allC cs = true) (k : Nat) : allC (cs.take k) = true := by
  unfold allC at *
  rw [List.all_eq_true] at *
  exact fun x hx => h x (List.mem_of_mem_take hx)
theorem sumAt_take_le (z : Int) {cs : List Ct} (h : allC cs = true) (k : Nat) : sumAt z (cs.take k) ≤ sumAt z cs := by
  have e : sumAt z cs = sumAt z (cs.take k) + sumAt z (cs.drop k) := by rw [← sumAt_append, List.take_append_drop]
  have h2 : allC (cs.drop k) = true := by
    unfold allC at *
    rw [List.all_eq_true] at *
    exact fun x hx => h x (List.mem_of_mem_drop hx)
  have := sumAt_nonneg z h2
  omega
theorem sumAt_bd (z : Int) {cs : List Ct} (h : allC cs = true) (k : Nat) (hk : k ≤ cs.length) : 0 ≤ sumAt z (cs.take k) ∧ sumAt z (cs.take k) ≤ 20 * k := by
  induction k with
  | zero => simp [sumAt]
  | succ k ih =>
    have i1 := ih (by omega)
    have i2 := (cut_iff.1 (allC_at h k (by omega))).2
    rw [sumAt_next z cs k (by omega)]
    split <;> omega
/-- No zone has too many steps. -/
def fitsC (cs : List Ct) : Bool := (List.range 8).all fun z => decide (sumAt (z : Int) cs ≤ 20)
theorem fitsC_iff {cs : List Ct} : fitsC cs = true ↔ ∀ z : Nat, z < 8 → sumAt (z : Int) cs ≤ 20 := by simp [fitsC]
theorem fitsC_no {cs : List Ct} {z : Nat} (hz : z < 8) (h : 20 < sumAt (z : Int) cs) : fitsC cs = false := by
  rcases Bool.eq_false_or_eq_true (fitsC cs) with h2 | h2
  · have := fitsC_iff.1 h2 z hz; omega
  · exact h2
/-- The cuts of zones 0 .. n - 1 with steps f. -/
def listOf (f : Nat → Int) (n : Nat) : List Ct := ((List.range n).filter fun (z : Nat) => decide (0 < f z)).map fun (z : Nat) => (((z : Int), f z) : Ct)
theorem listOf_zero (f : Nat → Int) : listOf f 0 = [] := rfl
theorem listOf_yes {f : Nat → Int} {n : Nat} (h : 0 < f n) : listOf f (n + 1) = listOf f n ++ [((n : Int), f n)] := by
  unfold listOf
  rw [List.range_succ, List.filter_append, List.map_append]
  simp [h]
theorem listOf_no {f : Nat → Int} {n : Nat} (h : ¬ 0 < f n) : listOf f (n + 1) = listOf f n := by
  unfold listOf
  rw [List.range_succ, List.filter_append, List.map_append]
  simp [h]
theorem listOf_len (f : Nat → Int) (n : Nat) : (listOf f n).length ≤ n := by
  unfold listOf
  rw [List.length_map]
  have := List.length_filter_le (fun z => decide (0 < f z)) (List.range n)
  simpa using this
theorem listOf_mem {f : Nat → Int} {n : Nat} {c : Ct} : c ∈ listOf f n ↔ ∃ z : Nat, z < n ∧ 0 < f z ∧ c = ((z : Int), f z) := by
  unfold listOf
  simp only [List.mem_map, List.mem_filter, List.mem_range, decide_eq_true_eq]
  constructor
  · rintro ⟨z, ⟨h1, h2⟩, rfl⟩; exact ⟨z, h1, h2, rfl⟩
  · rintro ⟨z, h1, h2, rfl⟩; exact ⟨z, ⟨h1, h2⟩, rfl⟩
theorem listOf_pw (f : Nat → Int) (n : Nat) : (listOf f n).Pairwise fun a b => a.1 < b.1 := by
  induction n with
  | zero => simp [listOf]
  | succ n ih =>
    by_cases h : 0 < f n
    · rw [listOf_yes h, List.pairwise_append]
      refine ⟨ih, by simp, fun a ha b hb => ?_⟩
      obtain ⟨z, hz, _, rfl⟩ := listOf_mem.1 ha
      simp only [List.mem_singleton] at hb
      subst hb
      show (z : Int) < (n : Int)
      omega
    · rw [listOf_no h]; exact ih
/-- Two lists in order with the same members are one. -/
theorem eq_of_rising : ∀ {a b : List Ct}, a.Pairwise (fun x y => x.1 < y.1) → b.Pairwise (fun x y => x.1 < y.1) → (∀ c, c ∈ a ↔ c ∈ b) → a = b
  | [], [], _, _, _ => rfl
  | [], y :: b, _, _, h => by have := (h y).2 (by simp); simp at this
  | x :: a, [], _, _, h => by have := (h x).1 (by simp); simp at this
  | x :: a, y :: b, ha, hb, h => by
    rw [List.pairwise_cons] at ha hb
    have e : x = y := by
      have h1 := (h x).1 (by simp)
      have h2 := (h y).2 (by simp)
      rcases List.mem_cons.1 h1 with h1 | h1
      · exact h1
      · rcases List.mem_cons.1 h2 with h2 | h2
        · exact h2.symm
        · have := hb.1 x h1
          have := ha.1 y h2
          omega
    subst e
    rw [eq_of_rising ha.2 hb.2 fun c => ?_]
    constructor
    · intro hc
      rcases List.mem_cons.1 ((h c).1 (List.mem_cons_of_mem _ hc)) with e | h2
      · subst e; have := ha.1 c hc; omega
      · exact h2
    · intro hc
      rcases List.mem_cons.1 ((h c).2 (List.mem_cons_of_mem _ hc)) with e | h2
      · subst e; have := hb.1 c hc; omega
      · exact h2
def sortL (cs : List Ct) : List Ct := listOf (fun z => sumAt (z : Int) cs) 8
/-- SortCuts' two answers. -/
def srL (cs : List Ct) : List Ct := if cutsB cs = true ∧ fitsC cs = true then sortL cs else []
def srC (cs : List Ct) : Int := if cutsB cs = true then if fitsC cs = true then 0 else 5 else 1
theorem sr_0 {cs : List Ct} (h : cutsB cs = true) (h2 : fitsC cs = true) : srL cs = sortL cs ∧ srC cs = 0 := by unfold srL srC; rw [if_pos ⟨h, h2⟩, if_pos h, if_pos h2]; exact ⟨rfl, rfl⟩
theorem sr_5 {cs : List Ct} (h : cutsB cs = true) (h2 : fitsC cs = false) : srL cs = [] ∧ srC cs = 5 := by unfold srL srC; rw [if_neg (by rw [h2]; simp), if_pos h, if_neg (by rw [h2]; simp)]; exact ⟨rfl, rfl⟩
theorem sr_1 {cs : List Ct} (h : cutsB cs = false) : srL cs = [] ∧ srC cs = 1 := by unfold srL srC; rw [if_neg (by rw [h]; simp), if_neg (by rw [h]; simp)]; exact ⟨rfl, rfl⟩
theorem sr_len (cs : List Ct) : (srL cs).length ≤ 64 := by
  unfold srL
  split
  · have := listOf_len (fun z => sumAt (z : Int) cs) 8
    unfold sortL; omega
  · simp
end Go.Proofs.Ytjdnjlakafcglaa
