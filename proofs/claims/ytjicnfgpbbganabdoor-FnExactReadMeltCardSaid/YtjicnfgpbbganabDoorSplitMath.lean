/- Texts divided at a byte: plain lists. -/
import Derived.Lib.Split
namespace Go.Proofs.YtjicnfgpbbganabDoor
open Go

def headCons (b : UInt8) : List (List UInt8) → List (List UInt8)
  | [] => [[b]]
  | h :: t => (b :: h) :: t
def splitL (c : UInt8) : List UInt8 → List (List UInt8)
  | [] => [[]]
  | b :: l => if b = c then [] :: splitL c l else headCons b (splitL c l)
theorem splitL_ne (c : UInt8) (l : List UInt8) : splitL c l ≠ [] := by
  cases l with
  | nil => simp [splitL]
  | cons b l =>
    rw [splitL]
    split
    · simp
    · cases splitL c l <;> simp [headCons]
theorem splitL_len (c : UInt8) : ∀ l : List UInt8, (splitL c l).length ≤ l.length + 1
  | [] => by simp [splitL]
  | b :: l => by
    have ih := splitL_len c l
    have hne := splitL_ne c l
    rw [splitL]
    split
    · simp; omega
    · cases h : splitL c l with
      | nil => exact absurd h hne
      | cons x t => rw [h] at ih; simp [headCons] at ih ⊢; omega
/-- A stretch without the byte, then the byte. -/
theorem splitL_hit (c : UInt8) (r : List UInt8) : ∀ p : List UInt8, (∀ x ∈ p, x ≠ c) → splitL c (p ++ c :: r) = p :: splitL c r
  | [], _ => by simp [splitL]
  | b :: p, h => by
    rw [List.cons_append, splitL, if_neg (h b (by simp)), splitL_hit c r p (fun x hx => h x (by simp [hx]))]
    rfl
theorem splitL_none (c : UInt8) : ∀ p : List UInt8, (∀ x ∈ p, x ≠ c) → splitL c p = [p]
  | [], _ => rfl
  | b :: p, h => by
    rw [splitL, if_neg (h b (by simp)), splitL_none c p (fun x hx => h x (by simp [hx]))]
    rfl
theorem pre_one (c b : UInt8) (l : List UInt8) : ([c] : List UInt8).isPrefixOf (b :: l) = (c == b) := by simp [List.isPrefixOf]
theorem splitL_index (c : UInt8) : ∀ l : List UInt8, (Lib.index l [c] = -1 → splitL c l = [l]) ∧ (∀ i : Nat, Lib.index l [c] = i → splitL c l = l.take i :: splitL c (l.drop (i + 1)))
  | [] => by
    refine ⟨fun _ => rfl, fun i h => ?_⟩
    simp [Lib.index] at h
  | b :: l => by
    obtain ⟨h1, h2⟩ := splitL_index c l
    have hge := Lib.index_ge l [c]
    rw [Lib.index, pre_one, splitL]
    by_cases hb : b = c
    · subst hb
      simp only [beq_self_eq_true, if_true]
      refine ⟨fun h => by omega, fun i h => ?_⟩
      obtain rfl : i = 0 := by omega
      simp
    · have hcb : (c == b) = false := beq_eq_false_iff_ne.2 (fun e => hb e.symm)
      simp only [hcb, if_neg hb, Bool.false_eq_true, if_false]
      by_cases hm : Lib.index l [c] = -1
      · rw [if_pos (beq_iff_eq.2 hm), h1 hm]
        exact ⟨fun _ => rfl, fun i h => by omega⟩
      · rw [if_neg (by rw [beq_iff_eq]; exact hm)]
        refine ⟨fun h => by omega, fun i h => ?_⟩
        obtain ⟨j, rfl⟩ : ∃ j, i = j + 1 := ⟨i - 1, by omega⟩
        rw [h2 j (by omega)]
        simp [headCons]
theorem splitK_spec (c : UInt8) : ∀ (k : Nat) (l : List UInt8), ((splitL c l).length ≤ k + 1 → Lib.splitK [c] 0 k l = splitL c l) ∧ (k + 1 < (splitL c l).length → (Lib.splitK [c] 0 k l).length = k + 1)
  | 0, l => by
    obtain ⟨h1, h2⟩ := splitL_index c l
    refine ⟨fun h => ?_, fun _ => rfl⟩
    rcases Int.lt_or_le (Lib.index l [c]) 0 with hi | hi
    · rw [h1 (by have := Lib.index_ge l [c]; omega)]; rfl
    · have := h2 (Lib.index l [c]).toNat (by omega)
      have hne := splitL_ne c (l.drop ((Lib.index l [c]).toNat + 1))
      rw [this, List.length_cons] at h
      exact absurd (List.eq_nil_of_length_eq_zero (by omega)) hne
  | k + 1, l => by
    obtain ⟨h1, h2⟩ := splitL_index c l
    rw [Lib.splitK]
    by_cases hm : Lib.index l [c] = -1
    · rw [if_pos (beq_iff_eq.2 hm), h1 hm]
      exact ⟨fun _ => rfl, fun h => by simp at h⟩
    · rw [if_neg (by rw [beq_iff_eq]; exact hm)]
      have hge := Lib.index_ge l [c]
      have e := h2 (Lib.index l [c]).toNat (by omega)
      obtain ⟨i1, i2⟩ := splitK_spec c k (l.drop ((Lib.index l [c]).toNat + 1))
      rw [e]
      simp only [List.length_cons, List.length_nil, Nat.zero_add, Nat.add_zero]
      exact ⟨fun h => by rw [i1 (by omega)], fun h => by rw [i2 (by omega)]⟩
theorem splitL_part (c : UInt8) : ∀ (l : List UInt8), ∀ p ∈ splitL c l, p.length ≤ l.length
  | [], p, h => by simp [splitL] at h; simp [h]
  | b :: l, p, h => by
    have ih := splitL_part c l
    rw [splitL] at h
    split at h
    · rcases List.mem_cons.1 h with rfl | h
      · simp
      · have := ih p h; simp; omega
    · cases hs : splitL c l with
      | nil => exact absurd hs (splitL_ne c l)
      | cons x t =>
        rw [hs] at h ih
        simp only [headCons] at h
        rcases List.mem_cons.1 h with rfl | h
        · have := ih x (by simp); simp; omega
        · have := ih p (by simp [h]); simp; omega
/-- The program's division in at most 65 parts. -/
theorem split65 (c : UInt8) (l : List UInt8) : (64 < (splitL c l).length → 64 < (Lib.splitK [c] 0 (min 65 (l.length + 1) - 1) l).length) ∧ ((splitL c l).length ≤ 64 → Lib.splitK [c] 0 (min 65 (l.length + 1) - 1) l = splitL c l) := by
  have hl := splitL_len c l
  obtain ⟨h1, h2⟩ := splitK_spec c (min 65 (l.length + 1) - 1) l
  refine ⟨fun h => ?_, fun h => h1 (by omega)⟩
  by_cases h3 : (splitL c l).length ≤ min 65 (l.length + 1) - 1 + 1
  · rw [h1 h3]; exact h
  · rw [h2 (by omega)]; omega
end Go.Proofs.YtjicnfgpbbganabDoor
