/- The words of a text: what strings.FieldsFunc at the blank hands back, and the stretches between blanks, are one. -/
import Derived.Test.YtfficiomggmmcaaSplitMath
import Derived.Lib.FieldsP
import Derived.Lib.SpaceUEq
namespace Go.Proofs.Ytfficiomggmmcaa
open Go

def wordsL (l : List UInt8) : List (List UInt8) := (splitL 32 l).filter (fun x => !x.isEmpty)
theorem words_blank (l : List UInt8) : wordsL (32 :: l) = wordsL l := by
  unfold wordsL
  rw [splitL, if_pos rfl]
  rfl
theorem words_nil : wordsL [] = [] := rfl
theorem words_hit (p r : List UInt8) (h : ∀ x ∈ p, x ≠ 32) (hp : p ≠ []) : wordsL (p ++ 32 :: r) = p :: wordsL r := by
  unfold wordsL
  rw [splitL_hit 32 r p h, List.filter_cons_of_pos]
  cases p with
  | nil => exact absurd rfl hp
  | cons a l => rfl
theorem words_last (p : List UInt8) (h : ∀ x ∈ p, x ≠ 32) (hp : p ≠ []) : wordsL p = [p] := by
  unfold wordsL
  rw [splitL_none 32 p h, List.filter_cons_of_pos]
  · rfl
  · cases p with
    | nil => exact absurd rfl hp
    | cons a l => rfl

def cutL (l : List UInt8) (a b : Nat) : List UInt8 := (l.drop a).take (b - a)
/-- No blank from a to b. -/
def Clear (l : List UInt8) (a b : Nat) : Prop := ∀ j, a ≤ j → j < b → l.getD j 0 ≠ 32
theorem clear_cut {l : List UInt8} {a b : Nat} (h : Clear l a b) : ∀ x ∈ cutL l a b, x ≠ 32 := by
  intro x hx
  unfold cutL at hx
  obtain ⟨i, hi, rfl⟩ := List.mem_iff_getElem.1 hx
  rw [List.length_take, List.length_drop] at hi
  have := h (a + i) (by omega) (by omega)
  rw [List.getElem_take, List.getElem_drop]
  rwa [List.getD_eq_getElem?_getD, List.getElem?_eq_getElem (by omega)] at this
theorem cut_ne {l : List UInt8} {a b : Nat} (h : a < b) (hb : b ≤ l.length) : cutL l a b ≠ [] := by
  intro h0
  have := congrArg List.length h0
  unfold cutL at this
  rw [List.length_take, List.length_drop] at this
  simp at this
  omega
theorem drop_cut (l : List UInt8) (a b : Nat) (h : a ≤ b) (hb : b < l.length) : l.drop a = cutL l a b ++ l.getD b 0 :: l.drop (b + 1) := by
  have e : l.drop b = l.getD b 0 :: l.drop (b + 1) := by
    rw [List.drop_eq_getElem_cons hb, List.getD_eq_getElem?_getD, List.getElem?_eq_getElem hb]; rfl
  have h1 := (List.take_append_drop (b - a) (l.drop a)).symm
  rw [List.drop_drop, show a + (b - a) = b from by omega, e] at h1
  exact h1
theorem cut_end (l : List UInt8) (a : Nat) : cutL l a l.length = l.drop a := by
  unfold cutL
  exact List.take_of_length_le (by rw [List.length_drop]; exact Nat.le_refl _)

theorem byte_lt (x : UInt8) : x.toNat < 256 := UInt8.toNat_lt x
theorem ne32 {x : UInt8} (h : x.toNat ≠ 32) : x ≠ 32 := fun e => h (by rw [e]; rfl)
/-- A rune is the blank just where its byte is; the bytes of another rune are no blanks. -/
theorem decode_blank (s : ByteArray) (pos : Nat) (hp : pos < s.data.toList.length) :
    pos + (Utf8.decode s pos).2 ≤ s.data.toList.length ∧ 1 ≤ (Utf8.decode s pos).2 ∧ (((Utf8.decode s pos).1 = 32 ∧ (Utf8.decode s pos).2 = 1 ∧ s.data.toList.getD pos 0 = 32) ∨
    ((Utf8.decode s pos).1 ≠ 32 ∧ Clear s.data.toList pos (pos + (Utf8.decode s pos).2))) := by
  rw [Lib.decode_N]
  have hw := Lib.decodeN_le_n' (s.data.toList.length - pos) (s.data.toList.getD pos 0).toNat (s.data.toList.getD (pos + 1) 0).toNat (s.data.toList.getD (pos + 2) 0).toNat (s.data.toList.getD (pos + 3) 0).toNat (by omega)
  have h1 := Lib.decodeN_ge1 (s.data.toList.length - pos) (s.data.toList.getD pos 0).toNat (s.data.toList.getD (pos + 1) 0).toNat (s.data.toList.getD (pos + 2) 0).toNat (s.data.toList.getD (pos + 3) 0).toNat
  have hc := Lib.decodeN_conts (s.data.toList.length - pos) (s.data.toList.getD pos 0).toNat (s.data.toList.getD (pos + 1) 0).toNat (s.data.toList.getD (pos + 2) 0).toNat (s.data.toList.getD (pos + 3) 0).toNat
  refine ⟨by omega, h1, ?_⟩
  by_cases h0 : (s.data.toList.getD pos 0).toNat < 128
  · have e : Lib.decodeN (s.data.toList.length - pos) (s.data.toList.getD pos 0).toNat (s.data.toList.getD (pos + 1) 0).toNat (s.data.toList.getD (pos + 2) 0).toNat (s.data.toList.getD (pos + 3) 0).toNat = ((s.data.toList.getD pos 0).toNat, 1) := by
      unfold Lib.decodeN
      rw [if_pos h0]
    rw [e]
    by_cases h32 : (s.data.toList.getD pos 0).toNat = 32
    · exact .inl ⟨h32, rfl, UInt8.toNat_inj.1 h32⟩
    · refine .inr ⟨h32, fun j hj1 hj2 => ?_⟩
      obtain rfl : j = pos := by simp only at hj2; omega
      exact ne32 h32
  · have hr : (Lib.decodeN (s.data.toList.length - pos) (s.data.toList.getD pos 0).toNat (s.data.toList.getD (pos + 1) 0).toNat (s.data.toList.getD (pos + 2) 0).toNat (s.data.toList.getD (pos + 3) 0).toNat).1 ≠ 32 := by
      rcases Lib.decodeN_cases (s.data.toList.length - pos) (s.data.toList.getD pos 0).toNat (s.data.toList.getD (pos + 1) 0).toNat (s.data.toList.getD (pos + 2) 0).toNat (s.data.toList.getD (pos + 3) 0).toNat with ⟨c, e⟩ | ⟨c1, c2, c3, cv, e⟩ | ⟨c1, c2, c3, c4, cv, e⟩ | ⟨c, e⟩ | e
      · omega
      · rw [e]; simp only; omega
      · rw [e]; simp only; omega
      · omega
      · rw [e]; simp
    refine .inr ⟨hr, fun j hj1 hj2 => ?_⟩
    obtain ⟨c2, c3, c4, c5⟩ := hc
    generalize (Lib.decodeN (s.data.toList.length - pos) (s.data.toList.getD pos 0).toNat (s.data.toList.getD (pos + 1) 0).toNat (s.data.toList.getD (pos + 2) 0).toNat (s.data.toList.getD (pos + 3) 0).toNat).2 = K at *
    have hj : j = pos ∨ j = pos + 1 ∨ j = pos + 2 ∨ j = pos + 3 := by omega
    rcases hj with rfl | rfl | rfl | rfl
    · exact ne32 (by omega)
    · exact ne32 (by have := (c2 (by omega)).1; omega)
    · exact ne32 (by have := (c3 (by omega)).1; omega)
    · exact ne32 (by have := (c4 (by omega)).1; omega)

def cuts (s : ByteArray) (acc : List (Nat × Nat)) : List (List UInt8) := acc.map (fun x => cutL s.data.toList x.1 x.2)
theorem fields_from (p : Nat → Bool) (hp : ∀ r, p r = decide (r = 32)) (s : ByteArray) : ∀ (f pos : Nat) (st : Option Nat) (acc : List (Nat × Nat)), s.data.toList.length ≤ pos + f → pos ≤ s.data.toList.length → (∀ a, st = some a → a < pos ∧ Clear s.data.toList a pos) →
    cuts s (Lib.closeSpans s (Lib.spansFromP p s f pos st acc)) = cuts s acc ++ wordsL (s.data.toList.drop (st.getD pos))
  | f, pos, st, acc, h, hps, hst => by
    have hsz : s.data.toList.length = s.size := by simp
    by_cases hlt : pos < s.data.toList.length
    · obtain ⟨g, rfl⟩ : ∃ g, f = g + 1 := ⟨f - 1, by omega⟩
      obtain ⟨hK, hK1, hd⟩ := decode_blank s pos hlt
      have hlt2 : pos < s.size := by omega
      simp only [Lib.spansFromP, hlt2, if_true]
      generalize (Utf8.decode s pos).1 = R at *
      generalize (Utf8.decode s pos).2 = K at *
      rcases hd with ⟨rfl, rfl, hb⟩ | ⟨hR, hC⟩
      · have hpr : p 32 = true := by rw [hp]; rfl
        simp only [hpr, if_true]
        cases st with
        | none =>
          have ih := fields_from p hp s g (pos + 1) none acc (by omega) (by omega) (fun a ha => by cases ha)
          simp only [ih, Option.getD_none]
          congr 1
          have e := drop_cut s.data.toList pos pos (Nat.le_refl _) hlt
          rw [hb] at e
          rw [e]
          unfold cutL
          rw [Nat.sub_self, List.take_zero, List.nil_append, words_blank]
        | some a =>
          obtain ⟨ha, hc⟩ := hst a rfl
          have ih := fields_from p hp s g (pos + 1) none (acc ++ [(a, pos)]) (by omega) (by omega) (fun a ha => by cases ha)
          simp only [ih, Option.getD_none, Option.getD_some]
          have e := drop_cut s.data.toList a pos (by omega) hlt
          rw [hb] at e
          rw [e, words_hit _ _ (clear_cut hc) (cut_ne ha (by omega))]
          unfold cuts
          rw [List.map_append]
          simp
      · have hpr : p R = false := by rw [hp]; exact decide_eq_false hR
        simp only [hpr, Bool.false_eq_true, if_false]
        cases st with
        | none =>
          have ih := fields_from p hp s g (pos + K) (some pos) acc (by omega) (by omega) (fun a ha => by cases ha; exact ⟨by omega, hC⟩)
          simp only [ih, Option.getD_none, Option.getD_some]
        | some a =>
          obtain ⟨ha, hc⟩ := hst a rfl
          have ih := fields_from p hp s g (pos + K) (some a) acc (by omega) (by omega) (fun b hb => by
            cases hb
            refine ⟨by omega, fun j hj1 hj2 => ?_⟩
            by_cases hj : j < pos
            · exact hc j hj1 hj
            · exact hC j (by omega) hj2)
          simp only [ih, Option.getD_some]
    · rw [Lib.spansFromP_end p s f pos st acc (by omega)]
      obtain rfl : pos = s.data.toList.length := by omega
      cases st with
      | none =>
        simp only [Lib.closeSpans, Option.getD_none]
        rw [List.drop_length, words_nil, List.append_nil]
      | some a =>
        obtain ⟨ha, hc⟩ := hst a rfl
        simp only [Lib.closeSpans, Option.getD_some]
        rw [← cut_end, words_last _ (clear_cut hc) (cut_ne ha (Nat.le_refl _))]
        unfold cuts
        rw [List.map_append]
        simp
termination_by f => f
theorem fields_words (p : Nat → Bool) (hp : ∀ r, p r = decide (r = 32)) (s : ByteArray) : (Lib.goFieldsP p s).map (·.data.toList) = wordsL s.data.toList := by
  have h := fields_from p hp s s.size 0 none [] (by simp) (by simp) (fun a ha => by cases ha)
  simp only [Option.getD_none, List.drop_zero] at h
  rw [show cuts s [] = [] from rfl, List.nil_append] at h
  rw [← h]
  unfold Lib.goFieldsP Lib.spansOfP cuts
  rw [List.map_map]
  apply List.map_congr_left
  intro x _
  simp only [Function.comp]
  rw [Lib.extract_data]
  rfl
end Go.Proofs.Ytfficiomggmmcaa
