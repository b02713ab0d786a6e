/- Decimal numbers read back: plain lists of bytes. The reference model's reading and the program's are one. -/
import Derived.Lib.Atoi
import Derived.Lib.ParseIntB
import Derived.Lib.ItoaNum
import Derived.Lib.Strings
import Derived.Test.YtjicnfgpbbganabDoorDecMath
namespace Go.Proofs.YtjicnfgpbbganabDoor
open Go

/-- The digits behind the sign. -/
def magOf (one : Bool) (d : List UInt8) : Option Nat :=
  if d = [] ∨ 18 < d.length ∨ (d.head? = some 48 ∧ one = true) then none else Lib.decFrom 0 d
def specNum (l : List UInt8) : Option Int :=
  match l with
  | 45 :: d => (magOf true d).map fun (m : Nat) => -(m : Int)
  | l => (magOf (decide (1 < l.length)) l).map fun (m : Nat) => (m : Int)
def implNum (l : List UInt8) : Option Int :=
  if 18 < (Lib.trimPrefix l [45]).length then none
  else match Lib.parseIntB 64 l with
    | .ok v => if Lib.itoa v = l then some v else none
    | _ => none

theorem byte_of {b : UInt8} {d : Nat} (h : Lib.digitVal b = some d) : UInt8.ofNat (48 + d) = b := by
  obtain ⟨h1, h2, rfl⟩ := Lib.digitVal_eq h
  apply UInt8.toNat_inj.1
  rw [UInt8.toNat_ofNat']
  omega
theorem val_of (d : Nat) (h : d ≤ 9) : Lib.digitVal (UInt8.ofNat (48 + d)) = some d := by
  unfold Lib.digitVal
  have : (UInt8.ofNat (48 + d)).toNat = 48 + d := by rw [UInt8.toNat_ofNat']; omega
  rw [this, if_pos (by omega)]
  congr 1; omega
theorem decFrom_snoc (b : UInt8) : ∀ (l : List UInt8) (acc : Nat), Lib.decFrom acc (l ++ [b]) = (Lib.decFrom acc l).bind fun n => (Lib.digitVal b).map fun d => n * 10 + d
  | [], acc => by
    simp only [List.nil_append, Lib.decFrom, Option.bind_some]
    cases Lib.digitVal b <;> rfl
  | a :: t, acc => by
    simp only [List.cons_append, Lib.decFrom]
    cases Lib.digitVal a with
    | none => rfl
    | some e => exact decFrom_snoc b t _
theorem decFrom_ge : ∀ (l : List UInt8) (acc n : Nat), Lib.decFrom acc l = some n → acc ≤ n
  | [], acc, n, h => by simp only [Lib.decFrom, Option.some.injEq] at h; omega
  | a :: t, acc, n, h => by
    simp only [Lib.decFrom] at h
    cases ha : Lib.digitVal a with
    | none => simp [ha] at h
    | some e => simp only [ha] at h; have := decFrom_ge t _ n h; omega
theorem head_pos {a : UInt8} {t : List UInt8} {n : Nat} (h : Lib.decFrom 0 (a :: t) = some n) (ha : a ≠ 48) : 1 ≤ n := by
  simp only [Lib.decFrom] at h
  cases hd : Lib.digitVal a with
  | none => simp [hd] at h
  | some e =>
    simp only [hd] at h
    have he : e ≠ 0 := by
      intro h0
      subst h0
      exact ha (byte_of hd).symm
    have := decFrom_ge t _ n h
    omega
/-- Digits without leading zeros are those of their number. -/
theorem digits_back : ∀ (k : Nat) (d : List UInt8) (m : Nat), d.length = k + 1 → (d.head? ≠ some 48 ∨ d.length = 1) → Lib.decFrom 0 d = some m → Lib.decDigits m = d
  | 0, d, m, hl, _, h => by
    match d, hl with
    | [b], _ =>
      simp only [Lib.decFrom] at h
      cases hb : Lib.digitVal b with
      | none => simp [hb] at h
      | some e =>
        simp only [hb, Option.some.injEq] at h
        have := Lib.digitVal_eq hb
        rw [dec_small m (by omega), ← byte_of hb]
        congr 2; omega
  | k + 1, d, m, hl, hh, h => by
    have hne : d ≠ [] := by intro e; rw [e] at hl; simp at hl
    obtain ⟨l, b, rfl⟩ : ∃ l b, d = l ++ [b] := ⟨d.dropLast, d.getLast hne, (List.dropLast_concat_getLast hne).symm⟩
    have hll : l.length = k + 1 := by simpa using hl
    rw [decFrom_snoc] at h
    cases hm : Lib.decFrom 0 l with
    | none => simp [hm] at h
    | some m' =>
      cases hb : Lib.digitVal b with
      | none => simp [hm, hb] at h
      | some e =>
        simp only [hm, hb, Option.bind_some, Option.map_some, Option.some.injEq] at h
        have hhead : l.head? ≠ some 48 := by
          rcases hh with h1 | h1
          · intro e1; apply h1
            cases l with
            | nil => simp at hll
            | cons a t => simpa using e1
          · exfalso; rw [List.length_append, hll] at h1; simp at h1
        have hpos : 1 ≤ m' := by
          cases l with
          | nil => simp at hll
          | cons a t => exact head_pos hm (by simpa using hhead)
        have he := Lib.digitVal_eq hb
        have ih := digits_back k l m' hll (.inl hhead) hm
        rw [dec_step m (by omega), show m / 10 = m' from by omega, show m % 10 = e from by omega, ih, byte_of hb]
/-- The digits of a number spell it, and begin with no 0 but for the one of 0. -/
theorem digits_read (m : Nat) : Lib.decFrom 0 (Lib.decDigits m) = some m ∧ Lib.decDigits m ≠ [] ∧ ((Lib.decDigits m).head? = some 48 → (Lib.decDigits m).length = 1) := by
  induction m using Nat.strongRecOn with
  | _ m ih =>
    by_cases hs : m < 10
    · rw [dec_small m hs]
      refine ⟨?_, by simp, fun _ => rfl⟩
      simp only [Lib.decFrom, val_of m (by omega)]
      simp
    · obtain ⟨h1, h2, h3⟩ := ih (m / 10) (by omega)
      rw [dec_step m hs]
      refine ⟨?_, by simp, fun hh => ?_⟩
      · rw [decFrom_snoc, h1, val_of _ (by omega)]
        simp only [Option.bind_some, Option.map_some]
        congr 1; omega
      · exfalso
        cases hd : Lib.decDigits (m / 10) with
        | nil => exact h2 hd
        | cons a t =>
          rw [hd] at hh h1 h3
          simp only [List.cons_append, List.head?_cons, Option.some.injEq] at hh
          have ht : t = [] := by have := h3 (by simp [hh]); simpa using this
          subst ht
          have : Lib.decDigits (m / 10) = [UInt8.ofNat (48 + 0)] := by rw [hd, hh]; rfl
          rw [hh] at h1
          have hz : Lib.digitVal 48 = some 0 := by decide
          simp only [Lib.decFrom, hz, Option.some.injEq] at h1
          omega
theorem trim_minus (d : List UInt8) : Lib.trimPrefix (45 :: d) [45] = d := by simp [Lib.trimPrefix, Lib.hasPrefix]
theorem trim_other (l : List UInt8) (h : l.head? ≠ some 45) : Lib.trimPrefix l [45] = l := by
  unfold Lib.trimPrefix Lib.hasPrefix
  rw [if_neg]
  intro hp
  cases l with
  | nil => simp at hp
  | cons a t =>
    simp only [List.isPrefixOf, Bool.and_eq_true, beq_iff_eq] at hp
    exact h (by simp [hp.1.symm])
theorem parseU : ∀ (l : List UInt8) (acc m : Nat), Lib.decFrom acc l = some m → m < 1000000000000000000 → Lib.parseUintM (2 ^ 64 - 1) acc l = .ok m
  | [], acc, m, h, _ => by simp only [Lib.decFrom, Option.some.injEq] at h; simp [Lib.parseUintM, h]
  | a :: t, acc, m, h, hm => by
    simp only [Lib.decFrom] at h
    cases ha : Lib.digitVal a with
    | none => simp [ha] at h
    | some e =>
      simp only [ha] at h
      obtain ⟨h1, h2, rfl⟩ := Lib.digitVal_eq ha
      have hge := decFrom_ge t _ m h
      rw [Lib.parseUintM, if_pos ⟨h1, h2⟩, if_neg (by omega), if_neg (by omega)]
      exact parseU t _ m h hm
theorem magOf_some {one : Bool} {d : List UInt8} {m : Nat} (h : magOf one d = some m) : d ≠ [] ∧ d.length ≤ 18 ∧ (d.head? = some 48 → one = false) ∧ Lib.decFrom 0 d = some m ∧ m < 1000000000000000000 := by
  unfold magOf at h
  split at h
  · cases h
  · rename_i hc
    refine ⟨fun e => hc (.inl e), by have : ¬ 18 < d.length := fun e => hc (.inr (.inl e)); omega, fun e => ?_, h, ?_⟩
    · cases one
      · rfl
      · exact absurd (.inr (.inr ⟨e, rfl⟩)) hc
    · have h1 := Lib.decFrom_lt d 0 m h
      have hl : d.length ≤ 18 := by have : ¬ 18 < d.length := fun e => hc (.inr (.inl e)); omega
      have h2 : 10 ^ d.length ≤ 10 ^ 18 := Nat.pow_le_pow_right (by omega) hl
      omega
theorem parse_of {d : List UInt8} {m : Nat} (hne : d ≠ []) (h : Lib.decFrom 0 d = some m) (hm : m < 1000000000000000000) : Lib.parseUintB 64 d = .ok m := by
  unfold Lib.parseUintB
  rw [if_neg hne]
  exact parseU d 0 m h hm
theorem first_digit {a : UInt8} {t : List UInt8} {m : Nat} (h : Lib.decFrom 0 (a :: t) = some m) : 48 ≤ a.toNat ∧ a.toNat ≤ 57 := by
  obtain ⟨e, he⟩ := Lib.digit_of_decFrom (a :: t) 0 m h 0 a rfl
  have := Lib.digitVal_eq he
  omega
theorem u8_45 {a : UInt8} (h : a ≠ 45) : a.toNat ≠ 45 := by intro e; apply h; exact UInt8.toNat_inj.1 e

theorem spec_impl {l : List UInt8} {v : Int} (h : specNum l = some v) : implNum l = some v := by
  unfold specNum at h
  unfold implNum
  split at h
  · rename_i d
    obtain ⟨m, hm, rfl⟩ := Option.map_eq_some_iff.1 h
    obtain ⟨h1, h2, h3, h4, h5⟩ := magOf_some hm
    have hhead : d.head? ≠ some 48 := fun e => by have := h3 e; cases this
    have hpos : 1 ≤ m := by
      cases d with
      | nil => exact absurd rfl h1
      | cons a t => exact head_pos h4 (by simpa using hhead)
    have hdd : Lib.decDigits m = d := digits_back (d.length - 1) d m (by have : d.length ≠ 0 := fun e => h1 (List.eq_nil_of_length_eq_zero e); omega) (.inl hhead) h4
    rw [trim_minus, if_neg (by omega)]
    have hp : Lib.parseIntB 64 (45 :: d) = .ok (-(m : Int)) := by
      unfold Lib.parseIntB
      simp only [show ((45 : UInt8).toNat = 43 ∨ (45 : UInt8).toNat = 45) ↔ True from by decide, if_true, parse_of h1 h4 h5]
      rw [if_neg (by simp), if_neg (by simp; omega), if_pos (by decide)]
    rw [hp]
    simp only
    rw [if_pos]
    unfold Lib.itoa
    rw [if_pos (by omega), show (-(m : Int)).natAbs = m from by omega, hdd]
  · rename_i l' hne
    obtain ⟨m, hm, rfl⟩ := Option.map_eq_some_iff.1 h
    obtain ⟨h1, h2, h3, h4, h5⟩ := magOf_some hm
    have hdd : Lib.decDigits m = l := digits_back (l.length - 1) l m (by have : l.length ≠ 0 := fun e => h1 (List.eq_nil_of_length_eq_zero e); omega) (by
      by_cases e : l.head? = some 48
      · right; have := h3 e; have hl : ¬ 1 < l.length := by simpa using this
        have : l.length ≠ 0 := fun e => h1 (List.eq_nil_of_length_eq_zero e)
        omega
      · exact .inl e) h4
    cases l with
    | nil => exact absurd rfl h1
    | cons a t =>
      have hd := first_digit h4
      rw [trim_other _ (by intro e; simp at e; rw [e] at hd; simp at hd), if_neg (by omega)]
      have hp : Lib.parseIntB 64 (a :: t) = .ok (m : Int) := by
        unfold Lib.parseIntB
        simp only [show (a.toNat = 43 ∨ a.toNat = 45) ↔ False from ⟨fun h => by omega, False.elim⟩, if_false, parse_of h1 h4 h5]
        rw [if_neg (by simp; omega), if_neg (by omega), if_neg (by omega)]
      rw [hp]
      simp only
      rw [if_pos]
      unfold Lib.itoa
      rw [if_neg (by omega)]
      exact hdd

theorem spec_of_itoa (v : Int) (h : (Lib.trimPrefix (Lib.itoa v) [45]).length ≤ 18) : specNum (Lib.itoa v) = some v := by
  by_cases hv : v < 0
  · obtain ⟨h1, h2, h3⟩ := digits_read v.natAbs
    have e : Lib.itoa v = 45 :: Lib.decDigits v.natAbs := by unfold Lib.itoa; rw [if_pos hv]
    rw [e] at h ⊢
    rw [trim_minus] at h
    have hm : magOf true (Lib.decDigits v.natAbs) = some v.natAbs := by
      unfold magOf
      rw [if_neg, h1]
      rintro (c | c | ⟨c, _⟩)
      · exact h2 c
      · omega
      · have hl := h3 c
        have : v.natAbs = 0 := by
          cases hd : Lib.decDigits v.natAbs with
          | nil => exact absurd hd h2
          | cons a t =>
            rw [hd] at hl c h1
            have ht : t = [] := by simpa using hl
            subst ht
            simp only [List.head?_cons, Option.some.injEq] at c
            rw [c] at h1
            have hz : Lib.digitVal 48 = some 0 := by decide
            simp only [Lib.decFrom, hz, Option.some.injEq] at h1
            omega
        omega
    unfold specNum
    simp only [hm, Option.map_some]
    congr 1; omega
  · obtain ⟨h1, h2, h3⟩ := digits_read v.toNat
    have e : Lib.itoa v = Lib.decDigits v.toNat := by unfold Lib.itoa; rw [if_neg hv]
    rw [e] at h ⊢
    cases hd : Lib.decDigits v.toNat with
    | nil => exact absurd hd h2
    | cons a t =>
      rw [hd] at h h1 h2 h3
      have hf := first_digit h1
      have ha : a ≠ 45 := by intro e; rw [e] at hf; simp at hf
      rw [trim_other _ (by simpa using ha)] at h
      have hm : magOf (decide (1 < (a :: t).length)) (a :: t) = some v.toNat := by
        unfold magOf
        rw [if_neg, h1]
        rintro (c | c | ⟨c, c2⟩)
        · cases c
        · omega
        · have := h3 c; simp only [decide_eq_true_eq] at c2; omega
      have hs : specNum (a :: t) = (magOf (decide (1 < (a :: t).length)) (a :: t)).map fun (m : Nat) => (m : Int) := by
        unfold specNum
        split
        · rename_i d heq
          simp only [List.cons.injEq] at heq
          exact absurd heq.1 ha
        · rfl
      rw [hs, hm]
      simp only [Option.map_some]
      congr 1; omega

theorem impl_spec (l : List UInt8) : implNum l = specNum l := by
  cases hs : specNum l with
  | some v => exact spec_impl hs
  | none =>
    cases hi : implNum l with
    | none => rfl
    | some v =>
      exfalso
      unfold implNum at hi
      split at hi
      · cases hi
      · rename_i hlen
        split at hi
        · rename_i u _
          split at hi
          · rename_i he
            have := spec_of_itoa u (by rw [he]; omega)
            rw [he, hs] at this
            cases this
          · cases hi
        · cases hi
theorem parse_bd {l : List UInt8} {v : Int} (h : Lib.parseIntB 64 l = .ok v) : -9223372036854775808 ≤ v ∧ v ≤ 9223372036854775807 := by
  unfold Lib.parseIntB at h
  split at h
  · cases h
  · simp only at h
    split at h
    · cases h
    · cases h
    · split at h
      · cases h
      · rename_i c1
        split at h
        · cases h
        · rename_i c2
          simp only [Lib.NumEnd.ok.injEq] at h
          subst h
          split <;> rename_i c3 <;> simp [c3] at c1 c2 <;> omega
end Go.Proofs.YtjicnfgpbbganabDoor
