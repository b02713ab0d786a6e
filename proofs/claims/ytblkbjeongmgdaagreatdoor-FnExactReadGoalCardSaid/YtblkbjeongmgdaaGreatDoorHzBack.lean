/- ReadHertz and ReadCents, the mathematics: a text with a point, put together, parted and struck. -/
import Derived.Test.YtblkbjeongmgdaaGreatDoorReadPt
import Derived.Test.YtblkbjeongmgdaaGreatDoorPtSpec
import Derived.Lib.IndexMore
import Derived.Lib.CountLaws
namespace Go.Proofs.YtblkbjeongmgdaaGreatDoor
open Go

theorem split_one {c : UInt8} : ∀ {l p : List UInt8}, splitL c l = [p] → l = p
  | [], p, h => by simpa [splitL] using h
  | x :: l, p, h => by
    rw [splitL] at h
    split at h
    · exact absurd (by simpa using h) (fun e : _ ∧ splitL c l = [] => splitL_ne c l e.2)
    · cases hs : splitL c l with
      | nil => exact absurd hs (splitL_ne c l)
      | cons q t =>
        rw [hs] at h
        simp only [headCons, List.cons.injEq] at h
        obtain ⟨rfl, rfl⟩ := h
        rw [split_one hs]
theorem split_two {c : UInt8} : ∀ {l a b : List UInt8}, splitL c l = [a, b] → l = a ++ c :: b
  | [], a, b, h => by simp [splitL] at h
  | x :: l, a, b, h => by
    rw [splitL] at h
    split at h
    · rename_i e
      simp only [List.cons.injEq] at h
      obtain ⟨rfl, h⟩ := h
      rw [split_one h, e]
      rfl
    · cases hs : splitL c l with
      | nil => exact absurd hs (splitL_ne c l)
      | cons q t =>
        rw [hs] at h
        simp only [headCons, List.cons.injEq] at h
        obtain ⟨rfl, rfl⟩ := h
        rw [split_two hs]
        rfl
theorem split_pt {a b : List UInt8} (ha : ∀ x ∈ a, x ≠ 46) (hb : ∀ x ∈ b, x ≠ 46) : splitL 46 (a ++ 46 :: b) = [a, b] := by
  rw [splitL_hit 46 b a ha, splitL_none 46 b hb]
theorem strk_pt {a b : List UInt8} (ha : ∀ x ∈ a, x ≠ 46) : strk (a ++ 46 :: b) = a ++ b := by
  have hs := splitL_hit 46 b a ha
  have hi : Lib.index (a ++ 46 :: b) [46] = a.length := by
    obtain ⟨h1, h2⟩ := splitL_index 46 (a ++ 46 :: b)
    rcases Lib.index_spec (a ++ 46 :: b) [46] with ⟨h, _⟩ | ⟨i, h, hle, _⟩
    · have := h1 h
      rw [hs] at this
      simp only [List.cons.injEq] at this
      exact absurd this.2 (splitL_ne 46 b)
    · have := h2 i h
      rw [hs] at this
      simp only [List.cons.injEq] at this
      have hl := congrArg List.length this.1
      have hr := Lib.index_room (a ++ 46 :: b) [46] (by rw [h]; omega)
      rw [h] at hr ⊢
      rw [List.length_take] at hl
      simp only [List.length_append, List.length_cons, List.length_nil] at hl hr
      omega
  have hc : Lib.count (a ++ 46 :: b) [46] = 1 + Lib.count ((a ++ 46 :: b).drop (a.length + [46].length)) [46] := Lib.count_hit (by simp) hi
  unfold strk Lib.replace
  rw [if_neg (by decide)]
  have hn : Lib.replaceNum (a ++ 46 :: b) [46] 1 = 1 := by
    unfold Lib.replaceNum
    split
    · rename_i h; rw [hc] at h ⊢; omega
    · rfl
  rw [hn, Lib.replaceK_hit [46] [] 0 _ _ hi]
  unfold Lib.replaceK
  simp
theorem dig_no46 {l : List UInt8} {acc n : Nat} (h : Lib.decFrom acc l = some n) : ∀ x ∈ l, x ≠ 46 := by
  intro x hx e
  obtain ⟨k, hk⟩ := List.mem_iff_getElem?.1 hx
  obtain ⟨d, hd⟩ := Lib.digit_of_decFrom l acc n h k x hk
  have := Lib.digitVal_eq hd
  rw [e] at this
  have e46 : (46 : UInt8).toNat = 46 := rfl
  omega
theorem val_dg (d : Nat) (h : d ≤ 9) : Lib.digitVal (dg d) = some d := val_of d h
theorem from_one (m d : Nat) (h : d ≤ 9) : Lib.decFrom m [dg d] = some (m * 10 + d) := by
  simp [Lib.decFrom, val_dg d h]
theorem from_three (m r : Nat) (h : r < 1000) : Lib.decFrom m (dg3 r) = some (m * 1000 + r) := by
  simp only [Lib.decFrom, dg3, val_dg (r / 100) (by omega), val_dg (r / 10 % 10) (by omega), val_dg (r % 10) (by omega)]
  congr 1
  omega
theorem one_back {m f : Nat} {b : List UInt8} (hl : b.length = 1) (h : Lib.decFrom m b = some f) : m = f / 10 ∧ b = [dg (f % 10)] := by
  match b, hl with
  | [x], _ =>
    simp only [Lib.decFrom] at h
    cases hx : Lib.digitVal x with
    | none => rw [hx] at h; cases h
    | some d =>
      rw [hx] at h
      have hd := Lib.digitVal_eq hx
      have e := byte_of hx
      simp only [Option.some.injEq] at h
      refine ⟨by omega, ?_⟩
      rw [← e, show f % 10 = d by omega]
      rfl
theorem three_back {m f : Nat} {b : List UInt8} (hl : b.length = 3) (h : Lib.decFrom m b = some f) : m = f / 1000 ∧ b = dg3 (f % 1000) := by
  match b, hl with
  | [x, y, z], _ =>
    simp only [Lib.decFrom] at h
    cases hx : Lib.digitVal x with
    | none => rw [hx] at h; cases h
    | some d =>
      rw [hx] at h
      simp only at h
      cases hy : Lib.digitVal y with
      | none => rw [hy] at h; cases h
      | some d2 =>
        rw [hy] at h
        simp only at h
        cases hz : Lib.digitVal z with
        | none => rw [hz] at h; cases h
        | some d3 =>
          rw [hz] at h
          have h1 := Lib.digitVal_eq hx
          have h2 := Lib.digitVal_eq hy
          have h3 := Lib.digitVal_eq hz
          have e1 := byte_of hx
          have e2 := byte_of hy
          have e3 := byte_of hz
          simp only [Option.some.injEq] at h
          refine ⟨by omega, ?_⟩
          unfold dg3 dg
          rw [← e1, ← e2, ← e3, show f % 1000 / 100 = d by omega, show f % 1000 / 10 % 10 = d2 by omega, show f % 1000 % 10 = d3 by omega]
theorem itoa_nat (n : Nat) : Lib.itoa (n : Int) = Lib.decDigits n := by unfold Lib.itoa; rw [if_neg (by omega)]; rfl
theorem trim_len (l : List UInt8) : (Lib.trimPrefix l [45]).length ≤ l.length := by
  unfold Lib.trimPrefix
  split
  · rw [List.length_drop]; omega
  · omega
theorem parse_impl {l : List UInt8} {v : Int} (h : implNum l = some v) : Lib.parseIntB 64 l = .ok v ∧ Lib.itoa v = l := by
  unfold implNum at h
  split at h
  · cases h
  · cases hp : Lib.parseIntB 64 l with
    | ok u =>
      rw [hp] at h
      simp only at h
      split at h
      · rename_i e
        simp only [Option.some.injEq] at h
        subst h
        exact ⟨rfl, e⟩
      · cases h
    | _ => rw [hp] at h; cases h
theorem num_itoa (v : Int) (h : (Lib.itoa v).length ≤ 18) : specNum (Lib.itoa v) = some v := spec_of_itoa v (Nat.le_trans (trim_len _) h)
theorem num_back {l : List UInt8} {v : Int} (h : specNum l = some v) : Lib.itoa v = l := (parse_impl (spec_impl h)).2
theorem parse_itoa (v : Int) (h : (Lib.itoa v).length ≤ 18) : Lib.parseIntB 64 (Lib.itoa v) = .ok v := (parse_impl (spec_impl (num_itoa v h))).1
theorem digits_short {n : Nat} (h : n < 1000000000) : (Lib.decDigits n).length ≤ 18 := by
  have h1 : ∀ k n : Nat, n < 10 ^ k → (Lib.decDigits n).length ≤ max 1 k := by
    intro k
    induction k with
    | zero => intro n hn; rw [dec_small n (by omega)]; simp
    | succ k ih =>
      intro n hn
      by_cases h10 : n < 10
      · rw [dec_small n h10]; simp
      · rw [dec_step n h10, List.length_append]
        have := ih (n / 10) (by rw [Nat.pow_succ] at hn; omega)
        have hk : 1 ≤ k := by
          rcases Nat.eq_zero_or_pos k with rfl | h
          · simp at hn; omega
          · exact h
        simp only [List.length_cons, List.length_nil]
        omega
  have := h1 9 n (by omega)
  omega

/-- The reference model's reading of hertz. -/
def hzSpec (s : ByteArray) : Option Int := match ptNum 3 s.data.toList with | some f => if okF f = true then some (f : Int) else none | none => none
theorem hz_back (s : ByteArray) : hzSpec s = rdV hzTx s := by
  have fwd : ∀ f : Nat, okF f = true → s = hzT f → hzSpec s = some (f : Int) ∧ rdV hzTx s = some (f : Int) := by
    intro f hf hs
    obtain ⟨h0, h1⟩ := okF_iff.1 hf
    have hl : s.data.toList = Lib.decDigits (f / 1000) ++ 46 :: dg3 (f % 1000) := by rw [hs]; rfl
    have hq := (digits_read (f / 1000)).1
    have hr := from_three (f / 1000) (f % 1000) (by omega)
    have n1 := dig_no46 hq
    have n2 := dig_no46 hr
    refine ⟨?_, ?_⟩
    · unfold hzSpec ptNum
      rw [hl, split_pt n1 n2]
      have hsn : specNum (Lib.decDigits (f / 1000)) = some ((f / 1000 : Nat) : Int) := by
        rw [← itoa_nat]; exact num_itoa _ (by rw [itoa_nat]; exact digits_short (by omega))
      have : ptOf 3 [Lib.decDigits (f / 1000), dg3 (f % 1000)] = some f := by
        unfold ptOf
        simp only [hsn]
        rw [if_pos (show (dg3 (f % 1000)).length = 3 from rfl), if_pos ⟨by omega, by omega⟩]
        show Lib.decFrom (f / 1000) (dg3 (f % 1000)) = some f
        rw [hr]
        congr 1
        omega
      rw [this]
      simp only
      rw [if_pos hf]
    · unfold rdV
      rw [hl, strk_pt n1, ← digits_three f (by omega), ← itoa_nat, parse_itoa f (by rw [itoa_nat]; exact digits_short (by omega))]
      simp only
      rw [if_pos]
      unfold hzTx
      rw [if_pos hf, hs]
      rfl
  cases hs : hzSpec s with
  | some v =>
    unfold hzSpec at hs
    cases hp : ptNum 3 s.data.toList with
    | none => rw [hp] at hs; cases hs
    | some f =>
      rw [hp] at hs
      simp only at hs
      split at hs
      · rename_i hf
        simp only [Option.some.injEq] at hs
        have hst : s = hzT f := by
          unfold ptNum ptOf at hp
          split at hp
          · rename_i a b hab
            split at hp
            · rename_i hbl
              split at hp
              · rename_i n hn
                split at hp
                · rename_i hr
                  obtain ⟨e1, e2⟩ := three_back hbl hp
                  have hj := split_two hab
                  have ha := num_back hn
                  obtain ⟨m, rfl⟩ := Int.eq_ofNat_of_zero_le hr.1
                  rw [itoa_nat] at ha
                  have em : m = f / 1000 := e1
                  apply text_eq
                  rw [hj, ← ha, e2, em]
                  rfl
                · cases hp
              · cases hp
            · cases hp
          · cases hp
        rw [← hs]
        exact (fwd f hf hst).2.symm
      · cases hs
  | none =>
    cases hr : rdV hzTx s with
    | none => rfl
    | some v =>
      exfalso
      have hr0 := hr
      unfold rdV at hr
      cases hp : Lib.parseIntB 64 (strk s.data.toList) with
      | ok u =>
        rw [hp] at hr
        simp only at hr
        split at hr
        · rename_i e
          unfold hzTx at e
          split at e
          · rename_i hf
            obtain ⟨n, rfl⟩ := Int.eq_ofNat_of_zero_le (by have := okF_iff.1 hf; omega : 0 ≤ u)
            have := (fwd n hf e.symm).1
            rw [hs] at this
            cases this
          · rw [← e] at hp
            have : Lib.parseIntB 64 (strk (ByteArray.empty.data.toList)) ≠ .ok u := by
              intro h
              have h2 : strk (ByteArray.empty.data.toList) = [] := by
                have := strk_len (ByteArray.empty.data.toList)
                exact List.eq_nil_of_length_eq_zero (by simpa using this)
              rw [h2] at h
              cases h
            exact this hp
        · cases hr
      | _ => rw [hp] at hr; cases hr
end Go.Proofs.YtblkbjeongmgdaaGreatDoor
