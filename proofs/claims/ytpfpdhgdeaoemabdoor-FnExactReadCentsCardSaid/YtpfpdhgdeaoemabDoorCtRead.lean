/- ReadCents: the reference model's walk. -/
import Derived.Test.YtpfpdhgdeaoemabDoorCtBack
namespace Go.Proofs.YtpfpdhgdeaoemabDoor
open Go.ChangeShapes Go.WideShapes Go.ChangeAt Go.RowKit

theorem pt_nil {d : Nat} : ptNum d [] = none := rfl
theorem ct_short {s : ByteArray} (h : s.size < 2) : ctSpec s = none := by
  unfold ctSpec
  have hl := list_len s
  split
  · rfl
  · rename_i c r hr
    rw [hr] at hl
    have : r = [] := List.eq_nil_of_length_eq_zero (by simp at hl; omega)
    rw [this]
    simp only [pt_nil]
    split <;> rfl
theorem ct_cons {s : ByteArray} (h : 0 < s.size) : ctSpec s = (if s[0] = 43 ∨ s[0] = 45 then (match ptNum 1 (s.data.toList.drop 1) with
    | some t => if s[0] = 45 ∧ t = 0 then none else (if okT (if s[0] = 45 then -(t : Int) else t) = true then some (if s[0] = 45 then -(t : Int) else t) else none)
    | none => none) else none) := by
  unfold ctSpec
  rw [list_cons s h]
  simp only [List.drop_succ_cons, List.drop_zero]
  rfl

theorem pt_bound {l : List UInt8} {t : Nat} (h : ptNum 1 l = some t) : t ≤ 1000000009 := by
  unfold ptNum ptOf at h
  split at h
  · split at h
    · rename_i hbl
      split at h
      · split at h
        · rename_i n _ hr
          have e := (one_back hbl h).1
          obtain ⟨h1, h2⟩ := hr
          omega
        · cases h
      · cases h
    · cases h
  · cases h

set_option maxRecDepth 20000 in
set_option maxHeartbeats 2000000 in
theorem specReadCents_any (s : ByteArray) (w : World) (hs : s.size ≤ 1048576) :
    Calls Tryd.prog 16 #[.string s] w fun e w' => PairIs (rdV ctTx s) e ∧ Below w.heap.size w w' := by
  have HE := Lib.hid (ct_back s)
  by_cases h2 : s.size < 2
  · have HR := Lib.hid (show rdV ctTx s = none by rw [← HE.out]; exact ct_short h2)
    have h2' : (s.size : Int) < 2 := by omega
    go_enter Tryd.func16, Tryd.ntmps16
    go_wp2
    go_ret2
    exact ⟨by unfold PairIs; rw [HR.out]; rfl, Below.refl _ _⟩
  · have hpos : 0 < s.size := by omega
    have HC := Lib.hid (ct_cons hpos)
    have h2' : ¬ (s.size : Int) < 2 := by omega
    by_cases hc : s[0] = 43 ∨ s[0] = 45
    · have hx : (s.extract 1 s.size).data.toList = s.data.toList.drop 1 := by
        rw [Lib.extract_data, List.take_of_length_le (by rw [List.length_drop, list_len]; exact Nat.le_refl _)]
      have hxs : (s.extract 1 s.size).size ≤ s.size := by rw [ByteArray.size_extract]; omega
      have HC2 := Lib.hid (show ctSpec s = _ from (HC.out.trans (if_pos hc)))
      rw [← hx] at HC2
      clear hx
      rcases hc with h0 | h0
      · have m1 : (((s[0].toNat : Nat) : Int) != 43) = false := by rw [h0]; rfl
        have m2 : (((s[0].toNat : Nat) : Int) == 45) = false := by rw [h0]; rfl
        have e45 : ¬ s[0] = 45 := by rw [h0]; decide
        have E45 := Lib.hid e45
        clear e45
        go_enter Tryd.func16, Tryd.ntmps16
        go_wp2_with fail
        refine (l02Point_any (s.extract 1 s.size) 1 _ (by omega) (by omega)).mono ?_
        rintro e w1 ⟨he, hb1⟩
        unfold PtRet at he
        subst he
        have HB1 := Lib.hid hb1
        clear hb1
        cases hp : ptNum 1 (s.extract 1 s.size).data.toList with
        | none =>
          have HR := Lib.hid (show rdV ctTx s = none by rw [← HE.out, HC2.out, hp])
          rw [show ((none : Option Nat).getD 0) = 0 from rfl, show (none : Option Nat).isSome = false from rfl]
          clear hp
          go_wp2
          go_ret2
          exact ⟨by unfold PairIs; rw [HR.out]; rfl, HB1.out⟩
        | some t =>
          have ht0 : t ≤ 1000000009 := pt_bound hp
          rw [show ((some t : Option Nat).getD 0) = t from rfl, show (some t : Option Nat).isSome = true from rfl]
          by_cases ho : okT (t : Int) = true
          · have HR := Lib.hid (show rdV ctTx s = some (t : Int) by rw [← HE.out, HC2.out, hp]; simp only; rw [if_neg (fun h => E45.out h.1), if_neg E45.out]; rw [if_pos ho])
            have HO := Lib.hid ho
            clear hp ho
            go_wp2_with fail
            refine (l02Interval_any _ _).mono ?_
            rintro e w2 ⟨rfl, rfl⟩
            rw [HO.out]
            go_wp2
            go_ret2
            exact ⟨by unfold PairIs; rw [HR.out]; rfl, HB1.out⟩
          · have HR := Lib.hid (show rdV ctTx s = none by rw [← HE.out, HC2.out, hp]; simp only; rw [if_neg (fun h => E45.out h.1), if_neg E45.out]; rw [if_neg ho])
            have HO := Lib.hid (show okT (t : Int) = false by simpa using ho)
            clear hp ho
            go_wp2_with fail
            refine (l02Interval_any _ _).mono ?_
            rintro e w2 ⟨rfl, rfl⟩
            rw [HO.out]
            go_wp2
            go_ret2
            exact ⟨by unfold PairIs; rw [HR.out]; rfl, HB1.out⟩
      · have m1 : (((s[0].toNat : Nat) : Int) != 43) = true := by rw [h0]; rfl
        have m3 : (((s[0].toNat : Nat) : Int) != 45) = false := by rw [h0]; rfl
        have m2 : (((s[0].toNat : Nat) : Int) == 45) = true := by rw [h0]; rfl
        have E45 := Lib.hid h0
        go_enter Tryd.func16, Tryd.ntmps16
        go_wp2_with fail
        refine (l02Point_any (s.extract 1 s.size) 1 _ (by omega) (by omega)).mono ?_
        rintro e w1 ⟨he, hb1⟩
        unfold PtRet at he
        subst he
        have HB1 := Lib.hid hb1
        clear hb1
        cases hp : ptNum 1 (s.extract 1 s.size).data.toList with
        | none =>
          have HR := Lib.hid (show rdV ctTx s = none by rw [← HE.out, HC2.out, hp])
          rw [show ((none : Option Nat).getD 0) = 0 from rfl, show (none : Option Nat).isSome = false from rfl]
          clear hp
          go_wp2
          go_ret2
          exact ⟨by unfold PairIs; rw [HR.out]; rfl, HB1.out⟩
        | some t =>
          have ht0 : t ≤ 1000000009 := pt_bound hp
          rw [show ((some t : Option Nat).getD 0) = t from rfl, show (some t : Option Nat).isSome = true from rfl]
          by_cases hz : t = 0
          · have HR := Lib.hid (show rdV ctTx s = none by rw [← HE.out, HC2.out, hp]; simp only; rw [if_pos ⟨E45.out, hz⟩])
            clear hp
            subst hz
            go_wp2
            go_ret2
            exact ⟨by unfold PairIs; rw [HR.out]; rfl, HB1.out⟩
          · have hz' : ((t : Int) == 0) = false := beq_eq_false_iff_ne.2 (by omega)
            have HZ := Lib.hid hz
            clear hz
            by_cases ho : okT (-(t : Int)) = true
            · have HR := Lib.hid (show rdV ctTx s = some (-(t : Int)) by rw [← HE.out, HC2.out, hp]; simp only; rw [if_neg (fun h => HZ.out h.2), if_pos E45.out]; rw [if_pos ho])
              have HO := Lib.hid ho
              clear hp ho
              go_wp2_with fail
              refine (l02Interval_any _ _).mono ?_
              rintro e w2 ⟨rfl, rfl⟩
              rw [HO.out]
              go_wp2
              go_ret2
              exact ⟨by unfold PairIs; rw [HR.out]; rfl, HB1.out⟩
            · have HR := Lib.hid (show rdV ctTx s = none by rw [← HE.out, HC2.out, hp]; simp only; rw [if_neg (fun h => HZ.out h.2), if_pos E45.out]; rw [if_neg ho])
              have HO := Lib.hid (show okT (-(t : Int)) = false by simpa using ho)
              clear hp ho
              go_wp2_with fail
              refine (l02Interval_any _ _).mono ?_
              rintro e w2 ⟨rfl, rfl⟩
              rw [HO.out]
              go_wp2
              go_ret2
              exact ⟨by unfold PairIs; rw [HR.out]; rfl, HB1.out⟩
    · have HR := Lib.hid (show rdV ctTx s = none by rw [← HE.out, HC.out, if_neg hc])
      have m1 : (((s[0].toNat : Nat) : Int) != 43) = true := bne_iff_ne.2 (fun e => hc (.inl (u8_is 43 (by omega))))
      have m2 : (((s[0].toNat : Nat) : Int) != 45) = true := bne_iff_ne.2 (fun e => hc (.inr (u8_is 45 (by omega))))
      clear hc
      go_enter Tryd.func16, Tryd.ntmps16
      go_wp2
      go_ret2
      exact ⟨by unfold PairIs; rw [HR.out]; rfl, Below.refl _ _⟩
end Go.Proofs.YtpfpdhgdeaoemabDoor
