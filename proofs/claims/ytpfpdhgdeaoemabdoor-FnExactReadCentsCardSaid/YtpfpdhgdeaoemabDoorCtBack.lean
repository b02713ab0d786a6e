/- ReadCents, the mathematics. -/
import Derived.Test.YtpfpdhgdeaoemabDoorHzBack
namespace Go.Proofs.YtpfpdhgdeaoemabDoor
open Go

/-- The reference model's reading of cents. -/
def ctSpec (s : ByteArray) : Option Int :=
  match s.data.toList with
  | [] => none
  | c :: r => if c = 43 ∨ c = 45 then (match ptNum 1 r with
    | some t => if c = 45 ∧ t = 0 then none else (if okT (if c = 45 then -(t : Int) else t) = true then some (if c = 45 then -(t : Int) else t) else none)
    | none => none) else none
theorem ct_digits (n : Nat) : Lib.decFrom 0 (Lib.decDigits (n / 10) ++ [dg (n % 10)]) = some n := by
  rw [decFrom_snoc, (digits_read (n / 10)).1]
  simp only [Option.bind_some, val_dg (n % 10) (by omega), Option.map_some]
  congr 1
  omega
theorem pt_ctL (n : Nat) (h : n ≤ 120000) : ptNum 1 (ctL n) = some n := by
  have hq := (digits_read (n / 10)).1
  have hr := from_one (n / 10) (n % 10) (by omega)
  have hsn : specNum (Lib.decDigits (n / 10)) = some ((n / 10 : Nat) : Int) := by
    rw [← itoa_nat]; exact num_itoa _ (by rw [itoa_nat]; exact digits_short (by omega))
  unfold ptNum ctL
  rw [split_pt (dig_no46 hq) (dig_no46 hr)]
  unfold ptOf
  simp only [hsn]
  rw [if_pos (show [dg (n % 10)].length = 1 from rfl), if_pos ⟨by omega, by omega⟩]
  show Lib.decFrom (n / 10) [dg (n % 10)] = some n
  rw [hr]
  congr 1
  omega
theorem ctL_pt {l : List UInt8} {t : Nat} (h : ptNum 1 l = some t) : l = ctL t := by
  unfold ptNum ptOf at h
  split at h
  · rename_i a b hab
    split at h
    · rename_i hbl
      split at h
      · rename_i n hn
        split at h
        · rename_i hr
          obtain ⟨e1, e2⟩ := one_back hbl h
          have hj := split_two hab
          have ha := num_back hn
          obtain ⟨m, rfl⟩ := Int.eq_ofNat_of_zero_le hr.1
          rw [itoa_nat] at ha
          have em : m = t / 10 := e1
          rw [hj, ← ha, e2, em]
          rfl
        · cases h
      · cases h
    · cases h
  · cases h
theorem sgn_no46 (v : Int) : sgn v ≠ 46 := by unfold sgn; split <;> decide
theorem strk_ct (v : Int) (n : Nat) : strk (sgn v :: ctL n) = sgn v :: (Lib.decDigits (n / 10) ++ [dg (n % 10)]) := by
  have hq := (digits_read (n / 10)).1
  have := strk_pt (a := sgn v :: Lib.decDigits (n / 10)) (b := [dg (n % 10)]) (by
    intro x hx
    rcases List.mem_cons.1 hx with rfl | hx
    · exact sgn_no46 v
    · exact dig_no46 hq x hx)
  unfold ctL
  simpa using this
theorem parse_ct (v : Int) (h0 : -120000 ≤ v) (h1 : v ≤ 120000) : Lib.parseIntB 64 (sgn v :: (Lib.decDigits (v.natAbs / 10) ++ [dg (v.natAbs % 10)])) = .ok v := by
  have hp := parse_of (by simp) (ct_digits v.natAbs) (by omega : v.natAbs < 1000000000000000000)
  unfold Lib.parseIntB
  by_cases hv : v < 0
  · rw [show sgn v = 45 by unfold sgn; rw [if_pos hv]]
    simp only [show ((45 : UInt8).toNat = 43 ∨ (45 : UInt8).toNat = 45) ↔ True from by decide, if_true, hp]
    rw [if_neg (by simp), if_neg (by simp; omega), if_pos (by decide)]
    congr 1
    omega
  · rw [show sgn v = 43 by unfold sgn; rw [if_neg hv]]
    simp only [show ((43 : UInt8).toNat = 43 ∨ (43 : UInt8).toNat = 45) ↔ True from by decide, if_true, hp]
    rw [if_neg (by simp; omega), if_neg (by simp), if_neg (by decide)]
    congr 1
    omega
theorem ct_back (s : ByteArray) : ctSpec s = rdV ctTx s := by
  have fwd : ∀ v : Int, okT v = true → s = ctT v → ctSpec s = some v ∧ rdV ctTx s = some v := by
    intro v hv hs
    obtain ⟨h0, h1⟩ := okT_iff.1 hv
    have hl : s.data.toList = sgn v :: ctL v.natAbs := by rw [hs]; rfl
    refine ⟨?_, ?_⟩
    · unfold ctSpec
      rw [hl]
      simp only [pt_ctL v.natAbs (by omega)]
      by_cases hn : v < 0
      · rw [show sgn v = 45 by unfold sgn; rw [if_pos hn]]
        rw [if_pos (.inr rfl), if_neg (by rintro ⟨_, h⟩; omega), if_pos rfl, show -(v.natAbs : Int) = v by omega, if_pos hv]
      · rw [show sgn v = 43 by unfold sgn; rw [if_neg hn]]
        rw [if_pos (.inl rfl), if_neg (by rintro ⟨h, _⟩; revert h; decide), if_neg (show ¬ ((43 : UInt8) = 45) by decide), show (v.natAbs : Int) = v by omega, if_pos hv]
    · unfold rdV
      rw [hl, strk_ct, parse_ct v h0 h1]
      simp only
      rw [if_pos]
      unfold ctTx
      rw [if_pos hv, hs]
  cases hs : ctSpec s with
  | some v =>
    have hst : okT v = true ∧ s = ctT v := by
      unfold ctSpec at hs
      split at hs
      · cases hs
      · rename_i c r hl
        split at hs
        · rename_i hc
          split at hs
          · rename_i t ht
            have hr := ctL_pt ht
            split at hs
            · cases hs
            · rename_i hz
              by_cases h45 : c = 45
              · have ht0 : t ≠ 0 := fun e => hz ⟨h45, e⟩
                rw [if_pos h45] at hs
                split at hs
                · rename_i ho
                  simp only [Option.some.injEq] at hs
                  subst hs
                  refine ⟨ho, ?_⟩
                  apply text_eq
                  rw [hl, hr, show sgn (-(t : Int)) = 45 by unfold sgn; rw [if_pos (by omega)], show (-(t : Int)).natAbs = t by omega, h45]
                · cases hs
              · have h43 : c = 43 := hc.resolve_right h45
                rw [if_neg h45] at hs
                split at hs
                · rename_i ho
                  simp only [Option.some.injEq] at hs
                  subst hs
                  refine ⟨ho, ?_⟩
                  apply text_eq
                  rw [hl, hr, show sgn (t : Int) = 43 by unfold sgn; rw [if_neg (by omega)], show (t : Int).natAbs = t by omega, h43]
                · cases hs
          · cases hs
        · cases hs
    exact (fwd v hst.1 hst.2).2.symm
  | none =>
    cases hr : rdV ctTx s with
    | none => rfl
    | some v =>
      exfalso
      unfold rdV at hr
      cases hp : Lib.parseIntB 64 (strk s.data.toList) with
      | ok u =>
        rw [hp] at hr
        simp only at hr
        split at hr
        · rename_i e
          unfold ctTx at e
          split at e
          · rename_i hf
            have := (fwd u hf e.symm).1
            rw [hs] at this
            cases this
          · rw [← e] at hp
            have : Lib.parseIntB 64 (strk (ByteArray.empty.data.toList)) ≠ .ok u := by
              intro h
              have h2 : strk (ByteArray.empty.data.toList) = [] := by
                have := strk_len (ByteArray.empty.data.toList)
                exact List.eq_nil_of_length_eq_zero (by simpa using this)
              rw [h2] at h
              cases h
            exact this hp
        · cases hr
      | _ => rw [hp] at hr; cases hr
end Go.Proofs.YtpfpdhgdeaoemabDoor
