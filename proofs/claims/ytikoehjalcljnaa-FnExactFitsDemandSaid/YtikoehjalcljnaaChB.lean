/- Choices as bits: the mathematics; last, with, has, OnesCount16. -/
import Derived.Test.YtikoehjalcljnaaIngI
import Derived.Test.YtikoehjalcljnaaShelfL
import Derived.Test.YtikoehjalcljnaaRise
import Derived.Test.YtikoehjalcljnaaIvL
import Derived.Lib.BitFns
import Derived.Deep.QuietTactic
import Derived.BigQuiet
import Derived.OwnWalk
import Derived.Laws.AppendOwn
set_option linter.unusedVariables false
namespace Go.Proofs.Ytikoehjalcljnaa
open Go.ChangeShapes Go.WideShapes Go.ChangeAt Go.RowKit

theorem wrap_u16 (n : Nat) (h : n < 65536) : IntKind.u16.wrap (n : Int) = (n : Int) := by
  have h1 : IntKind.u16.signed = false := rfl
  have h2 : IntKind.u16.bits = 16 := rfl
  unfold IntKind.wrap
  rw [h1, h2]
  simp only [Bool.false_and]
  rw [if_neg (by simp)]
  omega
theorem ofint_u16 (n : Nat) (h : n < 65536) : (BitVec.ofInt IntKind.u16.bits (n : Int)).toNat = n := by
  have h2 : IntKind.u16.bits = 16 := rfl
  rw [h2, BitVec.ofInt_natCast, BitVec.toNat_ofNat]
  exact Nat.mod_eq_of_lt h
theorem two_pow16 {i : Nat} (hi : i < 16) : 2 ^ i < 65536 := by
  have := Nat.pow_lt_pow_right (a := 2) (by omega) hi
  simpa using this
theorem pow_wrap {i : Nat} (hi : i < 16) : IntKind.u16.wrap (2 ^ i : Int) = ((2 ^ i : Nat) : Int) := by
  have h3 : (2 : Int) ^ i = ((2 ^ i : Nat) : Int) := by push_cast; rfl
  rw [h3, wrap_u16 _ (two_pow16 hi)]
theorem or_nat (c i : Nat) (hc : c < 65536) (hi : i < 16) : bits .or .u16 (c : Int) (IntKind.u16.wrap (2 ^ i)) = ((c ||| 2 ^ i : Nat) : Int) := by
  rw [pow_wrap hi]
  unfold bits
  simp only
  rw [BitVec.toNat_or, ofint_u16 _ hc, ofint_u16 _ (two_pow16 hi)]
  exact wrap_u16 _ (Nat.or_lt_two_pow (n := 16) hc (two_pow16 hi))
theorem and_pow (c i : Nat) : c &&& 2 ^ i = if c.testBit i then 2 ^ i else 0 := by
  apply Nat.eq_of_testBit_eq
  intro j
  rw [Nat.testBit_and, Nat.testBit_two_pow]
  by_cases h : i = j
  · subst h
    cases hc : c.testBit i <;> simp
  · cases hc : c.testBit i
    · simp [h]
    · simp [h]
theorem and_nat (c i : Nat) (hc : c < 65536) (hi : i < 16) : (bits .and .u16 (c : Int) (IntKind.u16.wrap (2 ^ i)) != 0) = c.testBit i := by
  rw [pow_wrap hi]
  unfold bits
  simp only
  rw [BitVec.toNat_and, ofint_u16 _ hc, ofint_u16 _ (two_pow16 hi)]
  rw [wrap_u16 _ (Nat.lt_of_le_of_lt Nat.and_le_left hc), and_pow]
  have := Nat.two_pow_pos i
  have h0 : ((2 ^ i : Nat) : Int) ≠ 0 := by omega
  cases c.testBit i
  · rfl
  · rw [if_pos rfl]
    simpa using h0
theorem and_255 (c : Nat) (hc : c < 65536) : bits .and .u16 (c : Int) 255 = ((c % 256 : Nat) : Int) := by
  have h : (255 : Int) = ((255 : Nat) : Int) := rfl
  rw [h]
  unfold bits
  simp only
  rw [BitVec.toNat_and, ofint_u16 _ hc, ofint_u16 _ (by omega)]
  rw [show (255 : Nat) = 2 ^ 8 - 1 from rfl, Nat.and_two_pow_sub_one_eq_mod]
  exact wrap_u16 _ (by omega)
/-- The indices as bits. -/
def bitsC : List Int → Nat
  | [] => 0
  | z :: zs => 2 ^ z.toNat ||| bitsC zs
def bitsTo (zs : List Int) : Nat → Nat
  | 0 => 0
  | k + 1 => bitsTo zs k ||| 2 ^ (zs.getD k 0).toNat
theorem bitsTo_bit (zs : List Int) (k i : Nat) : (bitsTo zs k).testBit i = true ↔ ∃ j, j < k ∧ (zs.getD j 0).toNat = i := by
  induction k with
  | zero => simp [bitsTo]
  | succ k ih =>
    rw [bitsTo, Nat.testBit_or, Nat.testBit_two_pow, Bool.or_eq_true, ih, decide_eq_true_eq]
    constructor
    · rintro (⟨j, hj, h⟩ | h)
      · exact ⟨j, by omega, h⟩
      · exact ⟨k, by omega, h⟩
    · rintro ⟨j, hj, h⟩
      by_cases e : j = k
      · subst e; exact .inr h
      · exact .inl ⟨j, by omega, h⟩
/-- The first k numbers rise within 0 .. L - 1. -/
def RiseTo (L : Nat) (zs : List Int) (k : Nat) : Prop := ∀ j, j < k → riseAt 0 ((L : Int) - 1) zs j = true
theorem rise_bd {L : Nat} {zs : List Int} {k j : Nat} (h : RiseTo L zs k) (hj : j < k) : 0 ≤ zs.getD j 0 ∧ zs.getD j 0 < L := by
  have := h j hj
  unfold riseAt at this
  rw [Bool.and_eq_true] at this
  have := inB_iff.1 this.1
  omega
theorem rise_lt {L : Nat} {zs : List Int} {k j : Nat} (h : RiseTo L zs k) (hj : j + 1 < k) : zs.getD j 0 < zs.getD (j + 1) 0 := by
  have := h (j + 1) hj
  unfold riseAt at this
  rw [Bool.and_eq_true, decide_eq_false (by omega), Bool.false_or, decide_eq_true_eq, Nat.add_sub_cancel] at this
  exact this.2
theorem rise_le {L : Nat} {zs : List Int} {k : Nat} (h : RiseTo L zs k) : ∀ (d i : Nat), i + d < k → zs.getD i 0 + d ≤ zs.getD (i + d) 0
  | 0, i, _ => by simp
  | d + 1, i, hd => by
    have h1 := rise_le h d i (by omega)
    have h2 := rise_lt h (j := i + d) (by omega)
    rw [show i + (d + 1) = i + d + 1 from rfl]
    push_cast at h1 ⊢
    omega
theorem rise_len {L : Nat} {zs : List Int} {k : Nat} (h : RiseTo L zs k) : k ≤ L := by
  by_cases h0 : k = 0
  · omega
  · have h1 := rise_le h (k - 1) 0 (by omega)
    have h2 := (rise_bd h (j := 0) (by omega)).1
    have h3 := (rise_bd h (j := k - 1) (by omega)).2
    rw [Nat.zero_add] at h1
    omega
theorem bitsTo_lt {L : Nat} {zs : List Int} {k : Nat} (hL : L ≤ 16) (h : RiseTo L zs k) : bitsTo zs k < 65536 := by
  induction k with
  | zero => simp [bitsTo]
  | succ k ih =>
    have h1 := ih (fun j hj => h j (by omega))
    have h2 := rise_bd h (j := k) (by omega)
    exact Nat.or_lt_two_pow (n := 16) h1 (two_pow16 (by omega))
theorem bitsTo_top {L : Nat} {zs : List Int} {k : Nat} (h : RiseTo L zs (k + 1)) : bitsTo zs (k + 1) < 2 ^ ((zs.getD k 0).toNat + 1) := by
  induction k with
  | zero =>
    rw [bitsTo, bitsTo, Nat.zero_or]
    exact Nat.pow_lt_pow_right (by omega) (by omega)
  | succ k ih =>
    have h1 := ih (fun j hj => h j (by omega))
    have h2 := rise_lt h (j := k) (by omega)
    have h3 := rise_bd h (j := k) (by omega)
    rw [bitsTo]
    refine Nat.or_lt_two_pow ?_ (Nat.pow_lt_pow_right (by omega) (by omega))
    exact Nat.lt_of_lt_of_le h1 (Nat.pow_le_pow_right (by omega) (by omega))
theorem bitLen_of {x k : Nat} (h1 : 2 ^ k ≤ x) (h2 : x < 2 ^ (k + 1)) (hk : k < 60) : Lib.bitLen x = k + 1 := by
  have h3 : x < 2 ^ 64 := Nat.lt_of_lt_of_le h2 (Nat.pow_le_pow_right (by omega) (by omega))
  rw [Lib.bitLen_shift k x h1 h3]
  have : x / 2 ^ k = 1 := by
    rw [Nat.pow_succ] at h2
    exact (Nat.div_eq_iff (Nat.two_pow_pos k)).2 (by constructor <;> omega)
  rw [this]
  rfl
theorem bitLen_bits {L : Nat} {zs : List Int} {k : Nat} (hL : L ≤ 16) (h : RiseTo L zs k) : ((Lib.bitLen (bitsTo zs k) : Nat) : Int) = if k = 0 then 0 else zs.getD (k - 1) 0 + 1 := by
  cases k with
  | zero => rfl
  | succ k =>
    have hb := rise_bd h (j := k) (by omega)
    rw [bitLen_of (k := (zs.getD k 0).toNat) (by rw [bitsTo]; exact Nat.right_le_or) (bitsTo_top h) (by omega), if_neg (by omega), Nat.add_sub_cancel]
    push_cast
    omega
theorem in_rise {L : Nat} {zs : List Int} {k : Nat} (hL : L ≤ 16) (h : RiseTo L zs k) : inB (zs.getD k 0) ((Lib.bitLen (bitsTo zs k) : Nat) : Int) ((L : Int) - 1) = riseAt 0 ((L : Int) - 1) zs k := by
  rw [bitLen_bits hL h]
  unfold riseAt
  cases k with
  | zero => simp
  | succ k =>
    have hb := rise_bd h (j := k) (by omega)
    rw [if_neg (by omega), decide_eq_false (show ¬ k + 1 = 0 by omega), Bool.false_or, Nat.add_sub_cancel, Bool.eq_iff_iff, Bool.and_eq_true, inB_iff, inB_iff, decide_eq_true_eq]
    omega
/-- The bits of c below k, in order. -/
def idxs (c : Nat) : Nat → List Int
  | 0 => []
  | k + 1 => if c.testBit k then idxs c k ++ [(k : Int)] else idxs c k
theorem idxs_yes {c k : Nat} (h : c.testBit k = true) : idxs c (k + 1) = idxs c k ++ [(k : Int)] := by rw [idxs, if_pos h]
theorem idxs_no {c k : Nat} (h : c.testBit k = false) : idxs c (k + 1) = idxs c k := by rw [idxs, if_neg (by rw [h]; simp)]
theorem idxs_len (c k : Nat) : (idxs c k).length ≤ k := by
  induction k with
  | zero => simp [idxs]
  | succ k ih =>
    rw [idxs]
    split
    · rw [List.length_append]; simp; omega
    · omega
theorem idxs_take {L : Nat} {zs : List Int} {n : Nat} (hn : zs.length = n) (h : RiseTo L zs n) (k : Nat) : ∃ m, m ≤ n ∧ idxs (bitsTo zs n) k = zs.take m ∧ (∀ j, j < m → zs.getD j 0 < k) ∧ (∀ j, m ≤ j → j < n → (k : Int) ≤ zs.getD j 0) := by
  induction k with
  | zero => exact ⟨0, by omega, by simp [idxs], fun j hj => by omega, fun j _ hj => (rise_bd h hj).1⟩
  | succ k ih =>
    obtain ⟨m, hm, he, h1, h2⟩ := ih
    by_cases hmn : m < n ∧ zs.getD m 0 = k
    · obtain ⟨hmn, hz⟩ := hmn
      have hbit : (bitsTo zs n).testBit k = true := (bitsTo_bit zs n k).2 ⟨m, hmn, by rw [hz]; simp⟩
      refine ⟨m + 1, by omega, ?_, fun j hj => ?_, fun j hj hjn => ?_⟩
      · rw [idxs_yes hbit, he, List.take_succ_eq_append_getElem (by omega)]
        congr 2
        rw [← hz, List.getD_eq_getElem?_getD, List.getElem?_eq_getElem (by omega)]; rfl
      · by_cases e : j = m
        · subst e; rw [hz]; push_cast; omega
        · have := h1 j (by omega); push_cast; omega
      · have := rise_le h (j - m) m (by omega)
        rw [show m + (j - m) = j by omega, hz] at this
        push_cast
        omega
    · have hbit : (bitsTo zs n).testBit k = false := by
        rcases Bool.eq_false_or_eq_true ((bitsTo zs n).testBit k) with hb | hb
        · obtain ⟨j, hj, hz⟩ := (bitsTo_bit zs n k).1 hb
          have hb2 := rise_bd h hj
          exfalso
          by_cases e : j < m
          · have := h1 j e; omega
          · by_cases e2 : j = m
            · subst e2; exact hmn ⟨hj, by omega⟩
            · have h3 := h2 m (by omega) (by omega)
              have h4 := rise_le h (j - m) m (by omega)
              rw [show m + (j - m) = j by omega] at h4
              omega
        · exact hb
      refine ⟨m, hm, by rw [idxs_no hbit]; exact he, fun j hj => by have := h1 j hj; push_cast; omega, fun j hj hjn => ?_⟩
      have h3 := h2 j hj hjn
      have h4 : zs.getD j 0 ≠ k := by
        intro e
        by_cases e2 : j = m
        · subst e2; exact hmn ⟨hjn, e⟩
        · have h5 := h2 m (by omega) (by omega)
          have h6 := rise_le h (j - m) m (by omega)
          rw [show m + (j - m) = j by omega] at h6
          omega
      push_cast
      omega
theorem idxs_all {L : Nat} {zs : List Int} {n : Nat} (hL : L ≤ 16) (hn : zs.length = n) (h : RiseTo L zs n) : idxs (bitsTo zs n) 16 = zs := by
  obtain ⟨m, hm, he, h1, h2⟩ := idxs_take hn h 16
  have : m = n := by
    by_cases e : m = n
    · exact e
    · have h3 := h2 m (Nat.le_refl _) (by omega)
      have h4 := (rise_bd h (j := m) (by omega)).2
      omega
  rw [he, this, ← hn, List.take_length]
theorem bits_zero {L : Nat} {zs : List Int} {n : Nat} (h : RiseTo L zs n) : bitsTo zs n = 0 ↔ n = 0 := by
  constructor
  · intro h0
    by_cases e : n = 0
    · exact e
    · have := (bitsTo_bit zs n (zs.getD 0 0).toNat).2 ⟨0, by omega, rfl⟩
      rw [h0] at this
      simp at this
  · rintro rfl; rfl
theorem ret_u16C {a b : Int} (h : a = b) : Ending.returned (.int .u16 a) = .returned (.int .u16 b) := by rw [h]
theorem ret_i64C {a b : Int} (h : a = b) : Ending.returned (.int .i64 a) = .returned (.int .i64 b) := by rw [h]
theorem with_any (c i : Nat) (w : World) (hc : c < 65536) (hi : i < 16) :
    Calls Try.prog 80 #[.int .u16 (c : Int), .int .i64 (i : Int)] w fun e w' => e = .returned (.int .u16 ((c ||| 2 ^ i : Nat) : Int)) ∧ w = w' := by
  have HF := Lib.hid (or_nat c i hc hi)
  go_enter Try.func80, Try.ntmps80
  go_wp2
  go_ret
  exact ⟨ret_u16C HF.out, rfl⟩
theorem has_any (c i : Nat) (w : World) (hc : c < 65536) (hi : i < 16) :
    Calls Try.prog 93 #[.int .u16 (c : Int), .int .i64 (i : Int)] w fun e w' => e = .returned (.bool (c.testBit i)) ∧ w = w' := by
  have HF := Lib.hid (and_nat c i hc hi)
  go_enter Try.func93, Try.ntmps93
  go_wp2
  go_ret
  exact ⟨retG_b HF.out, rfl⟩
theorem last_any (c : Nat) (w : World) (hc : c < 65536) :
    Calls Try.prog 79 #[.int .u16 (c : Int)] w fun e w' => e = .returned (.int .i64 ((Lib.bitLen c : Nat) - 1)) ∧ w = w' := by
  have HC := Lib.hid (Try.bits_Len16 (c : Int))
  have hl : Lib.bitLen c ≤ 16 := Lib.bitLen_le c 16 (by omega) (by simpa using hc)
  obtain ⟨b, hb⟩ : ∃ b, Lib.bitLen c = b := ⟨_, rfl⟩
  have HL := Lib.hid (show Lib.bitLen (c : Int).toNat = b by rw [← hb]; simp)
  rw [hb] at hl ⊢
  clear hb
  go_enter Try.func79, Try.ntmps79
  go_wp2_with fail
  refine (HC.out _ (by omega) (by omega)).mono ?_
  rintro e w1 ⟨rfl, rfl⟩
  rw [HL.out]
  go_wp2
  go_ret
  exact ⟨rfl, rfl⟩
theorem ones_any (c : Nat) (w : World) (hc : c < 65536) :
    Calls Try.prog 92 #[.int .u16 (c : Int)] w fun e w' => (∃ m : Nat, m ≤ 16 ∧ e = .returned (.int .i64 m)) ∧ ∃ k, w' = w.drewN k := by
  have a0 : 0 ≤ (c : Int) / 256 := by omega
  have a1 : (c : Int) / 256 ≤ 255 := by omega
  have a2 := and_255 c hc
  have a3 : (c : Int) / 256 = ((c / 256 : Nat) : Int) := by omega
  obtain ⟨p, hp, hpv⟩ : ∃ p : Nat, p ≤ 8 ∧ Lib.pop8 ((c : Int) / 256) = (p : Int) := ⟨_, Lib.onesCount_le8 ⟨c / 256, by omega⟩, by rw [a3]; exact Lib.pop8_eq ⟨c / 256, by omega⟩⟩
  obtain ⟨q, hq, hqv⟩ : ∃ q : Nat, q ≤ 8 ∧ Lib.pop8 ((c % 256 : Nat) : Int) = (q : Int) := ⟨_, Lib.onesCount_le8 ⟨c % 256, by omega⟩, Lib.pop8_eq ⟨c % 256, by omega⟩⟩
  have a4 : 0 ≤ ((c % 256 : Nat) : Int) := by omega
  have a5 : ((c % 256 : Nat) : Int) ≤ 255 := by omega
  generalize ((c % 256 : Nat) : Int) = d at *
  clear a3
  go_enter Try.func92, Try.ntmps92
  go_wp2
  go_quiet (fail)
  go_wp2
  go_ret
  exact ⟨⟨p + q, by omega, by first | rfl | (push_cast; rfl)⟩, _, by first | rfl | rw [World.drewN_drewN]⟩
end Go.Proofs.Ytikoehjalcljnaa
