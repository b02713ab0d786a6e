/- What the law on basics says of numbers and texts: a root of a number below, nearest quotients, points on a line, and that lists and numbers are read back from their texts. -/
import Derived.Test.YtndmakimkghihabDoorBlendCD
import Derived.Test.YtndmakimkghihabDoorListSpec
import Derived.Test.YtndmakimkghihabDoorReadSpec
import Derived.Test.YtndmakimkghihabDoorRootSpecD
import Derived.Lib.ItoaLen
namespace Go.Proofs.YtndmakimkghihabDoor
open Go

theorem nq_near (a b : Int) (hb : 0 < b) : 2 * (a - nq a b * b) ≤ b ∧ -b ≤ 2 * (a - nq a b * b) := by
  by_cases ha : 0 ≤ a
  · rw [nq_pp a b ha hb]
    have h1 := Int.mul_ediv_add_emod (2 * a + b) (2 * b)
    have h2 := Int.emod_nonneg (2 * a + b) (show 2 * b ≠ 0 by omega)
    have h3 := Int.emod_lt_of_pos (2 * a + b) (show 0 < 2 * b by omega)
    generalize (2 * a + b) / (2 * b) = q at *
    have e : 2 * b * q = 2 * (q * b) := by rw [Int.mul_assoc, Int.mul_comm b q]
    rw [e] at h1
    omega
  · rw [nq_np a b (by omega) hb]
    have h1 := Int.mul_ediv_add_emod (b - 2 * a) (2 * b)
    have h2 := Int.emod_nonneg (b - 2 * a) (show 2 * b ≠ 0 by omega)
    have h3 := Int.emod_lt_of_pos (b - 2 * a) (show 0 < 2 * b by omega)
    generalize (b - 2 * a) / (2 * b) = q at *
    have e : 2 * b * q = 2 * (q * b) := by rw [Int.mul_assoc, Int.mul_comm b q]
    rw [e] at h1
    rw [Int.neg_mul]
    omega

theorem nq_flip (a b : Int) (hb : 0 < b) : nq (-a) b = -nq a b := by
  rcases Int.lt_trichotomy a 0 with h | h | h
  · rw [nq_np a b h hb, nq_pp (-a) b (by omega) hb, show 2 * -a + b = b - 2 * a by omega, Int.neg_neg]
  · subst h
    rw [Int.neg_zero, nq_pp 0 b (by omega) hb]
    have : (2 * 0 + b) / (2 * b) = 0 := Int.ediv_eq_zero_of_lt (by omega) (by omega)
    rw [this]; rfl
  · rw [nq_np (-a) b (by omega) hb, nq_pp a b (by omega) hb, show b - 2 * -a = 2 * a + b by omega]

theorem nq_thousand (m d : Int) (h0 : 0 ≤ m) (h1 : m ≤ 1000 * d) : 0 ≤ nq m 1000 ∧ nq m 1000 ≤ d := by
  rw [nq_pp m 1000 h0 (by omega)]
  omega

theorem blend_ends (y z : Int) (hy : -2500 ≤ y ∧ y ≤ 2500) (hz : -2500 ≤ z ∧ z ≤ 2500) : blendV 0 y 1000 z 0 = y ∧ blendV 0 y 1000 z 1000 = z := by
  have e : ∀ x, blendV 0 y 1000 z x = blendIn 0 y 1000 z x := fun x => by
    unfold blendV
    rw [if_pos ⟨okMil_iff.2 (by omega), okMil_iff.2 (by omega), okMil_iff.2 (by omega), okMil_iff.2 (by omega)⟩]
  rw [e, e]
  unfold blendIn
  simp

theorem blend_between (y z x : Int) (hy : -2500 ≤ y ∧ y ≤ 2500) (hz : -2500 ≤ z ∧ z ≤ 2500) (hx : 0 ≤ x ∧ x ≤ 1000) :
    (y ≤ z → y ≤ blendV 0 y 1000 z x ∧ blendV 0 y 1000 z x ≤ z) ∧ (z ≤ y → z ≤ blendV 0 y 1000 z x ∧ blendV 0 y 1000 z x ≤ y) := by
  have e : blendV 0 y 1000 z x = blendIn 0 y 1000 z x := by
    unfold blendV
    rw [if_pos ⟨okMil_iff.2 (by omega), okMil_iff.2 (by omega), okMil_iff.2 (by omega), okMil_iff.2 (by omega)⟩]
  rw [e]
  unfold blendIn
  by_cases h1 : (1000 : Int) ≤ 0 ∨ x ≤ 0
  · rw [if_pos h1]; omega
  · rw [if_neg h1]
    by_cases h2 : (1000 : Int) ≤ x
    · rw [if_pos h2]; omega
    · rw [if_neg h2, Int.sub_zero, Int.sub_zero]
      refine ⟨fun h => ?_, fun h => ?_⟩
      · have b1 : 0 ≤ (z - y) * x := Int.mul_nonneg (by omega) (by omega)
        have b2 : (z - y) * x ≤ (z - y) * 1000 := Int.mul_le_mul_of_nonneg_left (by omega) (by omega)
        have := nq_thousand ((z - y) * x) (z - y) b1 (by omega)
        omega
      · have b1 : 0 ≤ (y - z) * x := Int.mul_nonneg (by omega) (by omega)
        have b2 : (y - z) * x ≤ (y - z) * 1000 := Int.mul_le_mul_of_nonneg_left (by omega) (by omega)
        have := nq_thousand ((y - z) * x) (y - z) b1 (by omega)
        have f : (z - y) * x = -((y - z) * x) := by rw [← Int.neg_mul]; congr 1; omega
        rw [f, nq_flip _ _ (by omega)]
        omega

/-! Texts are read back. -/

theorem digits_bytes (m : Nat) : ∀ x ∈ Lib.decDigits m, 48 ≤ x.toNat ∧ x.toNat ≤ 57 := by
  intro x hx
  obtain ⟨h1, _, _⟩ := digits_read m
  obtain ⟨k, hk, rfl⟩ := List.getElem_of_mem hx
  obtain ⟨d, hd⟩ := Lib.digit_of_decFrom _ 0 m h1 k _ (List.getElem?_eq_getElem hk)
  have := Lib.digitVal_eq hd
  omega
theorem itoa_bytes (v : Int) : ∀ x ∈ Lib.itoa v, x ≠ 44 := by
  intro x hx e
  subst e
  unfold Lib.itoa at hx
  split at hx
  · rcases List.mem_cons.1 hx with h | h
    · exact absurd h (by decide)
    · exact absurd (digits_bytes _ _ h).1 (by decide)
  · exact absurd (digits_bytes _ _ hx).1 (by decide)

theorem ndig_pow : ∀ (k u : Nat), u < 10 ^ (k + 1) → Lib.nDigits u ≤ k + 1
  | 0, u, h => by rw [Lib.nDigits_small (by simpa using h)]; omega
  | k + 1, u, h => by
    by_cases hs : u < 10
    · rw [Lib.nDigits_small hs]; omega
    · rw [Lib.nDigits_big hs]
      have h2 : u < 10 ^ (k + 1) * 10 := by rw [← Nat.pow_succ]; exact h
      have := ndig_pow k (u / 10) (by omega)
      omega
theorem ndig_le (u : Nat) (h : u ≤ 1000000000000) : Lib.nDigits u ≤ 13 := ndig_pow 12 u (by omega)
theorem trim_short (v : Int) (h : -1000000000000 ≤ v ∧ v ≤ 1000000000000) : (Lib.trimPrefix (Lib.itoa v) [45]).length ≤ 18 := by
  have hd := ndig_le v.natAbs (by omega)
  by_cases hv : v < 0
  · have e : Lib.itoa v = 45 :: Lib.decDigits v.natAbs := by unfold Lib.itoa; rw [if_pos hv]
    rw [e, trim_minus, Lib.decDigits_length]; omega
  · have e : Lib.itoa v = Lib.decDigits v.toNat := by unfold Lib.itoa; rw [if_neg hv]
    have hf : (Lib.decDigits v.toNat).head? ≠ some 45 := by
      intro hc
      have hm : (45 : UInt8) ∈ Lib.decDigits v.toNat := List.mem_of_mem_head? hc
      exact absurd (digits_bytes _ _ hm).1 (by decide)
    rw [e, trim_other _ hf, Lib.decDigits_length, show v.toNat = v.natAbs by omega]; omega
theorem num_back (v : Int) (h : -1000000000000 ≤ v ∧ v ≤ 1000000000000) : specNum (Lib.itoa v) = some v := spec_of_itoa v (trim_short v h)
theorem numIn_back (v : Int) (h : -1000000000000 ≤ v ∧ v ≤ 1000000000000) : numIn (Lib.itoa v) = some v := by
  unfold numIn
  rw [num_back v h]
  simp only [Option.bind_some]
  rw [if_pos (inB_iff.2 h)]

theorem split_tail : ∀ (r : List Int) (p : List UInt8), (∀ x ∈ p, x ≠ 44) → splitL 44 (p ++ Lib.joinTail [44] (r.map Lib.itoa)) = p :: r.map Lib.itoa
  | [], p, h => by
    simp only [List.map_nil, Lib.joinTail, List.flatten_nil, List.append_nil]
    exact splitL_none 44 p h
  | z :: r, p, h => by
    have e : Lib.joinTail [44] ((z :: r).map Lib.itoa) = 44 :: (Lib.itoa z ++ Lib.joinTail [44] (r.map Lib.itoa)) := by simp [Lib.joinTail]
    rw [e, splitL_hit 44 _ p h, split_tail r (Lib.itoa z) (itoa_bytes z)]
    rfl
theorem split_join (z : Int) (r : List Int) : splitL 44 (Lib.join ((z :: r).map Lib.itoa) [44]) = (z :: r).map Lib.itoa := by
  rw [List.map_cons, Lib.join_cons, split_tail r _ (itoa_bytes z)]

theorem nums_back : ∀ zs : List Int, (∀ z ∈ zs, -1000000000000 ≤ z ∧ z ≤ 1000000000000) → numsOf (zs.map Lib.itoa) = some zs
  | [], _ => rfl
  | z :: r, h => by
    rw [List.map_cons, numsOf, numIn_back z (h z (by simp)), nums_back r (fun y hy => h y (by simp [hy]))]
    rfl
theorem read_back (zs : List Int) (h0 : 0 < zs.length) (h1 : zs.length ≤ 64) (h : ∀ z ∈ zs, -1000000000000 ≤ z ∧ z ≤ 1000000000000) : readV (listV zs).data.toList = some zs := by
  have hf : fitsV zs = true := by
    unfold fitsV allIn
    rw [Bool.and_eq_true, decide_eq_true_eq, List.all_eq_true]
    exact ⟨fun z hz => inB_iff.2 (h z hz), h1⟩
  have e : (listV zs).data.toList = Lib.join (zs.map Lib.itoa) [44] := by
    unfold listV joinTo
    rw [if_pos hf, if_neg (by omega), List.take_length]
  match zs, h0 with
  | z :: r, _ =>
    have hs := split_join z r
    rw [e]
    unfold readV
    rw [if_neg, hs, if_neg (by simp only [List.length_map]; omega)]
    · exact nums_back (z :: r) h
    · intro c
      rw [c] at hs
      have h5 : splitL 44 [45] = [[45]] := by decide
      rw [h5, List.map_cons] at hs
      have hz : Lib.itoa z = [45] := (List.cons.inj hs).1.symm
      have hb := num_back z (h z (by simp))
      rw [hz, show specNum [45] = none by decide] at hb
      cases hb
end Go.Proofs.YtndmakimkghihabDoor
