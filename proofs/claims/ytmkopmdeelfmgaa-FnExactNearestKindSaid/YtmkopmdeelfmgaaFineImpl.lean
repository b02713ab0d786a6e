/- The program's logarithm is the reference model's. -/
import Derived.Test.YtmkopmdeelfmgaaFineMath
import Derived.Test.YtmkopmdeelfmgaaBase
import Derived.Lib.BitFns
namespace Go.Proofs.Ytmkopmdeelfmgaa
open Go.ChangeShapes Go.WideShapes Go.ChangeAt Go.RowKit

theorem bitLen_exp {n : Int} {e : Nat} (h : IsExp n e) (hn : n ≤ 1000000000000) : Lib.bitLen n.toNat = e + 1 := by
  obtain ⟨h1, h2⟩ := h
  have hp : 0 < 2 ^ e := Nat.pow_pos (by omega)
  have e1 : ((2 ^ e : Nat) : Int) = 2 ^ e := Int.natCast_pow 2 e
  have e2 : ((2 ^ (e + 1) : Nat) : Int) = 2 ^ (e + 1) := Int.natCast_pow 2 (e + 1)
  have h3 : 2 ^ e ≤ n.toNat := by omega
  have h4 : n.toNat < 2 ^ (e + 1) := by omega
  rw [Lib.bitLen_shift e n.toNat h3 (by omega)]
  have : n.toNat / 2 ^ e = 1 := Nat.div_eq_of_lt_le (by omega) (by rw [Nat.pow_succ] at h4; omega)
  rw [this]
  rfl

set_option maxRecDepth 100000 in
theorem scaled_up (n : Int) (p : Nat) (w : World) (hp : p ≤ 30) (h0 : 0 ≤ n * 2 ^ p) (h1 : n * 2 ^ p < 2147483648) :
    Calls Try.prog 69 #[.int .i64 n, .int .i64 p] w fun e w' => e = .returned (.int .i64 (n * 2 ^ p)) ∧ w = w' := by
  have hneg : ¬ (p : Int) < 0 := by omega
  go_enter Try.func69, Try.ntmps69
  go_wp2
  go_ret
  exact ⟨rfl, rfl⟩
set_option maxRecDepth 100000 in
theorem scaled_down (n : Int) (p : Nat) (w : World) (hp : p ≤ 30) (hp1 : 1 ≤ p) :
    Calls Try.prog 69 #[.int .i64 n, .int .i64 (-(p : Int))] w fun e w' => e = .returned (.int .i64 (n / 2 ^ p)) ∧ w = w' := by
  go_enter Try.func69, Try.ntmps69
  go_wp2
  go_ret
  exact ⟨rfl, rfl⟩
theorem scaled_norm (n : Int) (e : Nat) (w : World) (h : IsExp n e) (hle : e ≤ 39) (d : Int) (hd : Hid (d = 30 - (e : Int))) :
    Calls Try.prog 69 #[.int .i64 n, .int .i64 d] w fun e' w' => e' = .returned (.int .i64 (normX n e)) ∧ w = w' := by
  have hb := norm_bd h
  have hd' := hd.out
  unfold normX at *
  by_cases he : 30 < e
  · rw [if_pos he] at *
    obtain rfl : d = -((e - 30 : Nat) : Int) := by omega
    exact scaled_down n (e - 30) w (by omega) (by omega)
  · rw [if_neg he] at *
    obtain rfl : d = ((30 - e : Nat) : Int) := by omega
    exact scaled_up n (30 - e) w (by omega) (by omega) (by omega)

/-- The program's sum after j rounds. -/
def lgV (e : Nat) (X : Int) (j : Nat) : Int := (e : Int) * 2 ^ j + (fiter j (X, 0)).2
theorem lg_bd (e : Nat) (X : Int) (j : Nat) (he : e ≤ 39) (hj : j ≤ 24) (h0 : 1073741824 ≤ X) (h1 : X < 2147483648) : 0 ≤ lgV e X j ∧ lgV e X j < 671088640 := by
  obtain ⟨_, _, c, d⟩ := fiter_bd X h0 h1 j
  have hp := pow_mono j 24 hj
  rw [show (2 : Int) ^ 24 = 16777216 from rfl] at hp
  have hp0 : (0 : Int) < 2 ^ j := Int.pow_pos (by omega)
  have m1 : 0 ≤ (e : Int) * 2 ^ j := Int.mul_nonneg (by omega) (by omega)
  have m2 : (e : Int) * 2 ^ j ≤ 39 * 2 ^ j := Int.mul_le_mul_of_nonneg_right (by omega) (by omega)
  unfold lgV
  generalize (2 : Int) ^ j = q at *
  omega
theorem lg_next (e : Nat) (X : Int) (j : Nat) : lgV e X (j + 1) = (if 2147483648 ≤ (fiter j (X, 0)).1 * (fiter j (X, 0)).1 / 1073741824 then 2 * lgV e X j + 1 else 2 * lgV e X j) := by
  unfold lgV
  rw [Int.pow_succ, ← Int.mul_assoc]
  show _ + (fstep (fiter j (X, 0))).2 = _
  unfold fstep
  generalize (e : Int) * 2 ^ j = q
  split <;> simp only <;> omega

set_option maxRecDepth 100000 in
set_option maxHeartbeats 1000000 in
theorem fineLog_any (len64 : ∀ (x : Int) (w : World), 0 ≤ x → x ≤ 18446744073709551615 → Calls Try.prog 68 #[.int .u64 x] w fun e w' => e = .returned (.int .i64 (Lib.bitLen x.toNat)) ∧ w = w')
    (n : Int) (w : World) (h0 : 1 ≤ n) (h1 : n ≤ 1000000000000) :
    Calls Try.prog 67 #[.int .i64 n] w fun e w' => e = .returned (.int .i64 (fineV n)) ∧ w = w' := by
  obtain ⟨e, he⟩ : ∃ e : Nat, IsExp n e := ⟨_, exp_of n (by omega)⟩
  have hle := exp_40 he h1
  have HE := Lib.hid he
  have HF := Lib.hid (fine_of he)
  have HL := Lib.hid (bitLen_exp he h1)
  have HN := Lib.hid (norm_bd he)
  clear he
  go_enter Try.func67, Try.ntmps67
  go_wp2_with fail
  refine (len64 n _ (by omega) (by omega)).mono ?_
  rintro e w' ⟨rfl, rfl⟩
  rw [HL.out]
  go_wp2_with fail
  refine (scaled_norm n e _ HE.out hle _ (Lib.hid (by omega))).mono ?_
  rintro e w' ⟨rfl, rfl⟩
  have HR := Lib.hid (show fineV n = lgV e (normX n e) 24 by rw [HF.out]; rfl)
  generalize normX n e = X at *
  go_wp2_with fail
  go_loop [4, 5, 15] (fun x r i => ∃ j : Nat, j ≤ 24 ∧ x = .int .i64 (fiter j (X, 0)).1 ∧ r = .int .i64 (lgV e X j) ∧ i = .int .i64 j) (fun _ _ i => 24 - (intOf i).toNat)
  case atStart => exact ⟨0, by omega, rfl, by unfold lgV; simp [fiter], rfl⟩
  case round =>
    obtain ⟨j, hj, rfl, rfl, rfl⟩ := hrel
    by_cases hlt2 : j < 24
    · obtain ⟨i1, i2, _, _⟩ := fiter_bd X HN.out.1 HN.out.2 j
      obtain ⟨g1, g2⟩ := lg_bd e X j hle hj HN.out.1 HN.out.2
      have HS := Lib.hid (show fiter (j + 1) (X, 0) = fstep (fiter j (X, 0)) from rfl)
      have HG := Lib.hid (lg_next e X j)
      obtain ⟨s1, s2, s3, s4⟩ := sq_bd _ i1 i2
      generalize lgV e X j = gv at *
      generalize fiter j (X, 0) = p at *
      obtain ⟨px, pr⟩ := p
      simp only at i1 i2 s1 s2 s3 s4
      by_cases hc : 2147483648 ≤ px * px / 1073741824
      · have HT := Lib.hid (show fstep (px, pr) = (px * px / 1073741824 / 2, 2 * pr + 1) by unfold fstep; rw [if_pos hc])
        have HG2 := Lib.hid (show lgV e X (j + 1) = 2 * gv + 1 by rw [HG.out, if_pos hc])
        clear HG
        go_wp2
        go_round
        case rel => exact ⟨j + 1, by omega, by rw [HS.out, HT.out], by rw [HG2.out]; congr 1; omega, by go_num⟩
        case measure => simp [intOf]; omega
      · have HT := Lib.hid (show fstep (px, pr) = (px * px / 1073741824, 2 * pr) by unfold fstep; rw [if_neg hc])
        have HG2 := Lib.hid (show lgV e X (j + 1) = 2 * gv by rw [HG.out, if_neg hc])
        clear HG
        go_wp2
        go_round
        case rel => exact ⟨j + 1, by omega, by rw [HS.out, HT.out], by rw [HG2.out]; congr 1; omega, by go_num⟩
        case measure => simp [intOf]; omega
    · obtain rfl : j = 24 := by omega
      go_wp2
      go_ret
      exact ⟨ret_i64 HR.out.symm, rfl⟩
end Go.Proofs.Ytmkopmdeelfmgaa
