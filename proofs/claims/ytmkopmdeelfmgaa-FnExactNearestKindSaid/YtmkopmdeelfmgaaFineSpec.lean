/- The reference model's logarithms: a function of the number. -/
import Derived.Test.YtmkopmdeelfmgaaFreq
import Derived.Test.YtmkopmdeelfmgaaFineMath
namespace Go.Proofs.Ytmkopmdeelfmgaa
open Go.ChangeShapes Go.WideShapes Go.ChangeAt Go.RowKit

theorem exp_go {n : Int} {e k : Nat} (h : IsExp n e) (hk : k < e) : 0 < n / 2 ^ (k + 1) := by
  have hp : (0 : Int) < 2 ^ (k + 1) := Int.pow_pos (by omega)
  have := pow_mono (k + 1) e (by omega)
  have h1 := h.1
  have : 1 ≤ n / 2 ^ (k + 1) := Int.le_ediv_of_mul_le hp (by omega)
  omega
theorem exp_stop {n : Int} {e : Nat} (h : IsExp n e) : n / 2 ^ (e + 1) ≤ 0 := by
  have hp : (0 : Int) < 2 ^ (e + 1) := Int.pow_pos (by omega)
  have h2 := h.2
  have : n / 2 ^ (e + 1) < 1 := Int.ediv_lt_of_lt_mul hp (by omega)
  omega
set_option maxRecDepth 100000 in
set_option maxHeartbeats 1000000 in
theorem l02Fine_any (n : Int) (w : World) (h0 : 1 ≤ n) (h1 : n ≤ 1000000000000) :
    Calls Try.prog 66 #[.int .i64 n] w fun e w' => e = .returned (.int .i64 (fineV n)) ∧ w = w' := by
  obtain ⟨e, he⟩ : ∃ e : Nat, IsExp n e := ⟨_, exp_of n (by omega)⟩
  have hle := exp_40 he h1
  have HE := Lib.hid he
  have HF := Lib.hid (fine_of he)
  clear he
  go_enter Try.func66, Try.ntmps66
  go_wp2
  go_loop [3] (fun t => ∃ k : Nat, k ≤ e ∧ t = .int .i64 k) (fun t => e - (intOf t).toNat)
  case atStart => exact ⟨0, by omega, rfl⟩
  case round =>
    obtain ⟨k, hk, rfl⟩ := hrel
    by_cases hlt : k < e
    · have hd := exp_go HE.out hlt
      go_wp2
      go_round
      case rel => exact ⟨k + 1, by omega, by go_num⟩
      case measure => simp [intOf]; omega
    · obtain rfl : k = e := by omega
      have hd := exp_stop HE.out
      have HN := norm_bd HE.out
      have h01 : (fiter 0 (normX n k, 0)).1 = normX n k := rfl
      have HX1 : 30 < k → normX n k = n / 2 ^ (k - 30) := fun h => by unfold normX; rw [if_pos h]
      have HX2 : ¬ 30 < k → normX n k = n * 2 ^ (30 - k) := fun h => by unfold normX; rw [if_neg h]
      generalize hX : normX n k = X at *
      by_cases hb : 30 < k
      all_goals
        first | have HB := Lib.hid (HX1 hb) | have HB := Lib.hid (HX2 hb)
        have hb1 := HN.1
        have hb2 := HN.2
        first | (rw [HX1 hb] at hb1 hb2; clear HX1 HX2) | (rw [HX2 hb] at hb1 hb2; clear HX1 HX2)
        have HXN := Lib.hid hX
        have HNN := Lib.hid HN
        clear hX h01 HN
        go_wp2
        go_loop [4, 5, 6] (fun x r i => ∃ j : Nat, j ≤ 24 ∧ x = .int .i64 (fiter j (X, 0)).1 ∧ r = .int .i64 (fiter j (X, 0)).2 ∧ i = .int .i64 j) (fun _ _ i => 24 - (intOf i).toNat)
        case atStart => exact ⟨0, by omega, by rw [← HB.out]; rfl, rfl, rfl⟩
        case round =>
          obtain ⟨j, hj, rfl, rfl, rfl⟩ := hrel
          have HI := Lib.hid (fiter_bd X HNN.out.1 HNN.out.2 j)
          clear hb1 hb2
          by_cases hlt2 : j < 24
          · obtain ⟨i1, i2, i3, i4⟩ := HI.out
            have i5 : (fiter j (X, 0)).2 < 16777216 := by
              have := pow_mono j 24 (by omega)
              rw [show (2 : Int) ^ 24 = 16777216 from rfl] at this
              omega
            clear i4
            have HS := Lib.hid (show fiter (j + 1) (X, 0) = fstep (fiter j (X, 0)) from rfl)
            obtain ⟨s1, s2, s3, s4⟩ := sq_bd _ i1 i2
            generalize fiter j (X, 0) = p at *
            obtain ⟨px, pr⟩ := p
            simp only at i1 i2 i3 i5 s1 s2 s3 s4
            by_cases hc : 2147483648 ≤ px * px / 1073741824
            · have HT := Lib.hid (show fstep (px, pr) = (px * px / 1073741824 / 2, 2 * pr + 1) by unfold fstep; rw [if_pos hc])
              go_wp2
              go_round
              case rel => exact ⟨j + 1, by omega, by rw [HS.out, HT.out], by rw [HS.out, HT.out]; congr 1; omega, by go_num⟩
              case measure => simp [intOf]; omega
            · have HT := Lib.hid (show fstep (px, pr) = (px * px / 1073741824, 2 * pr) by unfold fstep; rw [if_neg hc])
              go_wp2
              go_round
              case rel => exact ⟨j + 1, by omega, by rw [HS.out, HT.out], by rw [HS.out, HT.out]; congr 1; omega, by go_num⟩
              case measure => simp [intOf]; omega
          · obtain rfl : j = 24 := by omega
            have HR := Lib.hid (show fineV n = k * 16777216 + (fiter 24 (X, 0)).2 by rw [HF.out]; unfold fineAt; rw [HXN.out])
            obtain ⟨i1, i2, i3, i4⟩ := HI.out
            rw [show (2 : Int) ^ 24 = 16777216 from rfl] at i4
            generalize (fiter 24 (X, 0)).2 = rr at *
            generalize (fiter 24 (X, 0)).1 = xx at *
            go_wp2
            go_ret
            exact ⟨ret_i64 HR.out.symm, rfl⟩
end Go.Proofs.Ytmkopmdeelfmgaa
