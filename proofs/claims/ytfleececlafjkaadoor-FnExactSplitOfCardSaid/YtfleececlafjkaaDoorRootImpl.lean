/- The program's root is the greatest number whose square is at most the argument, for every int64. -/
import Derived.Test.YtfleececlafjkaaDoorRootSpec
import Derived.Test.YtfleececlafjkaaDoorRootMath
namespace Go.Proofs.YtfleececlafjkaaDoor
open Go.ChangeShapes Go.WideShapes Go.ChangeAt Go.RowKit

set_option maxHeartbeats 400000 in
theorem implRoot_any (len64_any : ∀ (x : Int) (w : World), 0 ≤ x → x ≤ 18446744073709551615 → Calls Tryd.prog 44 #[.int .u64 x] w fun e w' => e = .returned (.int .i64 (Lib.bitLen x.toNat)) ∧ w = w')
    (n : Int) (w : World) (hlo : -9223372036854775808 ≤ n) (hhi : n ≤ 9223372036854775807) :
    Calls Tryd.prog 37 #[.int .i64 n] w (RootPost n w) := by
  by_cases h0 : n ≤ 0
  · go_enter Tryd.func37, Tryd.ntmps37
    go_wp2
    go_ret
    exact ⟨0, ⟨by omega, by omega, fun _ => rfl, fun h => ⟨by omega, by omega⟩⟩, rfl, rfl⟩
  · have hpos : 0 < n := by omega
    have hb := len_le n.toNat (by omega)
    have hb1 := len_pos n.toNat (by omega)
    go_enter Tryd.func37, Tryd.ntmps37
    go_wp2_with (go_at_call 44; refine (len64_any n _ (by omega) (by omega)).mono ?_; rintro e w' ⟨rfl, rfl⟩)
    go_loop [3, 4, 5] (fun root bit _ => ∃ r k : Nat, RootInv n r k ∧ root = .int .u64 r ∧ bit = .int .i64 ((k : Int) - 1))
      (fun _ bit _ => (intOf bit + 1).toNat)
    case atStart => exact ⟨0, (Lib.bitLen n.toNat - 1) / 2 + 1, inv_start n hpos hhi, rfl, by congr 1; omega⟩
    case round =>
      obtain ⟨r, k, hinv, rfl, rfl⟩ := hrel
      have hk := hinv.1
      by_cases hk0 : k = 0
      · obtain rfl := hk0
        have hbd := inv_bd n r 0 hinv hhi
        have Hi := Lib.hid hinv
        clear hinv
        go_wp2
        go_ret
        obtain ⟨_, _, _, h4, h5⟩ := Hi.out
        refine ⟨r, ⟨by omega, by omega, fun h => by omega, fun h => ⟨?_, ?_⟩⟩, rfl, rfl⟩
        · simpa using h4
        · simpa using h5
      · have hk1 : 1 ≤ k := by omega
        have Hi := Lib.hid hinv
        clear hinv
        go_wp2
        all_goals
          have Hj : RootInv n r (k - 1 + 1) := by rw [Nat.sub_add_cancel hk1]; exact Hi.out
          have e1 := trial_eq r (k - 1) (by omega) Hj.2.1 Hj.2.2.1
          have hle : r + 2 ^ (k - 1) ≤ 4294967295 := by
            have := Hj.2.2.1
            have hp : 0 < 2 ^ (k - 1) := Nat.pow_pos (by omega)
            rw [Nat.pow_succ] at this
            generalize 2 ^ (k - 1) = q at *
            omega
          have e2 := trial_sq (r + 2 ^ (k - 1)) hle
        · have hc := ‹IntKind.u64.wrap _ ≤ n›
          rw [e1, e2] at hc
          go_round
          case rel => exact ⟨r + 2 ^ (k - 1), k - 1, inv_take n r (k - 1) Hj hc, by rw [e1], by congr 1; omega⟩
          case measure => simp [intOf]; omega
        · have hc := ‹n < IntKind.u64.wrap _›
          rw [e1, e2] at hc
          go_round
          case rel => exact ⟨r, k - 1, inv_skip n r (k - 1) Hj hc, rfl, by congr 1; omega⟩
          case measure => simp [intOf]; omega
end Go.Proofs.YtfleececlafjkaaDoor
