/- A frequency moved by octaves: the reference model's answer. -/
import Derived.Test.YtpfpdhgdeaoemabRedImpl
namespace Go.Proofs.Ytpfpdhgdeaoemab
open Go.ChangeShapes Go.WideShapes Go.ChangeAt Go.RowKit

set_option maxHeartbeats 1000000 in
theorem specReduce_any (f base : Int) (w : World) :
    Calls Try.prog 8 #[.int .i64 f, .int .i64 base] w fun e w' => e = .returned (.tuple #[.int .i64 (redR f base), .int .i64 (redB f base), .int .i64 (codeOf (redOk f base))]) ∧ w = w' := by
  rcases rf_cases (ok2 f base) with h | h
  · have HK := Lib.hid (red_ok h)
    have HA := Lib.hid ((all2 10000 20000000 f base).trans h)
    obtain ⟨⟨b0, b1⟩, b2, b3⟩ := ok2_iff.1 h
    clear h
    have g1 := okF_iff.2 (And.intro b0 b1)
    have g2 := okF_iff.2 (And.intro b2 b3)
    go_enter Try.func8, Try.ntmps8
    go_wp2_with (go_at_call 23; refine (l02Ok_any _ _).mono ?_; rintro e w' ⟨rfl, rfl⟩)
    go_loop [0, 7] (fun x n => ∃ (k : Nat) (z : Int), x = .int .i64 z ∧ n = .int .i64 k ∧ Hid (Half f base z k)) (fun x _ => (intOf x).toNat)
    case atStart => exact ⟨0, f, rfl, rfl, Lib.hid (half_start (by omega))⟩
    case round =>
      obtain ⟨k, z, rfl, rfl, HH⟩ := hrel
      have z0 : 0 < z := HH.out.2.2.2
      have z1 : z + k ≤ f := HH.out.2.2.1
      by_cases hc : 2 * base ≤ z
      · have HN := Lib.hid (half_next HH.out (by omega) hc)
        go_wp2
        go_round
        case rel => exact ⟨k + 1, z / 2, rfl, by go_num, HN⟩
        case measure => simp [intOf]; omega
      · have HM := Lib.hid (mid_start HH.out b1 (by omega))
        go_wp2
        go_loop [0, 7] (fun x n => ∃ (y b : Int), x = .int .i64 y ∧ n = .int .i64 b ∧ Hid (Mid f base y b)) (fun x _ => (base - intOf x).toNat)
        case atStart => exact ⟨z, k, rfl, rfl, HM⟩
        case round =>
          obtain ⟨y, b, rfl, rfl, HM2⟩ := hrel
          obtain ⟨y0, y1, c0, c1, -⟩ := HM2.out
          by_cases hy : y < base
          · have HN := Lib.hid (mid_next HM2.out b3 hy)
            go_wp2
            go_round
            case rel => exact ⟨y * 2, b - 1, rfl, rfl, HN⟩
            case measure => simp [intOf]; omega
          · have HI := Lib.hid (red_is (show 0 ≤ f by omega) (mid_end HM2.out hy))
            rcases rf_cases (okF y) with h4 | h4
            · have R := Lib.hid (red_yes HK.out HI.out h4)
              go_wp2_with (go_at_call 23; refine (l02Ok_any _ _).mono ?_; rintro e w' ⟨rfl, rfl⟩)
              go_ret3
              exact ⟨ret_three R.out.1.symm R.out.2.1.symm R.out.2.2.symm, rfl⟩
            · have R := Lib.hid (red_no HK.out HI.out h4)
              go_wp2_with (go_at_call 23; refine (l02Ok_any _ _).mono ?_; rintro e w' ⟨rfl, rfl⟩)
              go_ret3
              exact ⟨ret_three R.out.1.symm R.out.2.1.symm R.out.2.2.symm, rfl⟩
  · have R := Lib.hid (red_out h)
    rcases rf_cases (okF f) with h1 | h1
    · have h2 : okF base = false := by unfold ok2 at h; rw [h1] at h; simpa using h
      clear h
      go_enter Try.func8, Try.ntmps8
      go_wp2_with (go_at_call 23; refine (l02Ok_any _ _).mono ?_; rintro e w' ⟨rfl, rfl⟩)
      go_ret3
      exact ⟨ret_three R.out.1.symm R.out.2.1.symm R.out.2.2.symm, rfl⟩
    · clear h
      go_enter Try.func8, Try.ntmps8
      go_wp2_with (go_at_call 23; refine (l02Ok_any _ _).mono ?_; rintro e w' ⟨rfl, rfl⟩)
      go_ret3
      exact ⟨ret_three R.out.1.symm R.out.2.1.symm R.out.2.2.symm, rfl⟩
end Go.Proofs.Ytpfpdhgdeaoemab
