/- A frequency moved by octaves: the program's answer. -/
import Derived.Test.YtpfpdhgdeaoemaaRedMath
import Derived.Test.YtpfpdhgdeaoemaaFreq
namespace Go.Proofs.Ytpfpdhgdeaoemaa
open Go.ChangeShapes Go.WideShapes Go.ChangeAt Go.RowKit

theorem ret_three {a b c d e f : Int} (h : a = b) (k : c = d) (l : e = f) : Ending.returned (.tuple #[.int .i64 a, .int .i64 c, .int .i64 e]) = .returned (.tuple #[.int .i64 b, .int .i64 d, .int .i64 f]) := by rw [h, k, l]
theorem rf_cases (b : Bool) : b = true ∨ b = false := by cases b <;> simp
noncomputable def redOk (f base : Int) : Bool := ok2 f base && okF (redG f base).1
noncomputable def redR (f base : Int) : Int := if redOk f base = true then (redG f base).1 else 0
noncomputable def redB (f base : Int) : Int := if redOk f base = true then (redG f base).2 else 0
theorem red_ok {f base : Int} (h : ok2 f base = true) : redOk f base = okF (redG f base).1 := by unfold redOk; rw [h]; rfl
theorem red_yes {f base y b : Int} (h : redOk f base = okF (redG f base).1) (hi : (redG f base).1 = y ∧ (redG f base).2 = b) (h4 : okF y = true) : redR f base = y ∧ redB f base = b ∧ codeOf (redOk f base) = 0 := by
  have e : redOk f base = true := by rw [h, hi.1, h4]
  unfold redR redB
  rw [if_pos e, if_pos e, e]
  exact ⟨hi.1, hi.2, rfl⟩
theorem red_no {f base y b : Int} (h : redOk f base = okF (redG f base).1) (hi : (redG f base).1 = y ∧ (redG f base).2 = b) (h4 : okF y = false) : redR f base = 0 ∧ redB f base = 0 ∧ codeOf (redOk f base) = 2 := by
  have e : redOk f base = false := by rw [h, hi.1, h4]
  unfold redR redB
  rw [e]
  exact ⟨rfl, rfl, rfl⟩
theorem red_out {f base : Int} (h : ok2 f base = false) : redR f base = 0 ∧ redB f base = 0 ∧ codeOf (redOk f base) = 2 := by
  have e : redOk f base = false := by unfold redOk; rw [h]; rfl
  unfold redR redB
  rw [e]
  exact ⟨rfl, rfl, rfl⟩

set_option maxHeartbeats 1000000 in
theorem implReduce_any (f base : Int) (w : World) :
    Calls Try.prog 19 #[.int .i64 f, .int .i64 base] w fun e w' => e = .returned (.tuple #[.int .i64 (redR f base), .int .i64 (redB f base), .int .i64 (codeOf (redOk f base))]) ∧ Below w.heap.size w w' := by
  rcases rf_cases (ok2 f base) with h | h
  · have HK := Lib.hid (red_ok h)
    have HA := Lib.hid ((all2 10000 20000000 f base).trans h)
    obtain ⟨⟨b0, b1⟩, b2, b3⟩ := ok2_iff.1 h
    clear h
    go_enter Try.func19, Try.ntmps19
    go_wp2_with fail
    refine (within_i64 _ _ [f, base] _ 0 2 2 _ rfl (by omega) (cellF2 _ _ _ _)).mono ?_
    rintro e w' ⟨rfl, rfl⟩
    rw [HA.out]
    have HB1 := Lib.hid (show Below w.heap.size w (w.alloc (.cells #[.int .i64 f, .int .i64 base] 2)) from (Below.refl _ _).alloc (Nat.le_refl _) _)
    go_wp2
    go_loop [0, 7] (fun x n => ∃ (k : Nat) (z : Int), x = .int .i64 z ∧ n = .int .i64 k ∧ Hid (Half f base z k)) (fun x _ => (intOf x).toNat)
    case atStart => exact ⟨0, f, rfl, rfl, Lib.hid (half_start (by omega))⟩
    case round =>
      obtain ⟨k, z, rfl, rfl, HH⟩ := hrel
      have z0 : 0 < z := HH.out.2.2.2
      have z1 : z + k ≤ f := HH.out.2.2.1
      by_cases hc : 2 * base ≤ z
      · have HN := Lib.hid (half_next HH.out (by omega) hc)
        go_wp2
        go_round
        case rel => exact ⟨k + 1, z / 2, rfl, by go_num, HN⟩
        case measure => simp [intOf]; omega
      · have HM := Lib.hid (mid_start HH.out b1 (by omega))
        go_wp2
        go_loop [0, 7] (fun x n => ∃ (y b : Int), x = .int .i64 y ∧ n = .int .i64 b ∧ Hid (Mid f base y b)) (fun x _ => (base - intOf x).toNat)
        case atStart => exact ⟨z, k, rfl, rfl, HM⟩
        case round =>
          obtain ⟨y, b, rfl, rfl, HM2⟩ := hrel
          obtain ⟨y0, y1, c0, c1, -⟩ := HM2.out
          by_cases hy : y < base
          · have HN := Lib.hid (mid_next HM2.out b3 hy)
            go_wp2
            go_round
            case rel => exact ⟨y * 2, b - 1, rfl, rfl, HN⟩
            case measure => simp [intOf]; omega
          · have HI := Lib.hid (red_is (show 0 ≤ f by omega) (mid_end HM2.out hy))
            rcases rf_cases (okF y) with h4 | h4
            · have R := Lib.hid (red_yes HK.out HI.out h4)
              go_wp2_with fail
              refine (implIsFrequency_any y _).mono ?_
              rintro e w3 ⟨rfl, hb⟩
              have HB3 := Lib.hid (below_of HB1.out hb HB1.out.size)
              clear hb
              rw [h4]
              go_wp2
              go_ret3
              exact ⟨ret_three R.out.1.symm R.out.2.1.symm R.out.2.2.symm, HB3.out⟩
            · have R := Lib.hid (red_no HK.out HI.out h4)
              go_wp2_with fail
              refine (implIsFrequency_any y _).mono ?_
              rintro e w3 ⟨rfl, hb⟩
              have HB3 := Lib.hid (below_of HB1.out hb HB1.out.size)
              clear hb
              rw [h4]
              go_wp2
              go_ret3
              exact ⟨ret_three R.out.1.symm R.out.2.1.symm R.out.2.2.symm, HB3.out⟩
  · have R := Lib.hid (red_out h)
    have HA := Lib.hid ((all2 10000 20000000 f base).trans h)
    clear h
    go_enter Try.func19, Try.ntmps19
    go_wp2_with fail
    refine (within_i64 _ _ [f, base] _ 0 2 2 _ rfl (by omega) (cellF2 _ _ _ _)).mono ?_
    rintro e w' ⟨rfl, rfl⟩
    rw [HA.out]
    go_wp2
    go_ret3
    exact ⟨ret_three R.out.1.symm R.out.2.1.symm R.out.2.2.symm, (Below.refl _ _).alloc (Nat.le_refl _) _⟩
end Go.Proofs.Ytpfpdhgdeaoemaa
