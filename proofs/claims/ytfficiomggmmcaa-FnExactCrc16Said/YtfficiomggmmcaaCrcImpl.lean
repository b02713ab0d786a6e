/- Crc16: both answers, for all texts and all starts. -/
import Derived.Test.YtfficiomggmmcaaCrc
namespace Go.Proofs.Ytfficiomggmmcaa
open Go.ChangeShapes Go.WideShapes Go.ChangeAt Go.RowKit

def crcV (s : ByteArray) (x : Int) : Int := if inB x 0 65535 = true then crcTake s x s.size else 0

theorem specCrc16_any (s : ByteArray) (x : Int) (w : World) (hs : s.size ≤ maxLen) :
    Calls Try.prog 16 #[.string s, .int .i64 x] w fun e w' => e = .returned (.int .i64 (crcV s x)) ∧ w = w' := by
  have HS := Lib.hid hs
  clear hs
  by_cases h : inB x 0 65535 = true
  · have HF := Lib.hid (show crcV s x = crcTake s x s.size by unfold crcV; rw [if_pos h])
    have HX := Lib.hid (inB_iff.1 h)
    go_enter Try.func16, Try.ntmps16
    go_wp2_with fail
    refine (l00In_any _ _ _ _).mono ?_
    rintro e w' ⟨rfl, rfl⟩
    go_wp2_with fail
    refine (specCrc_any s x _ HS.out HX.out).mono ?_
    rintro e w' ⟨rfl, rfl⟩
    go_wp2
    go_ret
    exact ⟨ret_i64 HF.out.symm, rfl⟩
  · have HF := Lib.hid (show crcV s x = 0 by unfold crcV; rw [if_neg h])
    have h' : inB x 0 65535 = false := by simpa using h
    clear h
    go_enter Try.func16, Try.ntmps16
    go_wp2_with fail
    refine (l00In_any _ _ _ _).mono ?_
    rintro e w' ⟨rfl, rfl⟩
    go_wp2
    go_ret
    exact ⟨ret_i64 HF.out.symm, rfl⟩

theorem all_one' (lo hi c : Int) : allIn lo hi [c] = inB c lo hi := by simp [allIn]

set_option maxHeartbeats 800000 in
theorem implCrc16_any (s : ByteArray) (x : Int) (w : World) (hs : s.size ≤ maxLen) :
    Calls Try.prog 17 #[.string s, .int .i64 x] w fun e w' => e = .returned (.int .i64 (crcV s x)) ∧ Below w.heap.size w w' := by
  unfold maxLen at hs
  by_cases h : inB x 0 65535 = true
  · have HF := Lib.hid (show crcV s x = crcTake s x s.size by unfold crcV; rw [if_pos h])
    have HX := Lib.hid (inB_iff.1 h)
    go_enter Try.func17, Try.ntmps17
    go_wp2_with fail
    refine (within_i64 _ _ [x] _ 0 1 1 _ rfl (by omega) (cells1 _ _ _ _ rfl)).mono ?_
    rintro e w' ⟨rfl, rfl⟩
    rw [all_one']
    go_wp2
    clear h
    go_loop [5, 14] (fun a i => ∃ k : Nat, k ≤ s.size ∧ i = .int .i64 k ∧ a = .int .i64 (crcTake s x k)) (fun _ i => s.size - (intOf i).toNat)
    case atStart => exact ⟨0, by omega, rfl, rfl⟩
    case round =>
      obtain ⟨k, hk, rfl, rfl⟩ := hrel
      obtain ⟨y0, y1⟩ := take_bd s x k HX.out
      by_cases hlt : k < s.size
      · have HT := Lib.hid (take_next s x k hlt)
        generalize hy : crcTake s x k = y at *
        clear hy
        obtain ⟨c0, c1⟩ : 0 ≤ (s[k].toNat : Int) ∧ (s[k].toNat : Int) ≤ 255 := by have := s[k].toNat_lt; omega
        have HI := Lib.hid (in_bd y s[k] ⟨y0, y1⟩)
        go_wp2
        go_loop [5, 24] (fun a i => ∃ j : Nat, j ≤ 8 ∧ i = .int .i64 j ∧ a = .int .i64 (crcSteps j (crcIn y (s[k].toNat : Int)))) (fun _ i => 8 - (intOf i).toNat)
        case atStart => exact ⟨0, by omega, rfl, rfl⟩
        case round =>
          obtain ⟨j, hj, rfl, rfl⟩ := hrel
          obtain ⟨z0, z1⟩ := steps_bd j _ HI.out
          by_cases hlt8 : j < 8
          · have HZ := Lib.hid (show crcSteps (j + 1) (crcIn y (s[k].toNat : Int)) = crcStep (crcSteps j (crcIn y (s[k].toNat : Int))) from rfl)
            generalize hz : crcSteps j (crcIn y (s[k].toNat : Int)) = z at *
            clear hz
            by_cases hbig : 65535 < z * 2
            · go_wp2
              go_round
              case rel => exact ⟨j + 1, by omega, by go_num, by rw [HZ.out, crcStep, if_pos hbig]⟩
              case measure => simp [intOf]; omega
            · go_wp2
              go_round
              case rel => exact ⟨j + 1, by omega, by go_num, by rw [HZ.out, crcStep, if_neg hbig]⟩
              case measure => simp [intOf]; omega
          · obtain rfl : j = 8 := by omega
            go_wp2
            go_round
            case rel => exact ⟨k + 1, by omega, by go_num, by rw [HT.out]⟩
            case measure => simp [intOf]; omega
      · obtain rfl : k = s.size := by omega
        go_wp2
        go_ret
        exact ⟨ret_i64 HF.out.symm, (Below.refl _ _).alloc (Nat.le_refl _) _⟩
  · have HF := Lib.hid (show crcV s x = 0 by unfold crcV; rw [if_neg h])
    have h' : inB x 0 65535 = false := by simpa using h
    clear h
    go_enter Try.func17, Try.ntmps17
    go_wp2_with fail
    refine (within_i64 _ _ [x] _ 0 1 1 _ rfl (by omega) (cells1 _ _ _ _ rfl)).mono ?_
    rintro e w' ⟨rfl, rfl⟩
    rw [all_one']
    go_wp2
    go_ret
    exact ⟨ret_i64 HF.out.symm, (Below.refl _ _).alloc (Nat.le_refl _) _⟩
end Go.Proofs.Ytfficiomggmmcaa
