/- Crc16: the check value, and its two walks: the reference model's and the program's. -/
import Derived.Test.YtfficiomggmmcaaBlend
import Derived.Laws.BitsLemmas
namespace Go.Proofs.Ytfficiomggmmcaa
open Go.ChangeShapes Go.WideShapes Go.ChangeAt Go.RowKit

theorem xor_bd (a b : Int) (ha : 0 ≤ a ∧ a ≤ 65535) (hb : 0 ≤ b ∧ b ≤ 65535) : 0 ≤ bits BinOp.xor .i64 a b ∧ bits BinOp.xor .i64 a b ≤ 65535 := by
  obtain ⟨m, rfl⟩ := Int.eq_ofNat_of_zero_le ha.1
  obtain ⟨n, rfl⟩ := Int.eq_ofNat_of_zero_le hb.1
  have hx : m ^^^ n < 2 ^ 16 := Nat.xor_lt_two_pow (by omega) (by omega)
  have e : bits BinOp.xor .i64 (m : Int) (n : Int) = ((m ^^^ n : Nat) : Int) := by
    have hbits : IntKind.i64.bits = 64 := rfl
    simp only [bits, hbits, BitVec.ofInt_natCast, BitVec.toNat_xor, BitVec.toNat_ofNat]
    rw [Nat.mod_eq_of_lt (show m < 2 ^ 64 by omega), Nat.mod_eq_of_lt (show n < 2 ^ 64 by omega)]
    exact IntWalk.i64_in _ (by omega)
  rw [e]
  omega
theorem and_bd (a : Int) (ha : 0 ≤ a ∧ a ≤ 131071) : 0 ≤ bits BinOp.and .i64 a 65535 ∧ bits BinOp.and .i64 a 65535 ≤ 65535 := by
  have e : bits BinOp.and .i64 a (2 ^ 16 - 1) = a % 2 ^ 16 := bits_mask .i64 32 (by decide) (fun n h0 h1 => IntWalk.i64_in n (by omega)) 16 (by omega) a ha.1 (by omega)
  have e2 : bits BinOp.and .i64 a 65535 = a % 65536 := e
  rw [e2]
  omega

def crcIn (a c : Int) : Int := bits BinOp.xor .i64 a (c * 256)
def crcStep (x : Int) : Int := if 65535 < x * 2 then bits BinOp.xor .i64 (bits BinOp.and .i64 (x * 2) 65535) 4129 else x * 2
def crcSteps : Nat → Int → Int
  | 0, x => x
  | k + 1, x => crcStep (crcSteps k x)
def crcTake (s : ByteArray) (x : Int) : Nat → Int
  | 0 => x
  | k + 1 => crcSteps 8 (crcIn (crcTake s x k) ((s.data.toList.getD k 0).toNat : Int))

theorem step_bd (x : Int) (h : 0 ≤ x ∧ x ≤ 65535) : 0 ≤ crcStep x ∧ crcStep x ≤ 65535 := by
  unfold crcStep
  split
  · have := and_bd (x * 2) (by omega)
    exact xor_bd _ _ this (by omega)
  · omega
theorem in_bd (a : Int) (c : UInt8) (h : 0 ≤ a ∧ a ≤ 65535) : 0 ≤ crcIn a (c.toNat : Int) ∧ crcIn a (c.toNat : Int) ≤ 65535 := by
  have := c.toNat_lt
  exact xor_bd _ _ h (by omega)
theorem steps_bd (k : Nat) (x : Int) (h : 0 ≤ x ∧ x ≤ 65535) : 0 ≤ crcSteps k x ∧ crcSteps k x ≤ 65535 := by
  induction k with
  | zero => exact h
  | succ k ih => exact step_bd _ ih
theorem take_bd (s : ByteArray) (x : Int) (k : Nat) (h : 0 ≤ x ∧ x ≤ 65535) : 0 ≤ crcTake s x k ∧ crcTake s x k ≤ 65535 := by
  induction k with
  | zero => exact h
  | succ k ih => exact steps_bd _ _ (in_bd _ _ ih)
theorem take_next (s : ByteArray) (x : Int) (k : Nat) (h : k < s.size) : crcTake s x (k + 1) = crcSteps 8 (crcIn (crcTake s x k) (s[k].toNat : Int)) := by
  have : (s.data.toList.getD k 0) = s[k] := by
    rw [List.getD_eq_getElem?_getD, List.getElem?_eq_getElem (by simpa using h)]; rfl
  rw [crcTake, this]

set_option maxHeartbeats 800000 in
theorem specCrc_any (s : ByteArray) (x : Int) (w : World) (hs : s.size ≤ maxLen) (hx : 0 ≤ x ∧ x ≤ 65535) :
    Calls Try.prog 33 #[.string s, .int .i64 x] w fun e w' => e = .returned (.int .i64 (crcTake s x s.size)) ∧ w = w' := by
  unfold maxLen at hs
  go_enter Try.func33, Try.ntmps33
  go_wp2
  go_loop [1, 5] (fun a i => ∃ k : Nat, k ≤ s.size ∧ i = .int .i64 k ∧ a = .int .i64 (crcTake s x k)) (fun _ i => s.size - (intOf i).toNat)
  case atStart => exact ⟨0, by omega, rfl, rfl⟩
  case round =>
    obtain ⟨k, hk, rfl, rfl⟩ := hrel
    obtain ⟨y0, y1⟩ := take_bd s x k hx
    by_cases hlt : k < s.size
    · have HT := Lib.hid (take_next s x k hlt)
      generalize hy : crcTake s x k = y at *
      clear hy
      obtain ⟨c0, c1⟩ : 0 ≤ (s[k].toNat : Int) ∧ (s[k].toNat : Int) ≤ 255 := by have := s[k].toNat_lt; omega
      have HI := Lib.hid (in_bd y s[k] ⟨y0, y1⟩)
      go_wp2
      go_loop [1, 6] (fun a i => ∃ j : Nat, j ≤ 8 ∧ i = .int .i64 j ∧ a = .int .i64 (crcSteps j (crcIn y (s[k].toNat : Int)))) (fun _ i => 8 - (intOf i).toNat)
      case atStart => exact ⟨0, by omega, rfl, rfl⟩
      case round =>
        obtain ⟨j, hj, rfl, rfl⟩ := hrel
        obtain ⟨z0, z1⟩ := steps_bd j _ HI.out
        by_cases hlt8 : j < 8
        · have HZ := Lib.hid (show crcSteps (j + 1) (crcIn y (s[k].toNat : Int)) = crcStep (crcSteps j (crcIn y (s[k].toNat : Int))) from rfl)
          generalize hz : crcSteps j (crcIn y (s[k].toNat : Int)) = z at *
          clear hz
          by_cases hbig : 65535 < z * 2
          · go_wp2
            go_round
            case rel => exact ⟨j + 1, by omega, by go_num, by rw [HZ.out, crcStep, if_pos hbig]⟩
            case measure => simp [intOf]; omega
          · go_wp2
            go_round
            case rel => exact ⟨j + 1, by omega, by go_num, by rw [HZ.out, crcStep, if_neg hbig]⟩
            case measure => simp [intOf]; omega
        · obtain rfl : j = 8 := by omega
          go_wp2
          go_round
          case rel => exact ⟨k + 1, by omega, by go_num, by rw [HT.out]⟩
          case measure => simp [intOf]; omega
    · obtain rfl : k = s.size := by omega
      go_wp2
      go_ret
      exact ⟨rfl, rfl⟩
end Go.Proofs.Ytfficiomggmmcaa
