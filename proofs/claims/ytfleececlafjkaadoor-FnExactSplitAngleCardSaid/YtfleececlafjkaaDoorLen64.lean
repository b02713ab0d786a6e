/- bits.Len64 counts the bits of its argument, for every uint64. -/
import Derived.Test.YtfleececlafjkaaDoorBase
import Derived.Test.YtfleececlafjkaaDoorRootMath
namespace Go.Proofs.YtfleececlafjkaaDoor
open Go.ChangeShapes Go.WideShapes Go.ChangeAt Go.RowKit

theorem len_top (x y : Int) (k : Nat) (hx : 0 ≤ x) (hx1 : x ≤ 18446744073709551615) (hk : ((2 ^ k : Nat) : Int) ≤ x) (hy : y.toNat = x.toNat / 2 ^ k) (h0 : 0 ≤ y) (h1 : y ≤ 255) :
    Lib.len8 y + k = (Lib.bitLen x.toNat : Int) := by
  have h2 : 2 ^ k ≤ x.toNat := by omega
  rw [Lib.len8_of y h0 h1, Lib.bitLen_shift k x.toNat h2 (by omega), ← hy]
  omega
theorem len_bd (y : Int) (h0 : 0 ≤ y) (h1 : y ≤ 255) : 0 ≤ Lib.len8 y ∧ Lib.len8 y ≤ 8 := by
  rw [Lib.len8_of y h0 h1]
  have := Lib.bitLen_le8' y h0 h1
  omega

set_option maxHeartbeats 1000000 in
set_option maxRecDepth 100000 in
theorem len64_any (x : Int) (w : World) (h0 : 0 ≤ x) (h1 : x ≤ 18446744073709551615) :
    Calls Tryd.prog 44 #[.int .u64 x] w fun e w' => e = .returned (.int .i64 (Lib.bitLen x.toNat)) ∧ w = w' := by
  have t9 := Tryd.underlying9
  by_cases c0 : 4294967296 ≤ x
  · skip
    by_cases c1 : 65536 ≤ x / 4294967296
    · skip
      by_cases c2 : 256 ≤ x / 4294967296 / 65536
      · skip
        have b0 : 0 ≤ x / 4294967296 / 65536 / 256 := by omega
        have b1 : x / 4294967296 / 65536 / 256 ≤ 255 := by omega
        obtain ⟨l0, l1⟩ := len_bd (x / 4294967296 / 65536 / 256) b0 b1
        have HF := Lib.hid (len_top x (x / 4294967296 / 65536 / 256) 56 h0 h1 (by simp; omega) (by simp; omega) b0 b1)
        go_enter Tryd.func44, Tryd.ntmps44
        go_wp2
        go_ret
        have hf := HF.out
        exact ⟨congrArg Ending.returned (congrArg (Value.int IntKind.i64) (by omega)), rfl⟩
      · skip
        have b0 : 0 ≤ x / 4294967296 / 65536 := by omega
        have b1 : x / 4294967296 / 65536 ≤ 255 := by omega
        obtain ⟨l0, l1⟩ := len_bd (x / 4294967296 / 65536) b0 b1
        have HF := Lib.hid (len_top x (x / 4294967296 / 65536) 48 h0 h1 (by simp; omega) (by simp; omega) b0 b1)
        go_enter Tryd.func44, Tryd.ntmps44
        go_wp2
        go_ret
        have hf := HF.out
        exact ⟨congrArg Ending.returned (congrArg (Value.int IntKind.i64) (by omega)), rfl⟩
    · skip
      by_cases c2 : 256 ≤ x / 4294967296
      · skip
        have b0 : 0 ≤ x / 4294967296 / 256 := by omega
        have b1 : x / 4294967296 / 256 ≤ 255 := by omega
        obtain ⟨l0, l1⟩ := len_bd (x / 4294967296 / 256) b0 b1
        have HF := Lib.hid (len_top x (x / 4294967296 / 256) 40 h0 h1 (by simp; omega) (by simp; omega) b0 b1)
        go_enter Tryd.func44, Tryd.ntmps44
        go_wp2
        go_ret
        have hf := HF.out
        exact ⟨congrArg Ending.returned (congrArg (Value.int IntKind.i64) (by omega)), rfl⟩
      · skip
        have b0 : 0 ≤ x / 4294967296 := by omega
        have b1 : x / 4294967296 ≤ 255 := by omega
        obtain ⟨l0, l1⟩ := len_bd (x / 4294967296) b0 b1
        have HF := Lib.hid (len_top x (x / 4294967296) 32 h0 h1 (by simp; omega) (by simp; omega) b0 b1)
        go_enter Tryd.func44, Tryd.ntmps44
        go_wp2
        go_ret
        have hf := HF.out
        exact ⟨congrArg Ending.returned (congrArg (Value.int IntKind.i64) (by omega)), rfl⟩
  · skip
    by_cases c1 : 65536 ≤ x
    · skip
      by_cases c2 : 256 ≤ x / 65536
      · skip
        have b0 : 0 ≤ x / 65536 / 256 := by omega
        have b1 : x / 65536 / 256 ≤ 255 := by omega
        obtain ⟨l0, l1⟩ := len_bd (x / 65536 / 256) b0 b1
        have HF := Lib.hid (len_top x (x / 65536 / 256) 24 h0 h1 (by simp; omega) (by simp; omega) b0 b1)
        go_enter Tryd.func44, Tryd.ntmps44
        go_wp2
        go_ret
        have hf := HF.out
        exact ⟨congrArg Ending.returned (congrArg (Value.int IntKind.i64) (by omega)), rfl⟩
      · skip
        have b0 : 0 ≤ x / 65536 := by omega
        have b1 : x / 65536 ≤ 255 := by omega
        obtain ⟨l0, l1⟩ := len_bd (x / 65536) b0 b1
        have HF := Lib.hid (len_top x (x / 65536) 16 h0 h1 (by simp; omega) (by simp; omega) b0 b1)
        go_enter Tryd.func44, Tryd.ntmps44
        go_wp2
        go_ret
        have hf := HF.out
        exact ⟨congrArg Ending.returned (congrArg (Value.int IntKind.i64) (by omega)), rfl⟩
    · skip
      by_cases c2 : 256 ≤ x
      · skip
        have b0 : 0 ≤ x / 256 := by omega
        have b1 : x / 256 ≤ 255 := by omega
        obtain ⟨l0, l1⟩ := len_bd (x / 256) b0 b1
        have HF := Lib.hid (len_top x (x / 256) 8 h0 h1 (by simp; omega) (by simp; omega) b0 b1)
        go_enter Tryd.func44, Tryd.ntmps44
        go_wp2
        go_ret
        have hf := HF.out
        exact ⟨congrArg Ending.returned (congrArg (Value.int IntKind.i64) (by omega)), rfl⟩
      · skip
        have b0 : 0 ≤ x := by omega
        have b1 : x ≤ 255 := by omega
        obtain ⟨l0, l1⟩ := len_bd (x) b0 b1
        have HF := Lib.hid (Lib.len8_of (x) b0 b1)
        go_enter Tryd.func44, Tryd.ntmps44
        go_wp2
        go_ret
        have hf := HF.out
        exact ⟨congrArg Ending.returned (congrArg (Value.int IntKind.i64) (by omega)), rfl⟩
end Go.Proofs.YtfleececlafjkaaDoor
