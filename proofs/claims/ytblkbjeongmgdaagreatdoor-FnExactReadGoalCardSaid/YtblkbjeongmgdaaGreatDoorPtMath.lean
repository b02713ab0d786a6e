/- The digits of a number, parted before its last digits; texts put together. -/
import Derived.Test.YtblkbjeongmgdaaGreatDoorDecimal
import Derived.Lib.ItoaLen
import Derived.Lib.Strings
namespace Go.Proofs.YtblkbjeongmgdaaGreatDoor
open Go

theorem pt_same {a b : ByteArray} (h : a.data.toList = b.data.toList) : a = b := by
  cases a; cases b; congr 1; exact Array.toList_inj.1 h
/-- A digit, and three. -/
def dg (k : Nat) : UInt8 := UInt8.ofNat (48 + k)
def dg3 (r : Nat) : List UInt8 := [dg (r / 100), dg (r / 10 % 10), dg (r % 10)]
theorem digits_one (f : Nat) (h : 10 ≤ f) : Lib.decDigits f = Lib.decDigits (f / 10) ++ [dg (f % 10)] := dec_step f (by omega)
theorem digits_three (f : Nat) (h : 1000 ≤ f) : Lib.decDigits f = Lib.decDigits (f / 1000) ++ dg3 (f % 1000) := by
  rw [digits_one f (by omega), digits_one (f / 10) (by omega), digits_one (f / 10 / 10) (by omega)]
  unfold dg3
  rw [show f / 10 / 10 / 10 = f / 1000 by omega, show f / 10 / 10 % 10 = f % 1000 / 100 by omega, show f / 10 % 10 = f % 1000 / 10 % 10 by omega, show f % 10 = f % 1000 % 10 by omega]
  simp
theorem digits_rest (r : Nat) (h : r < 1000) : Lib.decDigits (r + 1000) = 49 :: dg3 r := by
  rw [digits_three (r + 1000) (by omega), show (r + 1000) / 1000 = 1 by omega, show (r + 1000) % 1000 = r by omega, dec_small 1 (by omega)]
  rfl
theorem digits_len (f : Nat) (h : f < 1000000000) : 1 ≤ (Lib.decDigits f).length ∧ (Lib.decDigits f).length ≤ 21 := by
  have h1 : (decText (f : Int)).size ≤ 21 := Lib.itoa_length_le (f : Int) (by omega) (by omega)
  have e : (decText (f : Int)).size = (Lib.decDigits f).length := by
    unfold decText Lib.itoa
    rw [if_neg (by omega)]
    simp [ByteArray.size]
  have h0 : Lib.decDigits f ≠ [] := by
    by_cases h : f < 10
    · rw [dec_small f h]; simp
    · rw [dec_step f h]; simp
  have := List.length_pos_iff.2 h0
  omega
theorem dec_data (f : Nat) : (decText (f : Int)).data.toList = Lib.decDigits f := by
  unfold decText Lib.itoa
  rw [if_neg (by omega)]
  simp
theorem list_size (s : ByteArray) : s.data.toList.length = s.size := by simp
theorem dec_len (f : Nat) : (decText (f : Int)).size = (Lib.decDigits f).length := by
  rw [← dec_data, list_size]
theorem data_cat (a b : ByteArray) : (a ++ b).data.toList = a.data.toList ++ b.data.toList := by simp
theorem size_cat (a b : ByteArray) : (a ++ b).size = a.size + b.size := by simp
/-- A text with a point before its last digits. -/
def pt (x : List UInt8) (k : Nat) : List UInt8 := x.take k ++ 46 :: x.drop k
end Go.Proofs.YtblkbjeongmgdaaGreatDoor
