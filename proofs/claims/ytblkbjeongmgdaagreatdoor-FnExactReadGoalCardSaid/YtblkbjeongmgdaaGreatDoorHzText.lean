/- HertzText and CentsText, the program's and the reference model's. -/
import Derived.Test.YtblkbjeongmgdaaGreatDoorPointed
import Derived.Test.YtblkbjeongmgdaaGreatDoorFreq
import Derived.Deep.RegionHeld3
namespace Go.Proofs.YtblkbjeongmgdaaGreatDoor
open Go.ChangeShapes Go.WideShapes Go.ChangeAt Go.RowKit

def hzL (f : Nat) : List UInt8 := Lib.decDigits (f / 1000) ++ 46 :: dg3 (f % 1000)
def ctL (n : Nat) : List UInt8 := Lib.decDigits (n / 10) ++ 46 :: [dg (n % 10)]
def hzT (f : Nat) : ByteArray := ⟨(hzL f).toArray⟩
theorem hz_pt (f k : Nat) (h : 1000 ≤ f) (hk : 3 + k = (Lib.decDigits f).length) : pt (Lib.decDigits f) k = hzL f := by
  have e := digits_three f h
  have hl : k = (Lib.decDigits (f / 1000)).length := by
    have := congrArg List.length e
    rw [List.length_append] at this
    have : (dg3 (f % 1000)).length = 3 := rfl
    omega
  unfold pt hzL
  rw [e, hl, List.take_left, List.drop_left]
theorem ct_pt (n k : Nat) (h : 10 ≤ n) (hk : 1 + k = (Lib.decDigits n).length) : pt (Lib.decDigits n) k = ctL n := by
  have e := digits_one n h
  have hl : k = (Lib.decDigits (n / 10)).length := by
    have := congrArg List.length e
    rw [List.length_append] at this
    have : [dg (n % 10)].length = 1 := rfl
    omega
  unfold pt ctL
  rw [e, hl, List.take_left, List.drop_left]
theorem text_eq {r : ByteArray} {l : List UInt8} (h : r.data.toList = l) : r = ⟨l.toArray⟩ := pt_same (by rw [h])

theorem below_keep {w w1 w2 : World} (h : Below w.heap.size w w1) (k : Below w1.drew.heap.size w1.drew w2) : Below w.heap.size w w2 :=
  h.trans ((show Below w1.heap.size w1 w2 from ⟨k.os, k.tape, k.output, k.size, k.block⟩).mono h.size)
theorem below_drew {w w1 : World} (h : Below w.heap.size w w1) : Below w.heap.size w w1.drew := ⟨h.os, h.tape, h.output, h.size, h.block⟩




theorem hzString_any (n : Nat) (w : World) (h0 : 10000 ≤ n) (h1 : n ≤ 20000000) (hp : Hid (PowOk w)) :
    Calls Tryz.prog 58 #[.int .i64 n] w fun e w' => e = .returned (.string (hzT n)) ∧ Below w.heap.size w w' := by
  have hl := digits_len n (by omega)
  have hl3 : 4 ≤ (Lib.decDigits n).length := by
    have := congrArg List.length (digits_three n (by omega))
    rw [List.length_append] at this
    have h3 : (dg3 (n % 1000)).length = 3 := rfl
    have := digits_len (n / 1000) (by omega)
    omega
  go_enter Tryz.func58, Tryz.ntmps58
  go_wp2_with fail
  refine (pointed_zero n 3 ((Lib.decDigits n).length - 3) _ _ (by omega) (Lib.hid rfl) (by omega) (by omega) (by omega) hp).mono ?_
  rintro e w' ⟨⟨r, rfl, hr⟩, hb⟩
  have HB := Lib.hid hb
  have HR := Lib.hid (show r = hzT n from text_eq (hr.trans (hz_pt n _ (by omega) (by omega))))
  clear hb hr
  go_wp2
  go_ret
  exact ⟨ret_string HR.out, HB.out⟩

theorem implHertzText_any (f : Int) (w : World) (hp : Hid (PowOk w)) :
    Calls Tryz.prog 43 #[.int .i64 f] w fun e w' => e = .returned (.string (if okF f = true then hzT f.toNat else ByteArray.empty)) ∧ Below w.heap.size w w' := by
  by_cases h : okF f = true
  · obtain ⟨h0, h1⟩ := okF_iff.1 h
    obtain ⟨n, rfl⟩ := Int.eq_ofNat_of_zero_le (by omega : 0 ≤ f)
    rw [if_pos h]
    go_enter Tryz.func43, Tryz.ntmps43
    go_wp2_with fail
    refine (implIsFrequency_any _ _).mono ?_
    rintro e w' ⟨rfl, hb⟩
    have HB := Lib.hid hb
    have HP := pow_below hb hp
    clear hb
    go_wp2_with fail
    refine (hzString_any n _ (by omega) (by omega) HP).mono ?_
    rintro e w' ⟨rfl, hb⟩
    have HB2 := Lib.hid (below_of HB.out hb HB.out.size)
    clear hb
    go_wp2
    go_ret
    exact ⟨rfl, HB2.out⟩
  · have h' : okF f = false := by simpa using h
    rw [if_neg h]
    clear h
    go_enter Tryz.func43, Tryz.ntmps43
    go_wp2_with fail
    refine (implIsFrequency_any _ _).mono ?_
    rintro e w' ⟨rfl, hb⟩
    have HB := Lib.hid hb
    clear hb
    go_wp2
    go_ret
    exact ⟨rfl, HB.out⟩
end Go.Proofs.YtblkbjeongmgdaaGreatDoor
