/- HertzText and CentsText, the program's and the reference model's. -/
import Derived.Test.YtfleececlafjkabDoorPointed
import Derived.Test.YtfleececlafjkabDoorFreq
import Derived.Deep.RegionHeld3
namespace Go.Proofs.YtfleececlafjkabDoor
open Go.ChangeShapes Go.WideShapes Go.ChangeAt Go.RowKit

def hzL (f : Nat) : List UInt8 := Lib.decDigits (f / 1000) ++ 46 :: dg3 (f % 1000)
def ctL (n : Nat) : List UInt8 := Lib.decDigits (n / 10) ++ 46 :: [dg (n % 10)]
def hzT (f : Nat) : ByteArray := ⟨(hzL f).toArray⟩
theorem hz_pt (f k : Nat) (h : 1000 ≤ f) (hk : 3 + k = (Lib.decDigits f).length) : pt (Lib.decDigits f) k = hzL f := by
  have e := digits_three f h
  have hl : k = (Lib.decDigits (f / 1000)).length := by
    have := congrArg List.length e
    rw [List.length_append] at this
    have : (dg3 (f % 1000)).length = 3 := rfl
    omega
  unfold pt hzL
  rw [e, hl, List.take_left, List.drop_left]
theorem ct_pt (n k : Nat) (h : 10 ≤ n) (hk : 1 + k = (Lib.decDigits n).length) : pt (Lib.decDigits n) k = ctL n := by
  have e := digits_one n h
  have hl : k = (Lib.decDigits (n / 10)).length := by
    have := congrArg List.length e
    rw [List.length_append] at this
    have : [dg (n % 10)].length = 1 := rfl
    omega
  unfold pt ctL
  rw [e, hl, List.take_left, List.drop_left]
theorem text_eq {r : ByteArray} {l : List UInt8} (h : r.data.toList = l) : r = ⟨l.toArray⟩ := pt_same (by rw [h])

theorem below_keep {w w1 w2 : World} (h : Below w.heap.size w w1) (k : Below w1.drew.heap.size w1.drew w2) : Below w.heap.size w w2 :=
  h.trans ((show Below w1.heap.size w1 w2 from ⟨k.os, k.tape, k.output, k.size, k.block⟩).mono h.size)
theorem below_drew {w w1 : World} (h : Below w.heap.size w w1) : Below w.heap.size w w1.drew := ⟨h.os, h.tape, h.output, h.size, h.block⟩


set_option maxHeartbeats 400000 in
theorem l02Hertz_any (f : Nat) (w : World) (h0 : 10000 ≤ f) (h1 : f ≤ 20000000) :
    Calls Tryd.prog 38 #[.int .i64 f] w fun e w' => e = .returned (.string (hzT f)) ∧ Below w.heap.size w w' := by
  have HY := Lib.hid (show (decText ((f % 1000 + 1000 : Nat) : Int)).data.toList = 49 :: dg3 (f % 1000) by rw [dec_data, digits_rest _ (by omega)])
  have hy : (decText ((f % 1000 + 1000 : Nat) : Int)).size = 4 := by rw [← list_size, HY.out]; rfl
  have HQ := Lib.hid (dec_data (f / 1000))
  have hq := digits_len (f / 1000) (by omega)
  have hq1 : (decText ((f / 1000 : Nat) : Int)).size ≤ 21 := by rw [dec_len]; omega
  have HM := Lib.hid (show (f : Int) % 1000 + 1000 = ((f % 1000 + 1000 : Nat) : Int) by omega)
  have HD := Lib.hid (show (f : Int) / 1000 = ((f / 1000 : Nat) : Int) by omega)
  go_enter Tryd.func38, Tryd.ntmps38
  go_wp2_with fail
  rw [HM.out]
  refine (specDec_any ((f % 1000 + 1000 : Nat) : Int) _ (by omega) (by omega)).mono ?_
  rintro e w1 ⟨rfl, hb1⟩
  generalize decText ((f % 1000 + 1000 : Nat) : Int) = y at *
  have hxb : (y.extract 1 4).size = 3 := by rw [ByteArray.size_extract]; omega
  obtain ⟨x, hx⟩ : ∃ x, decText ((f / 1000 : Nat) : Int) = x := ⟨_, rfl⟩
  have HX := Lib.hid hx
  rw [hx] at hq1 HQ
  have hxs : (x ++ (⟨#[46]⟩ : ByteArray)).size = x.size + 1 := by rw [size_cat]; rfl
  have hq2 : ¬ 9223372036854775807 < x.size + 1 := by omega
  have hq4 : ¬ 9223372036854775807 < x.size + 1 + 3 := by omega
  have HR := Lib.hid (show x ++ (⟨#[46]⟩ : ByteArray) ++ y.extract 1 4 = hzT f by
    apply text_eq
    rw [data_cat, data_cat, Lib.extract_data, HY.out, HQ.out]
    unfold hzL
    simp [dg3])
  have HC := Lib.hid (show ∀ wx : World, Calls Tryd.prog 51 #[.int .i64 (IntKind.i64.wrap ((f : Int) / 1000))] wx fun e w' => e = .returned (.string x) ∧ Below wx.heap.size wx w' from fun wx => by
    rw [IntWalk.i64_in _ (by omega), HD.out, ← hx]
    exact specDec_any ((f / 1000 : Nat) : Int) wx (by omega) (by omega))
  clear hx
  go_wp2
  go_region_held3 (fun w' => Below w.heap.size w w') (first | exact below_drew hb1 | exact below_keep hb1 hb2 | assumption)
    (first | (go_at_call 51; refine (HC.out _).mono ?_; rintro e w2 ⟨rfl, hb2⟩))
  clear hb2
  rename_i hHeld
  have HB := Lib.hid hHeld
  clear hHeld
  go_wp2
  go_ret
  exact ⟨ret_string HR.out, HB.out⟩


theorem hzString_any (n : Nat) (w : World) (h0 : 10000 ≤ n) (h1 : n ≤ 20000000) (hp : Hid (PowOk w)) :
    Calls Tryd.prog 45 #[.int .i64 n] w fun e w' => e = .returned (.string (hzT n)) ∧ Below w.heap.size w w' := by
  have hl := digits_len n (by omega)
  have hl3 : 4 ≤ (Lib.decDigits n).length := by
    have := congrArg List.length (digits_three n (by omega))
    rw [List.length_append] at this
    have h3 : (dg3 (n % 1000)).length = 3 := rfl
    have := digits_len (n / 1000) (by omega)
    omega
  go_enter Tryd.func45, Tryd.ntmps45
  go_wp2_with fail
  refine (pointed_zero n 3 ((Lib.decDigits n).length - 3) _ _ (by omega) (Lib.hid rfl) (by omega) (by omega) (by omega) hp).mono ?_
  rintro e w' ⟨⟨r, rfl, hr⟩, hb⟩
  have HB := Lib.hid hb
  have HR := Lib.hid (show r = hzT n from text_eq (hr.trans (hz_pt n _ (by omega) (by omega))))
  clear hb hr
  go_wp2
  go_ret
  exact ⟨ret_string HR.out, HB.out⟩

theorem implHertzText_any (f : Int) (w : World) (hp : Hid (PowOk w)) :
    Calls Tryd.prog 23 #[.int .i64 f] w fun e w' => e = .returned (.string (if okF f = true then hzT f.toNat else ByteArray.empty)) ∧ Below w.heap.size w w' := by
  by_cases h : okF f = true
  · obtain ⟨h0, h1⟩ := okF_iff.1 h
    obtain ⟨n, rfl⟩ := Int.eq_ofNat_of_zero_le (by omega : 0 ≤ f)
    rw [if_pos h]
    go_enter Tryd.func23, Tryd.ntmps23
    go_wp2_with fail
    refine (implIsFrequency_any _ _).mono ?_
    rintro e w' ⟨rfl, hb⟩
    have HB := Lib.hid hb
    have HP := pow_below hb hp
    clear hb
    go_wp2_with fail
    refine (hzString_any n _ (by omega) (by omega) HP).mono ?_
    rintro e w' ⟨rfl, hb⟩
    have HB2 := Lib.hid (below_of HB.out hb HB.out.size)
    clear hb
    go_wp2
    go_ret
    exact ⟨rfl, HB2.out⟩
  · have h' : okF f = false := by simpa using h
    rw [if_neg h]
    clear h
    go_enter Tryd.func23, Tryd.ntmps23
    go_wp2_with fail
    refine (implIsFrequency_any _ _).mono ?_
    rintro e w' ⟨rfl, hb⟩
    have HB := Lib.hid hb
    clear hb
    go_wp2
    go_ret
    exact ⟨rfl, HB.out⟩
end Go.Proofs.YtfleececlafjkabDoor
