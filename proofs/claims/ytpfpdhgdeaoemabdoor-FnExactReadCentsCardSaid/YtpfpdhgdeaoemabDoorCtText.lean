/- CentsText, the program's and the reference model's. -/
import Derived.Test.YtpfpdhgdeaoemabDoorHzText
namespace Go.Proofs.YtpfpdhgdeaoemabDoor
open Go.ChangeShapes Go.WideShapes Go.ChangeAt Go.RowKit

def okT (t : Int) : Bool := inB t (-120000) 120000
theorem okT_iff {t : Int} : okT t = true ↔ -120000 ≤ t ∧ t ≤ 120000 := inB_iff
def sgn (t : Int) : UInt8 := if t < 0 then 45 else 43
def ctT (t : Int) : ByteArray := ⟨(sgn t :: ctL t.natAbs).toArray⟩

/-- The program's digits with a point before the last one. -/
theorem ctPointed_any (n : Nat) (w : World) (h1 : n ≤ 120000) (hp : Hid (PowOk w)) :
    Calls Tryd.prog 45 #[.int .i64 n, .int .i64 1] w fun e w' => (∃ r : ByteArray, e = .returned (.string r) ∧ r.data.toList = ctL n) ∧ Below w.heap.size w w' := by
  by_cases h : n < 10
  · refine (pointed_one n w h hp).mono ?_
    rintro e w' ⟨⟨r, rfl, hr⟩, hb⟩
    refine ⟨⟨r, rfl, hr.trans ?_⟩, hb⟩
    unfold ctL
    rw [show n / 10 = 0 by omega, show n % 10 = n by omega, dec_small 0 (by omega)]
    rfl
  · have hl := digits_len n (by omega)
    have hl3 : 2 ≤ (Lib.decDigits n).length := by
      have := congrArg List.length (digits_one n (by omega))
      rw [List.length_append] at this
      have h3 : [dg (n % 10)].length = 1 := rfl
      have := digits_len (n / 10) (by omega)
      omega
    refine (pointed_zero n 1 ((Lib.decDigits n).length - 1) _ w (by omega) (Lib.hid rfl) (by omega) (by omega) (by omega) hp).mono ?_
    rintro e w' ⟨⟨r, rfl, hr⟩, hb⟩
    exact ⟨⟨r, rfl, hr.trans (ct_pt n _ (by omega) (by omega))⟩, hb⟩

theorem ctL_len (n : Nat) (h : n ≤ 120000) : (ctL n).length ≤ 23 := by
  have := digits_len (n / 10) (by omega)
  unfold ctL
  rw [List.length_append]
  have : (46 :: [dg (n % 10)]).length = 2 := rfl
  omega

theorem ctString_any (t : Int) (w : World) (h0 : -120000 ≤ t) (h1 : t ≤ 120000) (hp : Hid (PowOk w)) :
    Calls Tryd.prog 36 #[.int .i64 t] w fun e w' => e = .returned (.string (ctT t)) ∧ Below w.heap.size w w' := by
  by_cases h : t < 0
  · obtain ⟨n, rfl⟩ : ∃ n : Nat, t = -(n : Int) := ⟨t.natAbs, by omega⟩
    go_enter Tryd.func36, Tryd.ntmps36
    go_wp2_with fail
    refine (ctPointed_any n _ (by omega) hp).mono ?_
    rintro e w' ⟨⟨r, rfl, hr⟩, hb⟩
    have HB := Lib.hid hb
    have hrs : r.size ≤ 23 := by rw [← list_size, hr]; exact ctL_len n (by omega)
    have HR := Lib.hid (show (⟨#[45]⟩ : ByteArray) ++ r = ctT (-(n : Int)) by
      apply text_eq
      rw [data_cat, hr, show (-(n : Int)).natAbs = n by omega, sgn, if_pos h]
      rfl)
    clear hb hr
    go_wp2
    go_ret
    exact ⟨ret_string HR.out, HB.out⟩
  · obtain ⟨n, rfl⟩ := Int.eq_ofNat_of_zero_le (by omega : 0 ≤ t)
    go_enter Tryd.func36, Tryd.ntmps36
    go_wp2_with fail
    refine (ctPointed_any n _ (by omega) hp).mono ?_
    rintro e w' ⟨⟨r, rfl, hr⟩, hb⟩
    have HB := Lib.hid hb
    have hrs : r.size ≤ 23 := by rw [← list_size, hr]; exact ctL_len n (by omega)
    have HR := Lib.hid (show (⟨#[43]⟩ : ByteArray) ++ r = ctT (n : Int) by
      apply text_eq
      rw [data_cat, hr, show (n : Int).natAbs = n by omega, sgn, if_neg (show ¬ (n : Int) < 0 by omega)]
      rfl)
    clear hb hr
    go_wp2
    go_ret
    exact ⟨ret_string HR.out, HB.out⟩

set_option maxHeartbeats 1000000 in
/-- The reference model's text of an interval's amount, its sign being given. -/
theorem l02Cents_any (t : Int) (w : World) (h0 : -120000 ≤ t) (h1 : t ≤ 120000) :
    Calls Tryd.prog 34 #[.int .i64 t] w fun e w' => e = .returned (.string (ctT t)) ∧ Below w.heap.size w w' := by
  have key : ∀ (n : Nat), n ≤ 120000 → (decText ((n / 10 : Nat) : Int)).size ≤ 21 ∧ (decText ((n % 10 : Nat) : Int)).size ≤ 21 ∧ ∀ s : UInt8,
      (⟨#[s]⟩ : ByteArray) ++ decText ((n / 10 : Nat) : Int) ++ (⟨#[46]⟩ : ByteArray) ++ decText ((n % 10 : Nat) : Int) = ⟨(s :: ctL n).toArray⟩ := by
    intro n hn
    refine ⟨by rw [dec_len]; exact (digits_len _ (by omega)).2, by rw [dec_len]; exact (digits_len _ (by omega)).2, fun s => ?_⟩
    apply text_eq
    rw [data_cat, data_cat, data_cat, dec_data, dec_data, dec_small (n % 10) (by omega)]
    unfold ctL dg
    simp
  by_cases h : t < 0
  · obtain ⟨n, rfl⟩ : ∃ n : Nat, t = -(n : Int) := ⟨t.natAbs, by omega⟩
    obtain ⟨k1, k2, k3⟩ := key n (by omega)
    have HR := Lib.hid (show (⟨#[45]⟩ : ByteArray) ++ decText ((n / 10 : Nat) : Int) ++ (⟨#[46]⟩ : ByteArray) ++ decText ((n % 10 : Nat) : Int) = ctT (-(n : Int)) by rw [ctT, show (-(n : Int)).natAbs = n by omega, sgn, if_pos h]; exact k3 45)
    generalize hx : decText ((n / 10 : Nat) : Int) = x at *
    have HX := Lib.hid hx
    generalize hz : decText ((n % 10 : Nat) : Int) = z at *
    have HZ := Lib.hid hz
    have HD := Lib.hid (show (n : Int) / 10 = ((n / 10 : Nat) : Int) by omega)
    have HM := Lib.hid (show (n : Int) % 10 = ((n % 10 : Nat) : Int) by omega)
    clear key hx hz k3
    go_enter Tryd.func34, Tryd.ntmps34
    go_wp2_with fail
    rw [HD.out]
    refine (specDec_any ((n / 10 : Nat) : Int) _ (by omega) (by omega)).mono ?_
    rw [HX.out]
    rintro e w1 ⟨rfl, hb1⟩
    have HB1 := Lib.hid hb1
    clear hb1
    have hs1 : ((⟨#[45]⟩ : ByteArray) ++ x).size ≤ 22 := by rw [size_cat]; show 1 + _ ≤ _; omega
    have hs2 : ((⟨#[45]⟩ : ByteArray) ++ x ++ (⟨#[46]⟩ : ByteArray)).size ≤ 23 := by rw [size_cat]; show _ + 1 ≤ _; omega
    go_wp2_with fail
    rw [HM.out]
    refine (specDec_any ((n % 10 : Nat) : Int) _ (by omega) (by omega)).mono ?_
    rw [HZ.out]
    rintro e w2 ⟨rfl, hb2⟩
    have HB2 := Lib.hid (below_of HB1.out hb2 HB1.out.size)
    clear hb2
    go_wp2
    go_ret
    exact ⟨ret_string HR.out, HB2.out⟩
  · obtain ⟨n, rfl⟩ := Int.eq_ofNat_of_zero_le (by omega : 0 ≤ t)
    obtain ⟨k1, k2, k3⟩ := key n (by omega)
    have HR := Lib.hid (show (⟨#[43]⟩ : ByteArray) ++ decText ((n / 10 : Nat) : Int) ++ (⟨#[46]⟩ : ByteArray) ++ decText ((n % 10 : Nat) : Int) = ctT (n : Int) by rw [ctT, show (n : Int).natAbs = n by omega, sgn, if_neg h]; exact k3 43)
    generalize hx : decText ((n / 10 : Nat) : Int) = x at *
    have HX := Lib.hid hx
    generalize hz : decText ((n % 10 : Nat) : Int) = z at *
    have HZ := Lib.hid hz
    have HD := Lib.hid (show (n : Int) / 10 = ((n / 10 : Nat) : Int) by omega)
    have HM := Lib.hid (show (n : Int) % 10 = ((n % 10 : Nat) : Int) by omega)
    clear key hx hz k3
    go_enter Tryd.func34, Tryd.ntmps34
    go_wp2_with fail
    rw [HD.out]
    refine (specDec_any ((n / 10 : Nat) : Int) _ (by omega) (by omega)).mono ?_
    rw [HX.out]
    rintro e w1 ⟨rfl, hb1⟩
    have HB1 := Lib.hid hb1
    clear hb1
    have hs1 : ((⟨#[43]⟩ : ByteArray) ++ x).size ≤ 22 := by rw [size_cat]; show 1 + _ ≤ _; omega
    have hs2 : ((⟨#[43]⟩ : ByteArray) ++ x ++ (⟨#[46]⟩ : ByteArray)).size ≤ 23 := by rw [size_cat]; show _ + 1 ≤ _; omega
    go_wp2_with fail
    rw [HM.out]
    refine (specDec_any ((n % 10 : Nat) : Int) _ (by omega) (by omega)).mono ?_
    rw [HZ.out]
    rintro e w2 ⟨rfl, hb2⟩
    have HB2 := Lib.hid (below_of HB1.out hb2 HB1.out.size)
    clear hb2
    go_wp2
    go_ret
    exact ⟨ret_string HR.out, HB2.out⟩

theorem l02Interval_any (t : Int) (w : World) :
    Calls Tryd.prog 33 #[.int .i64 t] w fun e w' => e = .returned (.bool (okT t)) ∧ w = w' := by
  go_enter Tryd.func33, Tryd.ntmps33
  go_wp2_with fail
  refine (l00In_any _ _ _ _).mono ?_
  rintro e w' ⟨rfl, rfl⟩
  go_wp2
  go_ret
  exact ⟨rfl, rfl⟩

theorem specCentsText_any (t : Int) (w : World) :
    Calls Tryd.prog 14 #[.int .i64 t] w fun e w' => e = .returned (.string (if okT t = true then ctT t else ByteArray.empty)) ∧ Below w.heap.size w w' := by
  by_cases h : okT t = true
  · obtain ⟨h0, h1⟩ := okT_iff.1 h
    rw [if_pos h]
    go_enter Tryd.func14, Tryd.ntmps14
    go_wp2_with fail
    refine (l02Interval_any _ _).mono ?_
    rintro e w' ⟨rfl, rfl⟩
    go_wp2_with fail
    refine (l02Cents_any t _ h0 h1).mono ?_
    rintro e w' ⟨rfl, hb⟩
    have HB := Lib.hid hb
    clear hb
    go_wp2
    go_ret
    exact ⟨rfl, HB.out⟩
  · have h' : okT t = false := by simpa using h
    rw [if_neg h]
    clear h
    go_enter Tryd.func14, Tryd.ntmps14
    go_wp2_with fail
    refine (l02Interval_any _ _).mono ?_
    rintro e w' ⟨rfl, rfl⟩
    go_wp2
    go_ret
    exact ⟨rfl, Below.refl _ _⟩

theorem implCentsText_any (t : Int) (w : World) (hp : Hid (PowOk w)) :
    Calls Tryd.prog 15 #[.int .i64 t] w fun e w' => e = .returned (.string (if okT t = true then ctT t else ByteArray.empty)) ∧ Below w.heap.size w w' := by
  have HA := Lib.hid (show allIn (-120000) 120000 [t] = okT t from all1 _ _ _)
  by_cases h : okT t = true
  · obtain ⟨h0, h1⟩ := okT_iff.1 h
    rw [if_pos h]
    go_enter Tryd.func15, Tryd.ntmps15
    go_wp2_with fail
    refine (within_i64 _ _ [t] _ 0 1 1 _ rfl (by omega) (cellF1 _ _ _)).mono ?_
    rintro e w' ⟨rfl, rfl⟩
    rw [HA.out]
    have HB := Lib.hid ((Below.refl w.heap.size w).alloc (Nat.le_refl _) (.cells #[.int .i64 t] 2))
    have HP := pow_below HB.out hp
    generalize w.alloc (.cells #[.int .i64 t] 2) = wA at *
    go_wp2_with fail
    refine (ctString_any t _ h0 h1 HP).mono ?_
    rintro e w' ⟨rfl, hb⟩
    have HB2 := Lib.hid (below_of HB.out hb HB.out.size)
    clear hb
    go_wp2
    go_ret
    exact ⟨rfl, HB2.out⟩
  · have h' : okT t = false := by simpa using h
    rw [if_neg h]
    clear h
    go_enter Tryd.func15, Tryd.ntmps15
    go_wp2_with fail
    refine (within_i64 _ _ [t] _ 0 1 1 _ rfl (by omega) (cellF1 _ _ _)).mono ?_
    rintro e w' ⟨rfl, rfl⟩
    rw [HA.out]
    go_wp2
    go_ret
    exact ⟨rfl, (Below.refl _ _).alloc (Nat.le_refl _) _⟩
end Go.Proofs.YtpfpdhgdeaoemabDoor
