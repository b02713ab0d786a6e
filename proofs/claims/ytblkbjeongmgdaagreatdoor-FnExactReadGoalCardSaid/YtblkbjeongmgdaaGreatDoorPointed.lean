/- The program's number with a point before its last digits. -/
import Derived.Test.YtblkbjeongmgdaaGreatDoorPtMath
import Derived.Test.YtblkbjeongmgdaaGreatDoorWithin
import Derived.Test.YtblkbjeongmgdaaGreatDoorShelfB
import Derived.WalkSpells
namespace Go.Proofs.YtblkbjeongmgdaaGreatDoor
open Go.ChangeShapes Go.WideShapes Go.ChangeAt Go.RowKit

def posOf (z : Int) : Int := if 0 < z then z else 0
def posAt (z : Int) (k : Nat) : Int := if k = 0 then 0 else posOf z
theorem greatInt_one (z : Int) (b : Nat) (cap : Nat) (w : World) (hc : w.cell? ⟨b, 0, none⟩ = some (.int .i64 z)) :
    Calls Tryz.prog 86 #[.int .i64 0, .slice (some ⟨b, 0, none⟩) 1 cap] w fun e w' => e = .returned (.int .i64 (posOf z)) ∧ w = w' := by
  go_enter Tryz.func86, Tryz.ntmps86
  go_wp2
  go_loop [0, 9] (fun a i => ∃ k : Nat, k ≤ 1 ∧ i = .int .i64 k ∧ a = .int .i64 (posAt z k)) (fun _ i => 1 - (intOf i).toNat)
  case atStart => exact ⟨0, by omega, rfl, rfl⟩
  case round =>
    obtain ⟨k, hk, rfl, rfl⟩ := hrel
    by_cases hlt : k < 1
    · obtain rfl : k = 0 := by omega
      rw [show posAt z 0 = 0 from rfl]
      by_cases h1 : 0 < z
      · go_wp2
        go_round
        case rel => exact ⟨1, by omega, by go_num, by rw [show posAt z 1 = posOf z from rfl, posOf, if_pos h1]⟩
        case measure => simp [intOf]
      · go_wp2
        go_round
        case rel => exact ⟨1, by omega, by go_num, by rw [show posAt z 1 = posOf z from rfl, posOf, if_neg h1]⟩
        case measure => simp [intOf]
    · obtain rfl : k = 1 := by omega
      rw [show posAt z 1 = posOf z from rfl]
      obtain ⟨m, hm⟩ : ∃ m, posOf z = m := ⟨_, rfl⟩
      have HM := Lib.hid hm
      rw [hm]
      clear hm
      go_wp2
      go_ret
      exact ⟨ret_i64 HM.out.symm, rfl⟩

theorem pow_below {w w' : World} (hb : Below w.heap.size w w') (h : Hid (PowOk w)) : Hid (PowOk w') := Lib.hid (pow_kept hb h.out)

set_option maxHeartbeats 1000000 in
theorem pointed_zero (n d k L : Nat) (w : World) (hn : n < 1000000000) (hL : Hid ((Lib.decDigits n).length = L)) (hd : d + k = L) (hk : 1 ≤ k) (hL2 : L ≤ 21) (hp : Hid (PowOk w)) :
    Calls Tryz.prog 74 #[.int .i64 n, .int .i64 d] w fun e w' => (∃ r : ByteArray, e = .returned (.string r) ∧ r.data.toList = pt (Lib.decDigits n) k) ∧ Below w.heap.size w w' := by
  have HX := Lib.hid (dec_data n)
  have hx : (decText (n : Int)).size = L := by rw [dec_len, hL.out]
  have hcmp : posOf ((d : Int) + 1 - L) = 0 := by unfold posOf; rw [if_neg (by omega)]
  go_enter Tryz.func74, Tryz.ntmps74
  go_wp2_with fail
  refine (implDecimal_any n _ (by omega) (by omega) hp).mono ?_
  rintro e w1 ⟨rfl, hb1⟩
  have HB1 := Lib.hid hb1
  clear hb1
  generalize decText (n : Int) = x at *
  go_wp2_with fail
  refine (greatInt_one ((d : Int) + 1 - L) w1.heap.size 1 _ (by go_simp)).mono ?_
  rintro e w2 ⟨rfl, rfl⟩
  rw [hcmp]
  have HB2 := Lib.hid (HB1.out.alloc HB1.out.size (.cells #[.int .i64 ((d : Int) + 1 - L)] 3))
  generalize hwe : w1.alloc (.cells #[.int .i64 ((d : Int) + 1 - L)] 3) = wA at *
  clear hwe hcmp
  go_wp2_with fail
  refine (Tryz.strings_Repeat_zero _ _).mono ?_
  rintro e w3 ⟨rfl, rfl⟩
  have hem : (⟨#[]⟩ : ByteArray) ++ x = x := by apply pt_same; simp
  have hpt : (L : Int) - (d : Int) = (k : Int) := by omega
  have hkL : k ≤ L := by omega
  have hxa : (x.extract 0 k).size = k := by rw [ByteArray.size_extract]; omega
  have hxb : (x.extract k L).size = d := by rw [ByteArray.size_extract]; omega
  have hq1 : ¬ 9223372036854775807 < k + 1 := by omega
  have hq2 : ¬ 9223372036854775807 ≤ k := by omega
  have hq3 : ¬ 9223372036854775807 < k + 1 + d := by omega
  have hq4 : ¬ 9223372036854775807 < k + 1 + (L - k) := by omega
  have hkd : L - k = d := by omega
  have hmin : min k L = k := by omega
  have HR := Lib.hid (show (x.extract 0 k ++ (⟨#[46]⟩ : ByteArray) ++ x.extract k L).data.toList = pt (Lib.decDigits n) k by
    have hl : (Lib.decDigits n).length = L := hL.out
    rw [data_cat, data_cat, Lib.extract_data, Lib.extract_data, HX.out]
    unfold pt
    rw [List.drop_zero, Nat.sub_zero, List.take_of_length_le (i := L - k) (by rw [List.length_drop]; omega)]
    simp)
  go_wp2
  go_quiet (fail)
  go_wp2
  go_ret
  exact ⟨⟨_, rfl, HR.out⟩, HB2.out.trans (below_drewN _ _ |>.mono HB2.out.size)⟩

set_option maxHeartbeats 1000000 in
theorem pointed_one (n : Nat) (w : World) (hn : n < 10) (hp : Hid (PowOk w)) :
    Calls Tryz.prog 74 #[.int .i64 n, .int .i64 1] w fun e w' => (∃ r : ByteArray, e = .returned (.string r) ∧ r.data.toList = [48, 46, dg n]) ∧ Below w.heap.size w w' := by
  have HX := Lib.hid (show (decText (n : Int)).data.toList = [dg n] by rw [dec_data, dec_small n hn]; rfl)
  have hx : (decText (n : Int)).size = 1 := by rw [dec_len, dec_small n hn]; rfl
  go_enter Tryz.func74, Tryz.ntmps74
  go_wp2_with fail
  refine (implDecimal_any n _ (by omega) (by omega) hp).mono ?_
  rintro e w1 ⟨rfl, hb1⟩
  have HB1 := Lib.hid hb1
  clear hb1
  generalize decText (n : Int) = x at *
  go_wp2_with fail
  refine (greatInt_one 1 w1.heap.size 1 _ (by go_simp)).mono ?_
  rintro e w2 ⟨rfl, rfl⟩
  rw [show posOf 1 = 1 from rfl]
  have HB2 := Lib.hid (HB1.out.alloc HB1.out.size (.cells #[.int .i64 1] 3))
  generalize hwe : w1.alloc (.cells #[.int .i64 1] 3) = wA at *
  clear hwe
  go_wp2_with fail
  refine (Tryz.strings_Repeat_one _ _).mono ?_
  rintro e w3 ⟨rfl, rfl⟩
  obtain ⟨y, hy⟩ : ∃ y, (⟨#[48]⟩ : ByteArray) ++ x = y := ⟨_, rfl⟩
  have hys : y.size = 2 := by rw [← hy, size_cat, hx]; rfl
  have hxa : (y.extract 0 1).size = 1 := by rw [ByteArray.size_extract]; omega
  have hxb : (y.extract 1 2).size = 1 := by rw [ByteArray.size_extract]; omega
  have HR := Lib.hid (show (y.extract 0 1 ++ (⟨#[46]⟩ : ByteArray) ++ y.extract 1 2).data.toList = [48, 46, dg n] by
    rw [data_cat, data_cat, Lib.extract_data, Lib.extract_data, ← hy, data_cat, HX.out]
    rfl)
  go_wp2
  go_quiet (fail)
  go_wp2
  go_ret
  exact ⟨⟨_, rfl, HR.out⟩, HB2.out.trans (below_drewN _ _ |>.mono HB2.out.size)⟩
end Go.Proofs.YtblkbjeongmgdaaGreatDoor
