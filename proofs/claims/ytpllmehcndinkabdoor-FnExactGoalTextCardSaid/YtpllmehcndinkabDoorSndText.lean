/- A sound's text: the reference model's walk and the program's. -/
import Derived.Test.YtpllmehcndinkabDoorHzText
import Derived.Test.YtpllmehcndinkabDoorSndPart
import Derived.Test.YtpllmehcndinkabDoorShelfC
import Derived.Lib.Join
namespace Go.Proofs.YtpllmehcndinkabDoor
open Go.ChangeShapes Go.WideShapes Go.ChangeAt Go.RowKit

/-- The text of the j-th frequency. -/
def hzAt (zs : List Int) (j : Nat) : ByteArray := hzT (zs.getD j 0).toNat
def sdTo (zs : List Int) : Nat → ByteArray
  | 0 => ByteArray.empty
  | k + 1 => (if k = 0 then ByteArray.empty else sdTo zs k ++ ⟨#[32]⟩) ++ hzAt zs k
def sdT (zs : List Int) : ByteArray := sdTo zs 5
def sdV (a b c e f : Int) : ByteArray := if sndB a b c e f = true then sdT [a, b, c, e, f] else ByteArray.empty
theorem hz_size {n : Nat} (h : n ≤ 20000000) : (hzT n).size ≤ 30 := by
  have := digits_len (n / 1000) (by omega)
  show (hzL n).toArray.size ≤ 30
  rw [List.size_toArray]
  unfold hzL
  rw [List.length_append, List.length_cons]
  have h3 : (dg3 (n % 1000)).length = 3 := rfl
  omega
theorem sp_size : (⟨#[32]⟩ : ByteArray).size = 1 := rfl
theorem sd_size (zs : List Int) (h : ∀ j, j < 5 → 10000 ≤ zs.getD j 0 ∧ zs.getD j 0 ≤ 20000000) : ∀ k, k ≤ 5 → (sdTo zs k).size ≤ 40 * k
  | 0, _ => by simp [sdTo]
  | k + 1, hk => by
    have ih := sd_size zs h k (by omega)
    have b := h k (by omega)
    have := hz_size (n := (zs.getD k 0).toNat) (by omega)
    unfold sdTo hzAt
    rw [ByteArray.size_append]
    split
    · rw [show ByteArray.empty.size = 0 from rfl]; omega
    · rw [ByteArray.size_append, sp_size]; omega
theorem ret_str {a b : ByteArray} (h : a = b) : Ending.returned (.string a) = .returned (.string b) := by rw [h]
theorem sd_first (zs : List Int) : sdTo zs 1 = ByteArray.empty ++ hzAt zs 0 := rfl
theorem sd_next (zs : List Int) (k : Nat) (h : k ≠ 0) : sdTo zs (k + 1) = sdTo zs k ++ ⟨#[32]⟩ ++ hzAt zs k := by
  show (if k = 0 then ByteArray.empty else sdTo zs k ++ ⟨#[32]⟩) ++ hzAt zs k = _
  rw [if_neg h]

set_option maxRecDepth 20000 in
set_option maxHeartbeats 1000000 in
theorem l04Text_any (g : Nat) (a b c e f : Int) (w : World) (hS : sndB a b c e f = true) (h5 : Five w g a b c e f) :
    Calls Tryd.prog 16 #[.pointer (some ⟨g, 0, none⟩)] w fun en w' => en = .returned (.string (sdT [a, b, c, e, f])) ∧ Below w.heap.size w w' := by
  have HS := Lib.hid hS
  obtain ⟨c0, c1, c2, c3, c4⟩ := h5
  clear hS
  go_enter Tryd.func16, Tryd.ntmps16
  go_wp2_with fail
  refine (l04List_any g a b c e f _ c0 c1 c2 c3 c4).mono ?_
  rintro en w1 ⟨g1, rfl, hg1, hrow1, hb1⟩
  have hl1 := (hrow1.lt _ rfl).2
  have HR1 := Lib.hid hrow1
  have HB1 := Lib.hid hb1
  clear hrow1 hb1 c0 c1 c2 c3 c4
  obtain ⟨zs, hzs⟩ : ∃ zs, [a, b, c, e, f] = zs := ⟨_, rfl⟩
  have HZ := Lib.hid (show ∀ j, j < 5 → 10000 ≤ zs.getD j 0 ∧ zs.getD j 0 ≤ 20000000 by rw [← hzs]; exact fun j hj => idx5 (a := a) (b := b) (c := c) (e := e) (f := f) hj (all5_iff.2 (snd_iff.1 HS.out).1))
  have HZL := Lib.hid (show zs.length = 5 by rw [← hzs]; rfl)
  rw [hzs] at HR1
  have HE := Lib.hid hzs
  have HSZ := Lib.hid (sd_size zs HZ.out)
  clear hzs
  go_wp2
  go_loopw [4, 5] (fun v i wr => ∃ k : Nat, k ≤ 5 ∧ i = .int .i64 k ∧ v = .string (sdTo zs k) ∧ Below w1.heap.size w1 wr) (fun _ i _ => 5 - (intOf i).toNat)
  case atStart => exact ⟨0, by omega, rfl, rfl, Below.refl _ _⟩
  case round =>
    obtain ⟨k, hk, rfl, rfl, hbw⟩ := hrel
    by_cases hlt : k < 5
    · have hx : wr.cell? ⟨g1, k, none⟩ = some (.int .i64 (zs.getD k 0)) := by rw [below_cell hbw _ _ hl1, HR1.out.cellAt k (by omega)]; exact i64s_get _ k (by rw [HZL.out]; exact hlt)
      have bx := HZ.out k hlt
      have hsz := HSZ.out k hk
      have hts := hz_size (n := (zs.getD k 0).toNat) (by omega)
      have HT := Lib.hid (show hzAt zs k = hzT (zs.getD k 0).toNat from rfl)
      obtain ⟨m, hm⟩ := Int.eq_ofNat_of_zero_le (show 0 ≤ zs.getD k 0 by omega)
      rw [hm] at hx bx HT hts
      rw [Int.toNat_natCast] at HT hts
      have HBW := Lib.hid hbw
      have hk2 : (k : Int) < 5 := by omega
      have hk3 : (0 : Int) ≤ (k : Int) := by omega
      clear hbw hm
      by_cases h0 : k = 0
      · have HN := Lib.hid (show sdTo zs (k + 1) = sdTo zs k ++ hzAt zs k by subst h0; rfl)
        rw [HT.out] at HN
        have hg0 : ¬ (0 : Int) < (k : Int) := by omega
        have hg1 : ¬ 0 < k := by omega
        clear h0
        generalize sdTo zs k = t at *
        have hq : ¬ 9223372036854775807 < t.size + (hzT m).size := by omega
        go_wp2_with fail
        refine (l02Hertz_any m _ (by omega) (by omega)).mono ?_
        rintro en w3 ⟨rfl, hb⟩
        have HB3 := Lib.hid (HBW.out.trans (hb.mono HBW.out.size))
        clear hb hx
        generalize hzT m = h at *
        go_wp2
        go_roundw
        case rel => exact ⟨k + 1, by omega, by go_num, by rw [HN.out], HB3.out⟩
        case measure => simp [intOf]; omega
      · have HN := Lib.hid (sd_next zs k h0)
        rw [HT.out] at HN
        have hg0 : (0 : Int) < (k : Int) := by omega
        have hg1 : 0 < k := by omega
        generalize sdTo zs k = t at *
        have hq0 : ¬ 9223372036854775807 < t.size + 1 := by omega
        have hq : ¬ 9223372036854775807 < t.size + 1 + (hzT m).size := by omega
        go_wp2_with fail
        refine (l02Hertz_any m _ (by omega) (by omega)).mono ?_
        rintro en w3 ⟨rfl, hb⟩
        have HB3 := Lib.hid (HBW.out.trans (hb.mono HBW.out.size))
        clear hb hx
        generalize hzT m = h at *
        go_wp2
        go_roundw
        case rel => exact ⟨k + 1, by omega, by go_num, by rw [HN.out], HB3.out⟩
        case measure => simp [intOf]; omega
    · obtain rfl : k = 5 := by omega
      have HF := Lib.hid (below_of HB1.out hbw HB1.out.size)
      have HT := Lib.hid (show sdTo zs 5 = sdT [a, b, c, e, f] by rw [HE.out]; rfl)
      clear hbw
      go_wp2
      go_ret
      exact ⟨ret_str HT.out, HF.out⟩
end Go.Proofs.YtpllmehcndinkabDoor
