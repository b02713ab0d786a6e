/- ListText: the reference model's walks. -/
import Derived.Test.YtfficiomggmmcaaDoorInts
import Derived.Test.YtfficiomggmmcaaDoorDecimal
import Derived.Lib.Join
import Derived.Lib.ItoaLen
namespace Go.Proofs.YtfficiomggmmcaaDoor
open Go.ChangeShapes Go.WideShapes Go.ChangeAt Go.RowKit

theorem bytes_same {a b : ByteArray} (h : a.data.toList = b.data.toList) : a = b := by
  cases a; cases b; congr 1; exact Array.toList_inj.1 h
def fitsV (zs : List Int) : Bool := allIn (-1000000000000) 1000000000000 zs && decide (zs.length ≤ 64)
def joinTo (zs : List Int) (k : Nat) : List UInt8 := Lib.join ((zs.take k).map Lib.itoa) [44]
def listV (zs : List Int) : ByteArray := if fitsV zs = true then (if zs.length = 0 then ⟨#[45]⟩ else ⟨(joinTo zs zs.length).toArray⟩) else ByteArray.empty

theorem fits_some (zs : List Int) (b off cap : Nat) (w : World) (n : Nat) (hn : Hid (zs.length = n)) (hn1 : n ≤ 1048576) (hc : ∀ j, j < n → w.cell? ⟨b, off + j, none⟩ = some (.int .i64 (zs.getD j 0))) :
    Calls Tryd.prog 47 #[.slice (some ⟨b, off, none⟩) n cap] w fun e w' => e = .returned (.bool (fitsV zs)) ∧ w = w' := by
  have HC := Lib.hid hc
  clear hc
  go_enter Tryd.func47, Tryd.ntmps47
  go_wp2
  go_loop [3] (fun i => ∃ k : Nat, k ≤ n ∧ i = .int .i64 k ∧ ∀ j, j < k → inB (zs.getD j 0) (-1000000000000) 1000000000000 = true) (fun i => n - (intOf i).toNat)
  case atStart => exact ⟨0, by omega, rfl, fun j hj => by omega⟩
  case round =>
    obtain ⟨k, hk, rfl, hall⟩ := hrel
    have HA := Lib.hid hall
    clear hall
    by_cases hlt : k < n
    · have hcell := HC.out k hlt
      by_cases h1 : inB (zs.getD k 0) (-1000000000000) 1000000000000 = true
      · have HB := Lib.hid h1
        generalize hz : zs.getD k 0 = z at *
        have HZ := Lib.hid hz
        clear hz
        go_wp2_with (go_at_call 44; refine (l00In_any _ _ _ _).mono ?_; rintro e w' ⟨rfl, rfl⟩)
        go_round
        case rel => exact ⟨k + 1, by omega, by go_num, fun j hj => by
          by_cases e : j = k
          · subst e; rw [HZ.out]; exact HB.out
          · exact HA.out j (by omega)⟩
        case measure => simp [intOf]; omega
      · have h1' : inB (zs.getD k 0) (-1000000000000) 1000000000000 = false := by simpa using h1
        have HF := Lib.hid (show fitsV zs = false by unfold fitsV; rw [allIn_false (k := k) (by rw [hn.out]; exact hlt) h1']; rfl)
        clear h1
        generalize zs.getD k 0 = z at *
        go_wp2_with (go_at_call 44; refine (l00In_any _ _ _ _).mono ?_; rintro e w' ⟨rfl, rfl⟩)
        go_ret
        exact ⟨ret_bool HF.out.symm, rfl⟩
    · have HF := Lib.hid (show fitsV zs = decide ((n : Int) ≤ 64) by
        unfold fitsV
        rw [allIn_true (fun j hj => HA.out j (by have := hn.out; omega)), hn.out, Bool.true_and]
        by_cases h : n ≤ 64
        · rw [decide_eq_true h, decide_eq_true (by omega)]
        · rw [decide_eq_false h, decide_eq_false (by omega)])
      go_wp2
      go_ret
      exact ⟨ret_bool HF.out.symm, rfl⟩

theorem join_snoc (xs : List (List UInt8)) (y : List UInt8) (h : xs ≠ []) : Lib.join (xs ++ [y]) [44] = Lib.join xs [44] ++ 44 :: y := by
  cases xs with
  | nil => exact absurd rfl h
  | cons x r => rw [List.cons_append, Lib.join_cons, Lib.join_cons]; simp [Lib.joinTail]
theorem joinTo_first (zs : List Int) (h : 0 < zs.length) : joinTo zs 1 = Lib.itoa (zs.getD 0 0) := by
  cases zs with
  | nil => simp at h
  | cons z r => simp [joinTo, Lib.join_one]
theorem joinTo_next (zs : List Int) (k : Nat) (h0 : 0 < k) (h : k < zs.length) : joinTo zs (k + 1) = joinTo zs k ++ 44 :: Lib.itoa (zs.getD k 0) := by
  unfold joinTo
  rw [List.take_succ_eq_append_getElem h, List.map_append, List.map_cons, List.map_nil, join_snoc _ _ (by intro e; have := congrArg List.length e; rw [List.length_map, List.length_take, List.length_nil] at this; omega)]
  simp [List.getD, h]
theorem cat_bytes (l m : List UInt8) : (⟨l.toArray⟩ : ByteArray) ++ (⟨m.toArray⟩ : ByteArray) = ⟨(l ++ m).toArray⟩ := by
  apply bytes_same
  simp
theorem dec_size (z : Int) (h0 : -9223372036854775808 ≤ z) (h1 : z ≤ 9223372036854775807) : (decText z).size ≤ 21 := Lib.itoa_length_le z h0 h1
theorem cat_size (a b : ByteArray) : (a ++ b).size = a.size + b.size := by simp

set_option maxHeartbeats 1000000 in
theorem list_some (zs : List Int) (b off cap : Nat) (w : World) (n : Nat) (hn : Hid (zs.length = n)) (hn0 : 0 < n) (hn1 : n ≤ 64) (hb : b < w.heap.size) (hc : ∀ j, j < n → w.cell? ⟨b, off + j, none⟩ = some (.int .i64 (zs.getD j 0)))
    (hw : ∀ j, j < n → -9223372036854775808 ≤ zs.getD j 0 ∧ zs.getD j 0 ≤ 9223372036854775807) :
    Calls Tryd.prog 48 #[.slice (some ⟨b, off, none⟩) n cap] w fun e w' => e = .returned (.string ⟨(joinTo zs n).toArray⟩) ∧ Below w.heap.size w w' := by
  have HC := Lib.hid hc
  have HW := Lib.hid hw
  have hne : ((n : Int) == 0) = false := beq_eq_false_iff_ne.2 (by omega)
  clear hc hw
  go_enter Tryd.func48, Tryd.ntmps48
  go_wp2
  go_loopw [3, 4] (fun v i wr => ∃ (k : Nat) (s : ByteArray), k ≤ n ∧ i = .int .i64 k ∧ v = .string s ∧ Hid (s = ⟨(joinTo zs k).toArray⟩) ∧ s.size ≤ 22 * k ∧ Below w.heap.size w wr) (fun _ i _ => n - (intOf i).toNat)
  case atStart => exact ⟨0, ByteArray.empty, by omega, rfl, rfl, rfl, Nat.le_refl _, Below.refl _ _⟩
  case round =>
    obtain ⟨k, s, hk, rfl, rfl, HS, hsz, hbw⟩ := hrel
    have HB := Lib.hid hbw
    by_cases hlt : k < n
    · have hcell : wr.cell? ⟨b, off + k, none⟩ = some (.int .i64 (zs.getD k 0)) := by rw [hbw.cell (p := ⟨b, off + k, none⟩) hb]; exact HC.out k hlt
      have hz := HW.out k hlt
      have hds := dec_size _ hz.1 hz.2
      clear hbw
      by_cases h0 : k = 0
      · have HJ := Lib.hid (show joinTo zs (k + 1) = Lib.itoa (zs.getD k 0) by rw [h0]; exact joinTo_first zs (by rw [hn.out]; exact hn0))
        have hs0 : s = ByteArray.empty := by rw [HS.out, h0]; rfl
        have h0' : ¬ 0 < (k : Int) := by omega
        clear h0
        generalize zs.getD k 0 = z at *
        subst hs0
        go_wp2_with fail
        refine (specDec_any z _ hz.1 hz.2).mono ?_
        rintro e w2 ⟨rfl, hb2⟩
        have HB2 := Lib.hid (below_of HB.out hb2 HB.out.size)
        clear hb2
        go_wp2
        go_roundw
        case rel => exact ⟨k + 1, _, by omega, by go_num, rfl, (show _ = (⟨(joinTo zs (k + 1)).toArray⟩ : ByteArray) by rw [HJ.out]; unfold decText; apply bytes_same; simp), by (first | (rw [cat_size]; simp; omega) | omega), HB2.out⟩
        case measure => simp [intOf]; omega
      · have h0' : 0 < k := by omega
        have HJ := Lib.hid (joinTo_next zs k h0' (by rw [hn.out]; exact hlt))
        generalize zs.getD k 0 = z at *
        go_wp2_with fail
        refine (specDec_any z _ hz.1 hz.2).mono ?_
        rintro e w2 ⟨rfl, hb2⟩
        have HB2 := Lib.hid (below_of HB.out hb2 HB.out.size)
        clear hb2
        have hcs : (s ++ (⟨#[44]⟩ : ByteArray)).size = s.size + 1 := by rw [cat_size]; rfl
        have HCS := Lib.hid hcs
        have hcs2 : (s ++ (⟨#[44]⟩ : ByteArray)).size ≤ 22 * k + 1 := by omega
        clear hcs
        go_wp2
        go_roundw
        case rel => exact ⟨k + 1, _, by omega, by go_num, rfl, (show _ = (⟨(joinTo zs (k + 1)).toArray⟩ : ByteArray) by rw [HJ.out, HS.out]; unfold decText; apply bytes_same; simp), by rw [cat_size]; omega, HB2.out⟩
        case measure => simp [intOf]; omega
    · obtain rfl : k = n := by omega
      clear hbw
      go_wp2
      go_ret
      exact ⟨ret_string HS.out, HB.out⟩

theorem list_none (g cap : Nat) (w : World) :
    Calls Tryd.prog 48 #[.slice (some ⟨g, 0, none⟩) 0 cap] w fun e w' => e = .returned (.string ⟨#[45]⟩) ∧ Below w.heap.size w w' := by
  go_enter Tryd.func48, Tryd.ntmps48
  go_wp2
  go_ret
  exact ⟨rfl, Below.refl _ _⟩

theorem specListText_any (zs : List Int) (g cap : Nat) (w : World) (n : Nat) (hn : Hid (zs.length = n)) (hn1 : n ≤ 1048576) (hb : g < w.heap.size) (hc : ∀ j, j < n → w.cell? ⟨g, 0 + j, none⟩ = some (.int .i64 (zs.getD j 0)))
    (hw : ∀ j, j < n → -9223372036854775808 ≤ zs.getD j 0 ∧ zs.getD j 0 ≤ 9223372036854775807) :
    Calls Tryd.prog 25 #[.slice (some ⟨g, 0, none⟩) n cap] w fun e w' => e = .returned (.string (listV zs)) ∧ Below w.heap.size w w' := by
  have HC := Lib.hid hc
  have HW := Lib.hid hw
  clear hc hw
  by_cases hf : fitsV zs = true
  · have h64 : n ≤ 64 := by
      have := hf
      unfold fitsV at this
      rw [Bool.and_eq_true, decide_eq_true_eq, hn.out] at this
      exact this.2
    by_cases hn0 : 0 < n
    · have HV := Lib.hid (show listV zs = ⟨(joinTo zs n).toArray⟩ by unfold listV; rw [if_pos hf, if_neg (by rw [hn.out]; omega), hn.out])
      go_enter Tryd.func25, Tryd.ntmps25
      go_wp2_with fail
      refine (fits_some zs g 0 cap _ n hn hn1 HC.out).mono ?_
      rintro e w' ⟨rfl, rfl⟩
      go_wp2_with fail
      refine (list_some zs g 0 cap _ n hn hn0 h64 hb HC.out HW.out).mono ?_
      rintro e w2 ⟨rfl, hb2⟩
      have HB2 := Lib.hid hb2
      clear hb2
      go_wp2
      go_ret
      exact ⟨ret_string HV.out.symm, HB2.out⟩
    · obtain rfl : n = 0 := by omega
      have HV := Lib.hid (show listV zs = ⟨#[45]⟩ by unfold listV; rw [if_pos hf, if_pos hn.out])
      go_enter Tryd.func25, Tryd.ntmps25
      go_wp2_with fail
      refine (fits_some zs g 0 cap _ 0 hn hn1 HC.out).mono ?_
      rintro e w' ⟨rfl, rfl⟩
      go_wp2_with fail
      refine (list_none g cap _).mono ?_
      rintro e w2 ⟨rfl, hb2⟩
      have HB2 := Lib.hid hb2
      clear hb2
      go_wp2
      go_ret
      exact ⟨ret_string HV.out.symm, HB2.out⟩
  · have hf' : fitsV zs = false := by simpa using hf
    have HV := Lib.hid (show listV zs = ByteArray.empty by unfold listV; rw [if_neg hf])
    clear hf
    go_enter Tryd.func25, Tryd.ntmps25
    go_wp2_with fail
    refine (fits_some zs g 0 cap _ n hn hn1 HC.out).mono ?_
    rintro e w' ⟨rfl, rfl⟩
    go_wp2
    go_ret
    exact ⟨ret_string HV.out.symm, Below.refl _ _⟩
end Go.Proofs.YtfficiomggmmcaaDoor
