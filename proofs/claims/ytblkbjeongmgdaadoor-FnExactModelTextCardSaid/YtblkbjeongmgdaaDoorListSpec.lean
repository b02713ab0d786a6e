/- ListText: the reference model's walks. -/
import Derived.Test.YtblkbjeongmgdaaDoorInts
import Derived.Test.YtblkbjeongmgdaaDoorDecimal
import Derived.Lib.Join
import Derived.Lib.ItoaLen
namespace Go.Proofs.YtblkbjeongmgdaaDoor
open Go.ChangeShapes Go.WideShapes Go.ChangeAt Go.RowKit

theorem bytes_same {a b : ByteArray} (h : a.data.toList = b.data.toList) : a = b := by
  cases a; cases b; congr 1; exact Array.toList_inj.1 h
def fitsV (zs : List Int) : Bool := allIn (-1000000000000) 1000000000000 zs && decide (zs.length ≤ 64)
def joinTo (zs : List Int) (k : Nat) : List UInt8 := Lib.join ((zs.take k).map Lib.itoa) [44]
def listV (zs : List Int) : ByteArray := if fitsV zs = true then (if zs.length = 0 then ⟨#[45]⟩ else ⟨(joinTo zs zs.length).toArray⟩) else ByteArray.empty


theorem join_snoc (xs : List (List UInt8)) (y : List UInt8) (h : xs ≠ []) : Lib.join (xs ++ [y]) [44] = Lib.join xs [44] ++ 44 :: y := by
  cases xs with
  | nil => exact absurd rfl h
  | cons x r => rw [List.cons_append, Lib.join_cons, Lib.join_cons]; simp [Lib.joinTail]
theorem joinTo_first (zs : List Int) (h : 0 < zs.length) : joinTo zs 1 = Lib.itoa (zs.getD 0 0) := by
  cases zs with
  | nil => simp at h
  | cons z r => simp [joinTo, Lib.join_one]
theorem joinTo_next (zs : List Int) (k : Nat) (h0 : 0 < k) (h : k < zs.length) : joinTo zs (k + 1) = joinTo zs k ++ 44 :: Lib.itoa (zs.getD k 0) := by
  unfold joinTo
  rw [List.take_succ_eq_append_getElem h, List.map_append, List.map_cons, List.map_nil, join_snoc _ _ (by intro e; have := congrArg List.length e; rw [List.length_map, List.length_take, List.length_nil] at this; omega)]
  simp [List.getD, h]
theorem cat_bytes (l m : List UInt8) : (⟨l.toArray⟩ : ByteArray) ++ (⟨m.toArray⟩ : ByteArray) = ⟨(l ++ m).toArray⟩ := by
  apply bytes_same
  simp
theorem dec_size (z : Int) (h0 : -9223372036854775808 ≤ z) (h1 : z ≤ 9223372036854775807) : (decText z).size ≤ 21 := Lib.itoa_length_le z h0 h1
theorem cat_size (a b : ByteArray) : (a ++ b).size = a.size + b.size := by simp

set_option maxHeartbeats 1000000 in
theorem list_some (zs : List Int) (b off cap : Nat) (w : World) (n : Nat) (hn : Hid (zs.length = n)) (hn0 : 0 < n) (hn1 : n ≤ 64) (hb : b < w.heap.size) (hc : ∀ j, j < n → w.cell? ⟨b, off + j, none⟩ = some (.int .i64 (zs.getD j 0)))
    (hw : ∀ j, j < n → -9223372036854775808 ≤ zs.getD j 0 ∧ zs.getD j 0 ≤ 9223372036854775807) :
    Calls Tryd.prog 23 #[.slice (some ⟨b, off, none⟩) n cap] w fun e w' => e = .returned (.string ⟨(joinTo zs n).toArray⟩) ∧ Below w.heap.size w w' := by
  have HC := Lib.hid hc
  have HW := Lib.hid hw
  have hne : ((n : Int) == 0) = false := beq_eq_false_iff_ne.2 (by omega)
  clear hc hw
  go_enter Tryd.func23, Tryd.ntmps23
  go_wp2
  go_loopw [3, 4] (fun v i wr => ∃ (k : Nat) (s : ByteArray), k ≤ n ∧ i = .int .i64 k ∧ v = .string s ∧ Hid (s = ⟨(joinTo zs k).toArray⟩) ∧ s.size ≤ 22 * k ∧ Below w.heap.size w wr) (fun _ i _ => n - (intOf i).toNat)
  case atStart => exact ⟨0, ByteArray.empty, by omega, rfl, rfl, rfl, Nat.le_refl _, Below.refl _ _⟩
  case round =>
    obtain ⟨k, s, hk, rfl, rfl, HS, hsz, hbw⟩ := hrel
    have HB := Lib.hid hbw
    by_cases hlt : k < n
    · have hcell : wr.cell? ⟨b, off + k, none⟩ = some (.int .i64 (zs.getD k 0)) := by rw [hbw.cell (p := ⟨b, off + k, none⟩) hb]; exact HC.out k hlt
      have hz := HW.out k hlt
      have hds := dec_size _ hz.1 hz.2
      clear hbw
      by_cases h0 : k = 0
      · have HJ := Lib.hid (show joinTo zs (k + 1) = Lib.itoa (zs.getD k 0) by rw [h0]; exact joinTo_first zs (by rw [hn.out]; exact hn0))
        have hs0 : s = ByteArray.empty := by rw [HS.out, h0]; rfl
        have h0' : ¬ 0 < (k : Int) := by omega
        clear h0
        generalize zs.getD k 0 = z at *
        subst hs0
        go_wp2_with fail
        refine (specDec_any z _ hz.1 hz.2).mono ?_
        rintro e w2 ⟨rfl, hb2⟩
        have HB2 := Lib.hid (below_of HB.out hb2 HB.out.size)
        clear hb2
        go_wp2
        go_roundw
        case rel => exact ⟨k + 1, _, by omega, by go_num, rfl, (show _ = (⟨(joinTo zs (k + 1)).toArray⟩ : ByteArray) by rw [HJ.out]; unfold decText; apply bytes_same; simp), by (first | (rw [cat_size]; simp; omega) | omega), HB2.out⟩
        case measure => simp [intOf]; omega
      · have h0' : 0 < k := by omega
        have HJ := Lib.hid (joinTo_next zs k h0' (by rw [hn.out]; exact hlt))
        generalize zs.getD k 0 = z at *
        go_wp2_with fail
        refine (specDec_any z _ hz.1 hz.2).mono ?_
        rintro e w2 ⟨rfl, hb2⟩
        have HB2 := Lib.hid (below_of HB.out hb2 HB.out.size)
        clear hb2
        have hcs : (s ++ (⟨#[44]⟩ : ByteArray)).size = s.size + 1 := by rw [cat_size]; rfl
        have HCS := Lib.hid hcs
        have hcs2 : (s ++ (⟨#[44]⟩ : ByteArray)).size ≤ 22 * k + 1 := by omega
        clear hcs
        go_wp2
        go_roundw
        case rel => exact ⟨k + 1, _, by omega, by go_num, rfl, (show _ = (⟨(joinTo zs (k + 1)).toArray⟩ : ByteArray) by rw [HJ.out, HS.out]; unfold decText; apply bytes_same; simp), by rw [cat_size]; omega, HB2.out⟩
        case measure => simp [intOf]; omega
    · obtain rfl : k = n := by omega
      clear hbw
      go_wp2
      go_ret
      exact ⟨ret_string HS.out, HB.out⟩

theorem list_none (g cap : Nat) (w : World) :
    Calls Tryd.prog 23 #[.slice (some ⟨g, 0, none⟩) 0 cap] w fun e w' => e = .returned (.string ⟨#[45]⟩) ∧ Below w.heap.size w w' := by
  go_enter Tryd.func23, Tryd.ntmps23
  go_wp2
  go_ret
  exact ⟨rfl, Below.refl _ _⟩

end Go.Proofs.YtblkbjeongmgdaaDoor
