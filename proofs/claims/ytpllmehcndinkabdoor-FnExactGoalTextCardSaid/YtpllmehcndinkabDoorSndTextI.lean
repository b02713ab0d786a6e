/- A sound's text: the program's walk. -/
import Derived.Test.YtpllmehcndinkabDoorSndText
import Derived.Test.YtpllmehcndinkabDoorFive
import Derived.Lib.SmallJoins
namespace Go.Proofs.YtpllmehcndinkabDoor
open Go.ChangeShapes Go.WideShapes Go.ChangeAt Go.RowKit

def strVs5 (ss : List ByteArray) : List Value := ss.map Value.string
def stepB (q : Nat → ByteArray) (k : Nat) : List ByteArray := (List.range 5).map fun j => if j < k then q j else ByteArray.empty
theorem stepB_len (q : Nat → ByteArray) (k : Nat) : (stepB q k).length = 5 := by simp [stepB]
theorem stepB_next (q : Nat → ByteArray) (k : Nat) : (strVs5 (stepB q k)).set k (.string (q k)) = strVs5 (stepB q (k + 1)) := by
  unfold strVs5
  rw [← List.map_set]
  congr 1
  apply List.ext_getElem
  · simp [stepB]
  · intro j h1 h2
    rw [List.getElem_set]
    by_cases e : k = j
    · subst e; simp [stepB]
    · rw [if_neg e]
      simp only [stepB, List.getElem_map, List.getElem_range]
      by_cases e2 : j < k
      · rw [if_pos e2, if_pos (by omega)]
      · rw [if_neg e2, if_neg (by omega)]
theorem stepB_all (q : Nat → ByteArray) : stepB q 5 = [q 0, q 1, q 2, q 3, q 4] := rfl
theorem strs_get5 (ss : List ByteArray) (j : Nat) (h : j < ss.length) : (strVs5 ss)[j]? = some (.string (ss.getD j ByteArray.empty)) := by simp [strVs5, List.getD, h]
theorem sd_join (zs : List Int) : Lib.join ((stepB (hzAt zs) 5).map (·.data.toList)) [32] = (sdT zs).data.toList := by
  rw [stepB_all]
  show _ = (sdTo zs 5).data.toList
  rw [sd_next _ 4 (by decide), sd_next _ 3 (by decide), sd_next _ 2 (by decide), sd_next _ 1 (by decide), sd_first]
  simp only [Joins.data_append]
  generalize hzAt zs 0 = h0
  generalize hzAt zs 1 = h1
  generalize hzAt zs 2 = h2
  generalize hzAt zs 3 = h3
  generalize hzAt zs 4 = h4
  simp [Lib.join]
theorem strsize (s : ByteArray) : s.data.toList.length = s.size := by simp

set_option maxRecDepth 20000 in
set_option maxHeartbeats 2000000 in
theorem implSndText_any (a b c e f : Int) (w : World) (hp : Hid (PowOk w)) :
    Calls Tryd.prog 12 #[.agg #[.int .i64 a, .int .i64 b, .int .i64 c, .int .i64 e, .int .i64 f]] w fun en w' => en = .returned (.string (sdV a b c e f)) ∧ Below w.heap.size w w' := by
  rcases Bool.eq_false_or_eq_true (sndB a b c e f) with h0 | h0
  · have H0 := Lib.hid h0
    have HV := Lib.hid (show sdV a b c e f = sdT [a, b, c, e, f] by unfold sdV; rw [if_pos h0])
    go_enter Tryd.func12, Tryd.ntmps12
    go_wp2_with fail
    refine (implValid_any a b c e f _).mono ?_
    rintro en w1 ⟨rfl, hb⟩
    have H5 := Lib.hid (five_below hb (five_alloc w a b c e f 27))
    have HB := Lib.hid (below_of ((Below.refl _ _).alloc (Nat.le_refl _) _) hb (by simp))
    clear hb
    rw [h0]
    have hA := (Below.refl w1.heap.size w1).alloc (Nat.le_refl _) (.cells #[.string ⟨#[]⟩, .string ⟨#[]⟩, .string ⟨#[]⟩, .string ⟨#[]⟩, .string ⟨#[]⟩] 57)
    obtain ⟨c0, c1, c2, c3, c4⟩ := five_below hA H5.out
    have hR0 : (w1.alloc (.cells #[.string ⟨#[]⟩, .string ⟨#[]⟩, .string ⟨#[]⟩, .string ⟨#[]⟩, .string ⟨#[]⟩] 57)).ownsRow w1.heap.size 57 1 (.slice (some ⟨w1.heap.size, 0, none⟩) 5 5) 5 (strVs5 (stepB (hzAt [a, b, c, e, f]) 0)) :=
      World.ownsRow_lit w1 (strVs5 (stepB (hzAt [a, b, c, e, f]) 0)).toArray 5 (Nat.le_refl _) (by decide) rfl
    have HR0 := Lib.hid hR0
    have HB2 := Lib.hid (below_of HB.out hA HB.out.size)
    have hg1 := five_lt H5.out
    clear hR0 H5
    go_wp2_with fail
    refine (partialsOf_any a b c e f _).mono ?_
    rintro en w2 ⟨rfl, hb⟩
    have HR2 := Lib.hid (row_keep5 hb HR0.out)
    have HA2 := Lib.hid (hA.trans (hb.mono hA.size))
    have HP2 := Lib.hid (pow_kept HA2.out (pow_kept HB.out hp.out))
    clear hb hA HR0 c0 c1 c2 c3 c4 HB2
    go_wp2
    go_loopw [11] (fun i wr => ∃ k : Nat, k ≤ 5 ∧ i = .int .i64 k ∧ wr.ownsRow w1.heap.size 57 1 (.slice (some ⟨w1.heap.size, 0, none⟩) 5 5) 5 (strVs5 (stepB (hzAt [a, b, c, e, f]) k)) ∧ Below w1.heap.size w1 wr) (fun i _ => 5 - (intOf i).toNat)
    case atStart => exact ⟨0, by omega, rfl, HR2.out, HA2.out⟩
    case round =>
      obtain ⟨k, hk, rfl, hown, hbw⟩ := hrel
      by_cases hlt : k < 5
      · have hx := fun w => index5 a b c e f k hlt w
        have bx := idx5 (a := a) (b := b) (c := c) (e := e) (f := f) (j := k) hlt (all5_iff.2 (snd_iff.1 H0.out).1)
        have HN := Lib.hid (stepB_next (hzAt [a, b, c, e, f]) k)
        have HT := Lib.hid (show hzAt [a, b, c, e, f] k = hzT ([a, b, c, e, f].getD k 0).toNat from rfl)
        have hf := hown.frozenAt k
        obtain ⟨old, hold⟩ : ∃ old, wr.cell? ⟨w1.heap.size, k, none⟩ = some (.string old) := ⟨_, by rw [hown.cellAt k (by omega)]; exact strs_get5 _ k (by rw [stepB_len]; exact hlt)⟩
        have HO := Lib.hid hown
        have HBW := Lib.hid hbw
        have HP := Lib.hid (pow_kept hbw (pow_kept HB.out hp.out))
        generalize [a, b, c, e, f].getD k 0 = x at *
        have hok := Lib.hid (show okF x = true from okF_iff.2 bx)
        have hk2 : (k : Int) < 5 := by omega
        have hk3 : (0 : Int) ≤ (k : Int) := by omega
        clear hown hbw
        go_wp2_with fail
        refine (implHertzText_any x _ HP).mono ?_
        rintro en w3 ⟨rfl, hb⟩
        rw [if_pos hok.out, ← HT.out]
        have hsz := hb.size
        have HO3 := Lib.hid (row_keep5 hb HO.out)
        have hf3 := HO3.out.frozenAt k
        have hl3 := (HO.out.lt _ rfl).2
        have hold3 : w3.cell? ⟨w1.heap.size, k, none⟩ = some (.string old) := by rw [below_cell hb _ _ hl3]; exact hold
        have HB3 := Lib.hid (HBW.out.trans (hb.mono HBW.out.size))
        clear hb hold hf
        generalize hzAt [a, b, c, e, f] k = h at *
        go_wp2
        go_roundw
        case rel =>
          refine ⟨k + 1, by omega, by go_num, ?_, HB3.out.setCell (Nat.le_refl _) _⟩
          rw [← HN.out]
          exact (HO3.out.stored k (.string h)).1
        case measure => simp [intOf]; omega
      · obtain rfl : k = 5 := by omega
        have HJ := Lib.hid (sd_join [a, b, c, e, f])
        have hl := (hown.lt _ rfl).2
        have HO := Lib.hid hown
        have HF := Lib.hid (below_of HB.out hbw HB.out.size)
        have hsz : (sdT [a, b, c, e, f]).size ≤ 200 := sd_size [a, b, c, e, f] (fun j hj => idx5 (a := a) (b := b) (c := c) (e := e) (f := f) (j := j) hj (all5_iff.2 (snd_iff.1 H0.out).1)) 5 (by omega)
        clear hown hbw
        go_wp2_with fail
        refine (Tryd.strings_Join w1.heap.size 0 5 (stepB (hzAt [a, b, c, e, f]) 5) ⟨#[32]⟩ _ (fun j x hj => ?_) hl (by rw [stepB_len]; decide) (by rw [stepB_len]; exact Nat.le_refl _) ?_).mono ?_
        · have hj5 : j < 5 := by
            have := (List.getElem?_eq_some_iff.1 hj).1
            rwa [stepB_len] at this
          rw [Nat.zero_add, HO.out.cellAt j (by omega), strs_get5 _ j (by rw [stepB_len]; exact hj5), List.getD_eq_getElem?_getD, hj]; rfl
        · rw [show (⟨#[32]⟩ : ByteArray).data.toList = [32] from rfl, HJ.out, strsize]; omega
        · rintro en w4 ⟨rfl, hb⟩
          have HB4 := Lib.hid (below_of HF.out hb HF.out.size)
          have HR := Lib.hid (show (⟨(Lib.join ((stepB (hzAt [a, b, c, e, f]) 5).map (·.data.toList)) (⟨#[32]⟩ : ByteArray).data.toList).toArray⟩ : ByteArray) = sdV a b c e f by
            rw [HV.out, show (⟨#[32]⟩ : ByteArray).data.toList = [32] from rfl, HJ.out])
          rw [HR.out]
          clear hb
          go_wp2
          go_ret
          exact ⟨rfl, HB4.out⟩
  · have HV := Lib.hid (show sdV a b c e f = ByteArray.empty by unfold sdV; rw [if_neg (by rw [h0]; decide)])
    go_enter Tryd.func12, Tryd.ntmps12
    go_wp2_with fail
    refine (implValid_any a b c e f _).mono ?_
    rintro en w1 ⟨rfl, hb⟩
    have HB := Lib.hid (below_of ((Below.refl _ _).alloc (Nat.le_refl _) _) hb (by simp))
    clear hb
    rw [h0]
    go_wp2
    go_ret
    exact ⟨ret_str HV.out.symm, HB.out⟩
end Go.Proofs.YtpllmehcndinkabDoor
