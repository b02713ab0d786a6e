/- ReadHertz and ReadCents, the reference model's walk: a number, a point, digits. -/
import Derived.Test.YtblkbjeongmgdaaGreatDoorNumSpec
import Derived.Test.YtblkbjeongmgdaaGreatDoorSplitSpecP
namespace Go.Proofs.YtblkbjeongmgdaaGreatDoor
open Go.ChangeShapes Go.WideShapes Go.ChangeAt Go.RowKit

/-- What stands before the point and behind it, put together. -/
def ptOf (d : Nat) : List (List UInt8) → Option Nat
  | [a, b] => if b.length = d then (match specNum a with | some n => if 0 ≤ n ∧ n ≤ 1000000 then Lib.decFrom n.toNat b else none | none => none) else none
  | _ => none
def ptNum (d : Nat) (l : List UInt8) : Option Nat := ptOf d (splitL 46 l)
def PtRet (r : Option Nat) (e : Ending) : Prop := e = .returned (.tuple #[.int .i64 ((r.getD 0 : Nat) : Int), .bool r.isSome])
theorem ptOf_len {d : Nat} {ls : List (List UInt8)} (h : ls.length ≠ 2) : ptOf d ls = none := by
  unfold ptOf
  split
  · simp at h
  · rfl
/-- After k digits the number that they spell, behind m. -/
def UptoN (m : Nat) (x : ByteArray) (k n : Nat) : Prop := Lib.decFrom m (x.data.toList.take k) = some n
theorem uptoN_next {m : Nat} {x : ByteArray} {k n : Nat} (h : UptoN m x k n) (hk : k < x.size) (hd : inB (x[k].toNat : Int) 48 57 = true) : UptoN m x (k + 1) (n * 10 + (x[k].toNat - 48)) := by
  have hb := inB_iff.1 hd
  unfold UptoN at *
  refine Lib.decFrom_take _ k m n x[k] _ h (list_get x k hk) ?_
  unfold Lib.digitVal; rw [if_pos (by omega)]
theorem uptoN_no {m : Nat} {x : ByteArray} {k : Nat} (hk : k < x.size) (hd : inB (x[k].toNat : Int) 48 57 = false) : Lib.decFrom m x.data.toList = none := by
  cases h : Lib.decFrom m x.data.toList with
  | none => rfl
  | some n =>
    obtain ⟨d, hv⟩ := Lib.digit_of_decFrom _ m n h k x[k] (list_get x k hk)
    have := Lib.digitVal_eq hv
    rw [inB_true (by omega)] at hd
    cases hd
theorem uptoN_lt {m : Nat} {x : ByteArray} {k n : Nat} (h : UptoN m x k n) (hm : m ≤ 1000000) (hk : k ≤ 3) : n ≤ 1000001000 := by
  have h1 := Lib.decFrom_lt _ m n h
  have h2 : (x.data.toList.take k).length ≤ 3 := by rw [List.length_take]; omega
  have h3 : 10 ^ (x.data.toList.take k).length ≤ 10 ^ 3 := Nat.pow_le_pow_right (by omega) h2
  have h4 : (m + 1) * 10 ^ (x.data.toList.take k).length ≤ 1000001 * 10 ^ 3 := Nat.mul_le_mul (by omega) h3
  omega
theorem uptoN_all {m : Nat} {x : ByteArray} {n : Nat} (h : UptoN m x x.size n) : Lib.decFrom m x.data.toList = some n := by
  unfold UptoN at h
  rwa [List.take_of_length_le (by rw [list_len]; omega)] at h

set_option maxRecDepth 20000 in
set_option maxHeartbeats 2000000 in
theorem l02Point_any (s : ByteArray) (d : Nat) (w : World) (hs : s.size ≤ 1048576) (hd : d ≤ 3) :
    Calls Tryz.prog 35 #[.string s, .int .i64 d] w fun e w' => PtRet (ptNum d s.data.toList) e ∧ Below w.heap.size w w' := by
  have hmaxs : s.size ≤ 9223372036854775807 := by omega
  go_enter Tryz.func35, Tryz.ntmps35
  go_wp2_with fail
  refine (split_any s 46 _ hs).mono ?_
  rintro e w1 ⟨v, ps, rfl, hps, ⟨g, cap, rfl, hg, hlt, hown⟩, hb1⟩
  have HB1 := Lib.hid hb1
  have HP := Lib.hid (show ptNum d s.data.toList = ptOf d (ps.map (·.data.toList)) by unfold ptNum; rw [hps])
  have HO := Lib.hid hown
  have hpl : ps.length ≤ s.size + 1 := by
    have := splitL_len 46 s.data.toList
    rw [← hps, List.length_map, list_len] at this
    exact this
  have HPS := Lib.hid hps
  clear hb1 hown hps
  by_cases h2 : ps.length = 2
  · obtain ⟨x, y, rfl⟩ : ∃ x y, ps = [x, y] := by
      match ps, h2 with
      | [x, y], _ => exact ⟨x, y, rfl⟩
    have hx : w1.cell? ⟨g, 0, none⟩ = some (.string x) := HO.out.cellAt 0 (by simp)
    have hy : w1.cell? ⟨g, 1, none⟩ = some (.string y) := HO.out.cellAt 1 (by simp)
    have hxs : x.size ≤ s.size := by
      have := splitL_part 46 s.data.toList x.data.toList (by rw [← HPS.out]; simp)
      rw [list_len, list_len] at this; exact this
    have hys : y.size ≤ s.size := by
      have := splitL_part 46 s.data.toList y.data.toList (by rw [← HPS.out]; simp)
      rw [list_len, list_len] at this; exact this
    clear h2 hpl
    have HPT := Lib.hid (show ptNum d s.data.toList = ptOf d [x.data.toList, y.data.toList] from HP.out)
    have hyl := list_len y
    have hlen2 : ([x, y] : List ByteArray).length = 2 := rfl
    rw [hlen2]
    clear hlen2
    by_cases hyd : y.size = d
    · have HYD := Lib.hid hyd
      have HN0 := Lib.hid (show ptOf d [x.data.toList, y.data.toList] = (match specNum x.data.toList with | some n => if 0 ≤ n ∧ n ≤ 1000000 then Lib.decFrom n.toNat y.data.toList else none | none => none) by
        unfold ptOf; simp only; rw [if_pos (by rw [hyl, hyd])])
      have hq : ((y.size : Int) != (d : Int)) = false := by simp [hyd]
      clear hyl
      go_wp2_with fail
      refine (specNumber_any x _ (by omega)).mono ?_
      rintro e w2 ⟨he, rfl⟩
      unfold NumRet at he
      subst he
      rcases hsp : specNum x.data.toList with _ | n
      · have h1 : numV x = 0 := by unfold numV; rw [hsp]; rfl
        have h2 : numOk x = false := by unfold numOk; rw [hsp]; rfl
        have HR := Lib.hid (show ptNum d s.data.toList = none by rw [HPT.out, HN0.out, hsp])
        rw [h1, h2]
        clear h1 h2 hsp
        go_wp2
        go_ret2
        exact ⟨by unfold PtRet; rw [HR.out]; rfl, HB1.out⟩
      · have h1 : numV x = n := by unfold numV; rw [hsp]; rfl
        have h2 : numOk x = true := by unfold numOk; rw [hsp]; rfl
        rw [h1, h2]
        clear h1 h2
        by_cases hr : 0 ≤ n ∧ n ≤ 1000000
        · obtain ⟨r0, r1⟩ := hr
          obtain ⟨m, rfl⟩ := Int.eq_ofNat_of_zero_le r0
          have HM := Lib.hid (show ptNum d s.data.toList = Lib.decFrom m y.data.toList by rw [HPT.out, HN0.out, hsp]; simp only; rw [if_pos ⟨r0, r1⟩]; rfl)
          have hm1 : m ≤ 1000000 := by omega
          clear hsp r0 r1
          go_wp2
          go_loop [7, 9] (fun v i => ∃ k N : Nat, k ≤ d ∧ i = .int .i64 k ∧ v = .int .i64 N ∧ Hid (UptoN m y k N)) (fun _ i => d - (intOf i).toNat)
          case atStart => exact ⟨0, m, by omega, rfl, rfl, by unfold Hid UptoN; simp [Lib.decFrom]⟩
          case round =>
            obtain ⟨k, N, hk, rfl, rfl, HU⟩ := hrel
            by_cases hlt : k < d
            · have hkn : k < y.size := by omega
              have hN := uptoN_lt HU.out hm1 (by omega)
              by_cases hdg : inB (y[k].toNat : Int) 48 57 = true
              · have HN := Lib.hid (uptoN_next HU.out hkn hdg)
                obtain ⟨c0, c1⟩ := inB_iff.1 hdg
                go_wp2
                go_round
                case rel => exact ⟨k + 1, N * 10 + (y[k].toNat - 48), by omega, by go_num, by congr 1; omega, HN.out⟩
                case measure => simp [intOf]; omega
              · have hd' : inB (y[k].toNat : Int) 48 57 = false := by simpa using hdg
                have HR := Lib.hid (show ptNum d s.data.toList = none by rw [HM.out, uptoN_no hkn hd'])
                have hout : ¬ (48 ≤ (y[k].toNat : Int) ∧ (y[k].toNat : Int) ≤ 57) := fun h => hdg (inB_iff.2 h)
                clear hdg hd'
                by_cases hlow : (y[k].toNat : Int) < 48
                · go_wp2
                  go_ret2
                  exact ⟨by unfold PtRet; rw [HR.out]; rfl, HB1.out⟩
                · have hhi : (57 : Int) < (y[k].toNat : Int) := by omega
                  go_wp2
                  go_ret2
                  exact ⟨by unfold PtRet; rw [HR.out]; rfl, HB1.out⟩
            · obtain rfl : k = d := by omega
              have hN := uptoN_lt HU.out hm1 hd
              have HR := Lib.hid (show ptNum k s.data.toList = some N by rw [HM.out]; exact uptoN_all (by rw [HYD.out]; exact HU.out))
              go_wp2
              go_ret2
              exact ⟨by unfold PtRet; rw [HR.out]; rfl, HB1.out⟩
        · have HR := Lib.hid (show ptNum d s.data.toList = none by rw [HPT.out, HN0.out, hsp]; simp only; rw [if_neg hr])
          clear hsp
          by_cases hneg : n < 0
          · clear hr
            go_wp2
            go_ret2
            exact ⟨by unfold PtRet; rw [HR.out]; rfl, HB1.out⟩
          · have hbig : (1000000 : Int) < n := by omega
            clear hr
            go_wp2
            go_ret2
            exact ⟨by unfold PtRet; rw [HR.out]; rfl, HB1.out⟩
    · have HR := Lib.hid (show ptNum d s.data.toList = none by rw [HPT.out]; unfold ptOf; simp only; rw [if_neg (by rw [hyl]; exact hyd)])
      have hq : ((y.size : Int) != (d : Int)) = true := by simp; omega
      clear hyl
      go_wp2
      go_ret2
      exact ⟨by unfold PtRet; rw [HR.out]; rfl, HB1.out⟩
  · have HR := Lib.hid (show ptNum d s.data.toList = none by rw [HP.out]; exact ptOf_len (by rw [List.length_map]; exact h2))
    have hq : ((ps.length : Int) != 2) = true := by simp; omega
    go_wp2
    go_ret2
    exact ⟨by unfold PtRet; rw [HR.out]; rfl, HB1.out⟩
end Go.Proofs.YtblkbjeongmgdaaGreatDoor
