/- The reference model reads a decimal number: the walks; and the program's reading. -/
import Derived.Test.YtjicnfgpbbganabDoorDecimal
import Derived.Test.YtjicnfgpbbganabDoorNumMath
import Derived.Test.YtjicnfgpbbganabDoorWithin
namespace Go.Proofs.YtjicnfgpbbganabDoor
open Go.ChangeShapes Go.WideShapes Go.ChangeAt Go.RowKit

theorem specDigit_any (c : Int) (w : World) :
    Calls Tryd.prog 27 #[.int .u8 c] w fun e w' => e = .returned (.bool (inB c 48 57)) ∧ w = w' := by
  by_cases h1 : 48 ≤ c
  · by_cases h2 : c ≤ 57
    · have H := Lib.hid (inB_true ⟨h1, h2⟩)
      go_enter Tryd.func27, Tryd.ntmps27
      go_wp2
      go_ret
      exact ⟨ret_bool H.out.symm, rfl⟩
    · have H := Lib.hid (inB_false (n := c) (lo := 48) (hi := 57) (fun h => h2 h.2))
      go_enter Tryd.func27, Tryd.ntmps27
      go_wp2
      go_ret
      exact ⟨ret_bool H.out.symm, rfl⟩
  · have H := Lib.hid (inB_false (n := c) (lo := 48) (hi := 57) (fun h => h1 h.1))
    go_enter Tryd.func27, Tryd.ntmps27
    go_wp2
    go_ret
    exact ⟨ret_bool H.out.symm, rfl⟩

/-- What is answered for a text: the number, and whether there is one. -/
def numV (s : ByteArray) : Int := (specNum s.data.toList).getD 0
def numOk (s : ByteArray) : Bool := (specNum s.data.toList).isSome
def NumRet (s : ByteArray) (e : Ending) : Prop := e = .returned (.tuple #[.int .i64 (numV s), .bool (numOk s)])
theorem num_none {s : ByteArray} (h : specNum s.data.toList = none) : NumRet s (.returned (.tuple #[.int .i64 0, .bool false])) := by unfold NumRet numV numOk; rw [h]; rfl
theorem num_some {s : ByteArray} {v : Int} (h : specNum s.data.toList = some v) : NumRet s (.returned (.tuple #[.int .i64 v, .bool true])) := by unfold NumRet numV numOk; rw [h]; rfl

theorem u8_is {c : UInt8} (k : Nat) (h : c.toNat = k) : c = UInt8.ofNat k := by subst h; exact (UInt8.ofNat_toNat).symm
theorem list_len (s : ByteArray) : s.data.toList.length = s.size := by simp
theorem list_get (s : ByteArray) (k : Nat) (h : k < s.size) : s.data.toList[k]? = some s[k] := by
  rw [List.getElem?_eq_getElem (by simpa using h)]; rfl
theorem list_cons (s : ByteArray) (h : 0 < s.size) : s.data.toList = s[0] :: s.data.toList.drop 1 := by
  have h2 : 0 < s.data.toList.length := by rw [list_len]; exact h
  have := List.drop_eq_getElem_cons h2
  rw [List.drop_zero] at this
  exact this
theorem spec_minus {s : ByteArray} (h : 0 < s.size) (h0 : s[0] = 45) : specNum s.data.toList = (magOf true (s.data.toList.drop 1)).map fun (m : Nat) => -(m : Int) := by
  rw [list_cons s h, h0]; rfl
theorem spec_plus {s : ByteArray} (h : 0 < s.size) (h0 : s[0] ≠ 45) : specNum s.data.toList = (magOf (decide (1 < s.size)) s.data.toList).map fun (m : Nat) => (m : Int) := by
  have hl := list_len s
  rw [← hl]
  generalize hd : s.data.toList = l at *
  have hc := list_cons s h
  rw [hd] at hc
  unfold specNum
  split
  · rename_i d
    simp only [List.cons.injEq] at hc
    exact absurd hc.1.symm h0
  · rfl
theorem spec_empty {s : ByteArray} (h : s.size = 0) : specNum s.data.toList = none := by
  have : s.data.toList = [] := List.eq_nil_of_length_eq_zero (by rw [list_len]; exact h)
  rw [this]; rfl
/-- After k digits the number that they spell. -/
def Upto (s : ByteArray) (a k n : Nat) : Prop := Lib.decFrom 0 ((s.data.toList.drop a).take (k - a)) = some n
theorem upto_next {s : ByteArray} {a k n : Nat} (h : Upto s a k n) (hak : a ≤ k) (hk : k < s.size) (hd : inB (s[k].toNat : Int) 48 57 = true) : Upto s a (k + 1) (n * 10 + (s[k].toNat - 48)) := by
  have hb := inB_iff.1 hd
  unfold Upto at *
  rw [show k + 1 - a = k - a + 1 from by omega]
  refine Lib.decFrom_take _ (k - a) 0 n s[k] _ h ?_ ?_
  · rw [List.getElem?_drop, show a + (k - a) = k from by omega]; exact list_get s k hk
  · unfold Lib.digitVal; rw [if_pos (by omega)]
theorem upto_no {s : ByteArray} {a k : Nat} (hak : a ≤ k) (hk : k < s.size) (hd : inB (s[k].toNat : Int) 48 57 = false) : Lib.decFrom 0 (s.data.toList.drop a) = none := by
  cases h : Lib.decFrom 0 (s.data.toList.drop a) with
  | none => rfl
  | some n =>
    obtain ⟨d, hv⟩ := Lib.digit_of_decFrom _ 0 n h (k - a) s[k] (by rw [List.getElem?_drop, show a + (k - a) = k from by omega]; exact list_get s k hk)
    have := Lib.digitVal_eq hv
    rw [inB_true (by omega)] at hd
    cases hd
theorem upto_lt {s : ByteArray} {a k n : Nat} (h : Upto s a k n) (hk : k - a ≤ 17) : n ≤ 99999999999999999 := by
  have h1 := Lib.decFrom_lt _ 0 n h
  have h2 : ((s.data.toList.drop a).take (k - a)).length ≤ 17 := by rw [List.length_take]; omega
  have h3 : 10 ^ ((s.data.toList.drop a).take (k - a)).length ≤ 10 ^ 17 := Nat.pow_le_pow_right (by omega) h2
  omega
theorem upto_lt18 {s : ByteArray} {a k n : Nat} (h : Upto s a k n) (hk : k - a ≤ 18) : n ≤ 999999999999999999 := by
  have h1 := Lib.decFrom_lt _ 0 n h
  have h2 : ((s.data.toList.drop a).take (k - a)).length ≤ 18 := by rw [List.length_take]; omega
  have h3 : 10 ^ ((s.data.toList.drop a).take (k - a)).length ≤ 10 ^ 18 := Nat.pow_le_pow_right (by omega) h2
  omega
theorem upto_all {s : ByteArray} {a n : Nat} (h : Upto s a s.size n) : Lib.decFrom 0 (s.data.toList.drop a) = some n := by
  unfold Upto at h
  rwa [List.take_of_length_le (by rw [List.length_drop, list_len]; omega)] at h
theorem ret_pair {a b : Int} {x y : Bool} (h : a = b) (h2 : x = y) : Ending.returned (.tuple #[.int .i64 a, .bool x]) = .returned (.tuple #[.int .i64 b, .bool y]) := by rw [h, h2]

set_option maxHeartbeats 1000000 in
theorem specNum_minus (s : ByteArray) (w : World) (hs : s.size ≤ 9223372036854775807) (hpos : 0 < s.size) (h0 : s[0] = 45) :
    Calls Tryd.prog 17 #[.string s] w fun e w' => NumRet s e ∧ w = w' := by
  have HS := Lib.hid (spec_minus hpos h0)
  have hm : (((s[0].toNat : Nat) : Int) == 45) = true := by rw [h0]; rfl
  have hl : (s.data.toList.drop 1).length = s.size - 1 := by rw [List.length_drop, list_len]
  clear h0
  by_cases c1 : s.size = 1
  · have HR := Lib.hid (num_none (s := s) (by rw [HS.out, show magOf true (s.data.toList.drop 1) = none from by unfold magOf; rw [if_pos (.inl (List.eq_nil_of_length_eq_zero (by omega)))]]; rfl))
    have hq : ((s.size : Int) == 1) = true := beq_iff_eq.2 (by omega)
    clear hl c1
    go_enter Tryd.func17, Tryd.ntmps17
    go_wp2
    go_ret2
    exact ⟨HR.out, rfl⟩
  · have hq : ((s.size : Int) == 1) = false := beq_eq_false_iff_ne.2 (by omega)
    by_cases c2 : 18 < s.size - 1
    · have HR := Lib.hid (num_none (s := s) (by rw [HS.out, show magOf true (s.data.toList.drop 1) = none from by unfold magOf; rw [if_pos (.inr (.inl (by omega)))]]; rfl))
      clear hl
      go_enter Tryd.func17, Tryd.ntmps17
      go_wp2
      go_ret2
      exact ⟨HR.out, rfl⟩
    · have h1 : 1 < s.size := by omega
      have hh : (s.data.toList.drop 1).head? = some s[1] := by rw [List.head?_drop]; exact list_get s 1 h1
      by_cases c3 : s[1] = 48
      · have HR := Lib.hid (num_none (s := s) (by rw [HS.out, show magOf true (s.data.toList.drop 1) = none from by unfold magOf; rw [if_pos (.inr (.inr ⟨by rw [hh, c3], rfl⟩))]]; rfl))
        have hz : (((s[1].toNat : Nat) : Int) == 48) = true := by rw [c3]; rfl
        clear hl hh c3
        go_enter Tryd.func17, Tryd.ntmps17
        go_wp2
        go_ret2
        exact ⟨HR.out, rfl⟩
      · have hz : (((s[1].toNat : Nat) : Int) == 48) = false := beq_eq_false_iff_ne.2 (fun e => c3 (u8_is 48 (by omega)))
        have hmag : magOf true (s.data.toList.drop 1) = Lib.decFrom 0 (s.data.toList.drop 1) := by
          unfold magOf
          rw [if_neg]
          rintro (c | c | ⟨c, _⟩)
          · rw [c] at hl; simp at hl; omega
          · omega
          · rw [hh] at c; exact c3 (by simpa using c)
        have HM0 := Lib.hid (fun (h : Lib.decFrom 0 (s.data.toList.drop 1) = none) => hmag.trans h)
        have HM1 := Lib.hid (fun (n : Nat) (h : Lib.decFrom 0 (s.data.toList.drop 1) = some n) => hmag.trans h)
        clear hl hh c3 hmag
        go_enter Tryd.func17, Tryd.ntmps17
        go_wp2

        go_loop [5, 6] (fun v i => ∃ k n : Nat, 1 ≤ k ∧ k ≤ s.size ∧ i = .int .i64 k ∧ v = .int .i64 n ∧ Hid (Upto s 1 k n)) (fun _ i => s.size - (intOf i).toNat)
        case atStart => exact ⟨1, 0, by omega, by omega, rfl, rfl, by unfold Hid Upto; simp [Lib.decFrom]⟩
        case round =>
          obtain ⟨k, n, hak, hk, rfl, rfl, HU⟩ := hrel
          by_cases hlt : k < s.size
          · have hn := upto_lt HU.out (by omega)
            by_cases hd : inB (s[k].toNat : Int) 48 57 = true
            · have HN := Lib.hid (upto_next HU.out hak hlt hd)
              obtain ⟨c0, c1⟩ := inB_iff.1 hd
              go_wp2_with (go_at_call 27; refine (specDigit_any _ _).mono ?_; rintro e w' ⟨rfl, rfl⟩)
              go_round
              case rel => exact ⟨k + 1, n * 10 + (s[k].toNat - 48), by omega, by omega, by go_num, by congr 1; omega, HN.out⟩
              case measure => simp [intOf]; omega
            · have hd' : inB (s[k].toNat : Int) 48 57 = false := by simpa using hd
              have HR := Lib.hid (num_none (s := s) (by rw [HS.out, HM0.out (upto_no hak hlt hd')]; rfl))
              clear hd
              go_wp2_with (go_at_call 27; refine (specDigit_any _ _).mono ?_; rintro e w' ⟨rfl, rfl⟩)
              go_ret2
              exact ⟨HR.out, rfl⟩
          · obtain rfl : k = s.size := by omega
            have hn := upto_lt18 HU.out (by omega)
            have HR := Lib.hid (num_some (s := s) (v := -(n : Int)) (by rw [HS.out, HM1.out n (upto_all HU.out)]; rfl))
            go_wp2
            go_ret2
            exact ⟨HR.out, rfl⟩

set_option maxHeartbeats 1000000 in
theorem specNum_plus (s : ByteArray) (w : World) (hs : s.size ≤ 9223372036854775807) (hpos : 0 < s.size) (h0 : s[0] ≠ 45) :
    Calls Tryd.prog 17 #[.string s] w fun e w' => NumRet s e ∧ w = w' := by
  have HS := Lib.hid (spec_plus hpos h0)
  have hm : (((s[0].toNat : Nat) : Int) == 45) = false := beq_eq_false_iff_ne.2 (fun e => h0 (u8_is 45 (by omega)))
  have hl := list_len s
  have hq : ((s.size : Int) == 0) = false := beq_eq_false_iff_ne.2 (by omega)
  clear h0
  by_cases c2 : 18 < s.size
  · have HR := Lib.hid (num_none (s := s) (by rw [HS.out, show magOf (decide (1 < s.size)) s.data.toList = none from by unfold magOf; rw [if_pos (.inr (.inl (by omega)))]]; rfl))
    clear hl
    go_enter Tryd.func17, Tryd.ntmps17
    go_wp2
    go_ret2
    exact ⟨HR.out, rfl⟩
  · have hh : s.data.toList.head? = some s[0] := by rw [List.head?_eq_getElem?]; exact list_get s 0 hpos
    by_cases c3 : s[0] = 48 ∧ 1 < s.size
    · obtain ⟨c3, c4⟩ := c3
      have HR := Lib.hid (num_none (s := s) (by rw [HS.out, show magOf (decide (1 < s.size)) s.data.toList = none from by unfold magOf; rw [if_pos (.inr (.inr ⟨by rw [hh, c3], by simpa using c4⟩))]]; rfl))
      have hz : (((s[0].toNat : Nat) : Int) == 48) = true := by rw [c3]; rfl
      clear hl hh c3
      go_enter Tryd.func17, Tryd.ntmps17
      go_wp2
      go_ret2
      exact ⟨HR.out, rfl⟩
    · have hmag : magOf (decide (1 < s.size)) s.data.toList = Lib.decFrom 0 (s.data.toList.drop 0) := by
        unfold magOf
        rw [if_neg, List.drop_zero]
        rintro (c | c | ⟨c, c4⟩)
        · rw [c] at hl; simp at hl; omega
        · omega
        · rw [hh] at c; exact c3 ⟨by simpa using c, by simpa using c4⟩
      have HM0 := Lib.hid (fun (h : Lib.decFrom 0 (s.data.toList.drop 0) = none) => hmag.trans h)
      have HM1 := Lib.hid (fun (n : Nat) (h : Lib.decFrom 0 (s.data.toList.drop 0) = some n) => hmag.trans h)
      clear hl hh hmag
      by_cases c5 : s[0] = 48
      · have c6 : ¬ 1 < s.size := fun h => c3 ⟨c5, h⟩
        have hz : (((s[0].toNat : Nat) : Int) == 48) = true := by rw [c5]; rfl
        clear c3 c5
        go_enter Tryd.func17, Tryd.ntmps17
        go_wp2

        go_loop [5, 6] (fun v i => ∃ k n : Nat, 0 ≤ k ∧ k ≤ s.size ∧ i = .int .i64 k ∧ v = .int .i64 n ∧ Hid (Upto s 0 k n)) (fun _ i => s.size - (intOf i).toNat)
        case atStart => exact ⟨0, 0, by omega, by omega, rfl, rfl, by unfold Hid Upto; simp [Lib.decFrom]⟩
        case round =>
          obtain ⟨k, n, hak, hk, rfl, rfl, HU⟩ := hrel
          by_cases hlt : k < s.size
          · have hn := upto_lt HU.out (by omega)
            by_cases hd : inB (s[k].toNat : Int) 48 57 = true
            · have HN := Lib.hid (upto_next HU.out hak hlt hd)
              obtain ⟨c0, c1⟩ := inB_iff.1 hd
              go_wp2_with (go_at_call 27; refine (specDigit_any _ _).mono ?_; rintro e w' ⟨rfl, rfl⟩)
              go_round
              case rel => exact ⟨k + 1, n * 10 + (s[k].toNat - 48), by omega, by omega, by go_num, by congr 1; omega, HN.out⟩
              case measure => simp [intOf]; omega
            · have hd' : inB (s[k].toNat : Int) 48 57 = false := by simpa using hd
              have HR := Lib.hid (num_none (s := s) (by rw [HS.out, HM0.out (upto_no hak hlt hd')]; rfl))
              clear hd
              go_wp2_with (go_at_call 27; refine (specDigit_any _ _).mono ?_; rintro e w' ⟨rfl, rfl⟩)
              go_ret2
              exact ⟨HR.out, rfl⟩
          · obtain rfl : k = s.size := by omega
            have hn := upto_lt18 HU.out (by omega)
            have HR := Lib.hid (num_some (s := s) (v := (n : Int)) (by rw [HS.out, HM1.out n (upto_all HU.out)]; rfl))
            go_wp2
            go_ret2
            exact ⟨HR.out, rfl⟩

      · have hz : (((s[0].toNat : Nat) : Int) == 48) = false := beq_eq_false_iff_ne.2 (fun e => c5 (u8_is 48 (by omega)))
        clear c3 c5
        go_enter Tryd.func17, Tryd.ntmps17
        go_wp2

        go_loop [5, 6] (fun v i => ∃ k n : Nat, 0 ≤ k ∧ k ≤ s.size ∧ i = .int .i64 k ∧ v = .int .i64 n ∧ Hid (Upto s 0 k n)) (fun _ i => s.size - (intOf i).toNat)
        case atStart => exact ⟨0, 0, by omega, by omega, rfl, rfl, by unfold Hid Upto; simp [Lib.decFrom]⟩
        case round =>
          obtain ⟨k, n, hak, hk, rfl, rfl, HU⟩ := hrel
          by_cases hlt : k < s.size
          · have hn := upto_lt HU.out (by omega)
            by_cases hd : inB (s[k].toNat : Int) 48 57 = true
            · have HN := Lib.hid (upto_next HU.out hak hlt hd)
              obtain ⟨c0, c1⟩ := inB_iff.1 hd
              go_wp2_with (go_at_call 27; refine (specDigit_any _ _).mono ?_; rintro e w' ⟨rfl, rfl⟩)
              go_round
              case rel => exact ⟨k + 1, n * 10 + (s[k].toNat - 48), by omega, by omega, by go_num, by congr 1; omega, HN.out⟩
              case measure => simp [intOf]; omega
            · have hd' : inB (s[k].toNat : Int) 48 57 = false := by simpa using hd
              have HR := Lib.hid (num_none (s := s) (by rw [HS.out, HM0.out (upto_no hak hlt hd')]; rfl))
              clear hd
              go_wp2_with (go_at_call 27; refine (specDigit_any _ _).mono ?_; rintro e w' ⟨rfl, rfl⟩)
              go_ret2
              exact ⟨HR.out, rfl⟩
          · obtain rfl : k = s.size := by omega
            have hn := upto_lt18 HU.out (by omega)
            have HR := Lib.hid (num_some (s := s) (v := (n : Int)) (by rw [HS.out, HM1.out n (upto_all HU.out)]; rfl))
            go_wp2
            go_ret2
            exact ⟨HR.out, rfl⟩

theorem specNumber_any (s : ByteArray) (w : World) (hs : s.size ≤ 9223372036854775807) :
    Calls Tryd.prog 17 #[.string s] w fun e w' => NumRet s e ∧ w = w' := by
  by_cases hpos : 0 < s.size
  · by_cases h0 : s[0] = 45
    · exact specNum_minus s w hs hpos h0
    · exact specNum_plus s w hs hpos h0
  · have HR := Lib.hid (num_none (s := s) (spec_empty (by omega)))
    have hq : ((s.size : Int) == 0) = true := beq_iff_eq.2 (by omega)
    go_enter Tryd.func17, Tryd.ntmps17
    go_wp2
    go_ret2
    exact ⟨HR.out, rfl⟩
end Go.Proofs.YtjicnfgpbbganabDoor
