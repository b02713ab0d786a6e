/- What a name is; the reference model's test. -/
import Derived.Test.YtpjopfhkgegahaaWithinMore
namespace Go.Proofs.Ytpjopfhkgegahaa
open Go.ChangeShapes Go.WideShapes Go.ChangeAt Go.RowKit

/-- The byte at a place (0 past the end). -/
def byteAt (s : ByteArray) (j : Nat) : Int := ((s.data.toList.getD j 0).toNat : Int)
def okByte (c : Int) : Bool := inB c 97 122 || inB c 48 57
def NameP (s : ByteArray) : Prop := 0 < s.size ∧ s.size ≤ 10 ∧ inB (byteAt s 0) 97 122 = true ∧ ∀ j, j < s.size → okByte (byteAt s j) = true
instance (s : ByteArray) : Decidable (NameP s) := by unfold NameP; infer_instance
def nameB (s : ByteArray) : Bool := decide (NameP s)

theorem byteAt_get (s : ByteArray) (k : Nat) (h : k < s.size) : byteAt s k = (s[k].toNat : Int) := by
  unfold byteAt
  rw [List.getD_eq_getElem?_getD, List.getElem?_eq_getElem (by simpa using h)]
  rfl
theorem name_yes {s : ByteArray} (h : NameP s) : nameB s = true := decide_eq_true h
theorem name_no {s : ByteArray} (h : ¬ NameP s) : nameB s = false := decide_eq_false h

theorem empty_iff (s : ByteArray) (h : 0 < s.size) : s.toList.isEmpty = false := by
  rw [ByteArray.toList_eq, List.isEmpty_eq_false_iff]
  intro e
  have : s.data.toList.length = 0 := by rw [e]; rfl
  rw [Array.length_toList] at this
  have e2 : s.size = s.data.size := rfl
  omega
theorem empty_eq (s : ByteArray) (h : s.size = 0) : s = ByteArray.empty := by
  have : s.data = #[] := by apply Array.eq_empty_of_size_eq_zero; exact h
  cases s; simp_all

set_option maxHeartbeats 800000 in
theorem specName_any (s : ByteArray) (w : World) (hs : s.size ≤ maxLen) :
    Calls Try.prog 52 #[.string s] w fun e w' => e = .returned (.bool (nameB s)) ∧ w = w' := by
  unfold maxLen at hs
  by_cases h0 : s.size = 0
  · have HF := Lib.hid (name_no (s := s) (fun h => by have := h.1; omega))
    have he := empty_eq s h0
    subst he
    go_enter Try.func52, Try.ntmps52
    go_wp2
    go_ret
    exact ⟨ret_bool HF.out.symm, rfl⟩
  · have hpos : 0 < s.size := by omega
    have hne := empty_iff s hpos
    by_cases h10 : s.size ≤ 10
    · have HB := Lib.hid (byteAt_get s 0 hpos)
      by_cases hf : inB (s[0].toNat : Int) 97 122 = true
      · go_enter Try.func52, Try.ntmps52
        go_wp2_with (first | (go_at_call 66; refine (small_any _ _).mono ?_; rintro e w' ⟨rfl, rfl⟩))
        go_loop [3] (fun i => ∃ k : Nat, k ≤ s.size ∧ i = .int .i64 k ∧ ∀ j, j < k → okByte (byteAt s j) = true) (fun i => s.size - (intOf i).toNat)
        case atStart => exact ⟨0, by omega, rfl, fun j hj => by omega⟩
        case round =>
          obtain ⟨k, hk, rfl, hall⟩ := hrel
          have HA := Lib.hid hall
          have HF0 := Lib.hid hf
          clear hall hf
          by_cases hlt : k < s.size
          · have HK := Lib.hid (byteAt_get s k hlt)
            by_cases c1 : inB (s[k].toNat : Int) 97 122 = true
            · have HO := Lib.hid (show okByte (byteAt s k) = true by rw [HK.out]; unfold okByte; rw [c1]; rfl)
              go_wp2_with (first | (go_at_call 66; refine (small_any _ _).mono ?_; rintro e w' ⟨rfl, rfl⟩) | (go_at_call 67; refine (digit_any _ _).mono ?_; rintro e w' ⟨rfl, rfl⟩))
              go_round
              case rel => exact ⟨k + 1, by omega, by go_num, fun j hj => by
                by_cases e : j = k
                · subst e; exact HO.out
                · exact HA.out j (by omega)⟩
              case measure => simp [intOf]; omega
            · have c1' : inB (s[k].toNat : Int) 97 122 = false := by simpa using c1
              clear c1
              by_cases c2 : inB (s[k].toNat : Int) 48 57 = true
              · have HO := Lib.hid (show okByte (byteAt s k) = true by rw [HK.out]; unfold okByte; rw [c1', c2]; rfl)
                go_wp2_with (first | (go_at_call 66; refine (small_any _ _).mono ?_; rintro e w' ⟨rfl, rfl⟩) | (go_at_call 67; refine (digit_any _ _).mono ?_; rintro e w' ⟨rfl, rfl⟩))
                go_round
                case rel => exact ⟨k + 1, by omega, by go_num, fun j hj => by
                  by_cases e : j = k
                  · subst e; exact HO.out
                  · exact HA.out j (by omega)⟩
                case measure => simp [intOf]; omega
              · have c2' : inB (s[k].toNat : Int) 48 57 = false := by simpa using c2
                clear c2
                have HN := Lib.hid (name_no (s := s) (fun h => by
                  have g := h.2.2.2 k hlt
                  rw [HK.out] at g; unfold okByte at g; rw [c1', c2'] at g; cases g))
                go_wp2_with (first | (go_at_call 66; refine (small_any _ _).mono ?_; rintro e w' ⟨rfl, rfl⟩) | (go_at_call 67; refine (digit_any _ _).mono ?_; rintro e w' ⟨rfl, rfl⟩))
                go_ret
                exact ⟨ret_bool HN.out.symm, rfl⟩
          · have HN := Lib.hid (name_yes (s := s) ⟨hpos, h10, by rw [HB.out]; exact HF0.out, fun j hj => HA.out j (by omega)⟩)
            go_wp2
            go_ret
            exact ⟨ret_bool HN.out.symm, rfl⟩
      · have HN := Lib.hid (name_no (s := s) (fun h => hf (by rw [← HB.out]; exact h.2.2.1)))
        have hf' : inB (s[0].toNat : Int) 97 122 = false := by simpa using hf
        clear hf
        go_enter Try.func52, Try.ntmps52
        go_wp2_with (first | (go_at_call 66; refine (small_any _ _).mono ?_; rintro e w' ⟨rfl, rfl⟩))
        go_ret
        exact ⟨ret_bool HN.out.symm, rfl⟩
    · have HF := Lib.hid (name_no (s := s) (fun h => by have := h.2.1; omega))
      go_enter Try.func52, Try.ntmps52
      go_wp2
      go_ret
      exact ⟨ret_bool HF.out.symm, rfl⟩
end Go.Proofs.Ytpjopfhkgegahaa
