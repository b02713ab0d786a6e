/- IsName: the program's test answers what a name is. -/
import Derived.Test.YtjicnfgpbbganabDoorNameSpecE
namespace Go.Proofs.YtjicnfgpbbganabDoor
open Go.ChangeShapes Go.WideShapes Go.ChangeAt Go.RowKit

set_option maxHeartbeats 1000000 in
theorem implIsName_any (s : ByteArray) (w : World) (hs : s.size ≤ maxLen) :
    Calls Tryd.prog 23 #[.string s] w fun e w' => e = .returned (.bool (nameB s)) ∧ Below w.heap.size w w' := by
  unfold maxLen at hs
  by_cases hlen : inB (s.size : Int) 1 10 = true
  · obtain ⟨l1, l2⟩ := inB_iff.1 hlen
    have hpos : 0 < s.size := by omega
    have HB := Lib.hid (byteAt_get s 0 hpos)
    by_cases hf : inB (s[0].toNat : Int) 97 122 = true
    · go_enter Tryd.func23, Tryd.ntmps23
      go_wp2_with fail
      refine (within_int _ _ [(s.size : Int)] _ 0 1 1 _ rfl (by omega) (cell_int _ _ _ _ rfl)).mono ?_
      rintro e w' ⟨rfl, rfl⟩
      rw [all_one]
      go_wp2_with fail
      refine (isLetter_any _ _).mono ?_
      rintro e w1 ⟨rfl, hb1⟩
      have HW := Lib.hid (below_of ((Below.refl w.heap.size w).alloc (Nat.le_refl _) _) hb1 (by simp))
      clear hb1
      go_wp2_with fail
      go_loopw [17] (fun i wr => ∃ k : Nat, k ≤ s.size ∧ i = .int .i64 k ∧ (∀ j, j < k → okByte (byteAt s j) = true) ∧ Below w.heap.size w wr) (fun i _ => s.size - (intOf i).toNat)
      case atStart => exact ⟨0, by omega, rfl, fun j hj => by omega, HW.out⟩
      case round =>
        obtain ⟨k, hk, rfl, hall, hbw⟩ := hrel
        have HA := Lib.hid hall
        have HF0 := Lib.hid hf
        have HBW := Lib.hid hbw
        clear hall hf hlen hbw
        by_cases hlt : k < s.size
        · have HK := Lib.hid (byteAt_get s k hlt)
          by_cases c1 : inB (s[k].toNat : Int) 97 122 = true
          · have HO := Lib.hid (show okByte (byteAt s k) = true by rw [HK.out]; unfold okByte; rw [c1]; rfl)
            go_wp2_with fail
            refine (isLetter_any _ _).mono ?_
            rintro e w2 ⟨rfl, hb2⟩
            have HB2 := Lib.hid (below_of HBW.out hb2 HBW.out.size)
            clear hb2
            go_wp2
            go_roundw
            case rel => exact ⟨k + 1, by omega, by go_num, fun j hj => by
              by_cases e : j = k
              · subst e; exact HO.out
              · exact HA.out j (by omega), HB2.out⟩
            case measure => simp [intOf]; omega
          · have c1' : inB (s[k].toNat : Int) 97 122 = false := by simpa using c1
            clear c1
            by_cases c2 : inB (s[k].toNat : Int) 48 57 = true
            · have HO := Lib.hid (show okByte (byteAt s k) = true by rw [HK.out]; unfold okByte; rw [c1', c2]; rfl)
              go_wp2_with fail
              refine (isLetter_any _ _).mono ?_
              rintro e w2 ⟨rfl, hb2⟩
              have HB2 := Lib.hid (below_of HBW.out hb2 HBW.out.size)
              clear hb2
              go_wp2_with fail
              refine (isDigit_any _ _).mono ?_
              rintro e w3 ⟨rfl, hb3⟩
              have HB3 := Lib.hid (below_of HB2.out hb3 HB2.out.size)
              clear hb3
              go_wp2
              go_roundw
              case rel => exact ⟨k + 1, by omega, by go_num, fun j hj => by
                by_cases e : j = k
                · subst e; exact HO.out
                · exact HA.out j (by omega), HB3.out⟩
              case measure => simp [intOf]; omega
            · have c2' : inB (s[k].toNat : Int) 48 57 = false := by simpa using c2
              clear c2
              have HN := Lib.hid (name_no (s := s) (fun h => by
                have g := h.2.2.2 k hlt
                rw [HK.out] at g; unfold okByte at g; rw [c1', c2'] at g; cases g))
              go_wp2_with fail
              refine (isLetter_any _ _).mono ?_
              rintro e w2 ⟨rfl, hb2⟩
              have HB2 := Lib.hid (below_of HBW.out hb2 HBW.out.size)
              clear hb2
              go_wp2_with fail
              refine (isDigit_any _ _).mono ?_
              rintro e w3 ⟨rfl, hb3⟩
              have HB3 := Lib.hid (below_of HB2.out hb3 HB2.out.size)
              clear hb3
              go_wp2
              go_ret
              exact ⟨ret_bool HN.out.symm, HB3.out⟩
        · have HN := Lib.hid (name_yes (s := s) ⟨hpos, by omega, by rw [HB.out]; exact HF0.out, fun j hj => HA.out j (by omega)⟩)
          go_wp2
          go_ret
          exact ⟨ret_bool HN.out.symm, HBW.out⟩
    · have HN := Lib.hid (name_no (s := s) (fun h => hf (by rw [← HB.out]; exact h.2.2.1)))
      have hf' : inB (s[0].toNat : Int) 97 122 = false := by simpa using hf
      clear hf
      go_enter Tryd.func23, Tryd.ntmps23
      go_wp2_with fail
      refine (within_int _ _ [(s.size : Int)] _ 0 1 1 _ rfl (by omega) (cell_int _ _ _ _ rfl)).mono ?_
      rintro e w' ⟨rfl, rfl⟩
      rw [all_one]
      go_wp2_with fail
      refine (isLetter_any _ _).mono ?_
      rintro e w1 ⟨rfl, hb1⟩
      have HW := Lib.hid (below_of ((Below.refl w.heap.size w).alloc (Nat.le_refl _) _) hb1 (by simp))
      clear hb1
      go_wp2
      go_ret
      exact ⟨ret_bool HN.out.symm, HW.out⟩
  · have HN := Lib.hid (name_no (s := s) (fun h => hlen (inB_iff.2 (by have := h.1; have := h.2.1; omega))))
    have hl' : inB (s.size : Int) 1 10 = false := by simpa using hlen
    clear hlen
    go_enter Tryd.func23, Tryd.ntmps23
    go_wp2_with fail
    refine (within_int _ _ [(s.size : Int)] _ 0 1 1 _ rfl (by omega) (cell_int _ _ _ _ rfl)).mono ?_
    rintro e w' ⟨rfl, rfl⟩
    rw [all_one]
    go_wp2
    go_ret
    exact ⟨ret_bool HN.out.symm, (Below.refl _ _).alloc (Nat.le_refl _) _⟩
end Go.Proofs.YtjicnfgpbbganabDoor
