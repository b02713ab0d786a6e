/- NoteNamed: the first note with a name, the program's and the reference model's. -/
import Derived.Test.YtmkopmdeelfmgabDoorNoteText
import Derived.Lib.Strings
namespace Go.Proofs.YtmkopmdeelfmgabDoor
open Go.ChangeShapes Go.WideShapes Go.ChangeAt Go.RowKit

def ntFind (s : ByteArray) : Option Nat := (List.range 128).find? fun k => decide ((ntT k).data.toList = s.data.toList)
theorem find_some {s : ByteArray} {k : Nat} (hk : k ≤ 127) (hno : ∀ j, j < k → (ntT j).data.toList ≠ s.data.toList) (h : (ntT k).data.toList = s.data.toList) : ntFind s = some k := by
  unfold ntFind
  rw [List.find?_range_eq_some]
  refine ⟨by simp [h], by simp; omega, fun j hj => ?_⟩
  have := hno j hj
  simp [this]
theorem find_none {s : ByteArray} (hno : ∀ j, j < 128 → (ntT j).data.toList ≠ s.data.toList) : ntFind s = none := by
  unfold ntFind
  rw [List.find?_eq_none]
  intro j hj
  have := hno j (by simpa using hj)
  simp [this]
def ntVal (s : ByteArray) : Int := match ntFind s with | some k => k | none => 0
def ntHas (s : ByteArray) : Bool := (ntFind s).isSome
theorem ret_ib {a b : Int} {c d : Bool} (h : a = b) (k : c = d) : Ending.returned (.tuple #[.int .i64 a, .bool c]) = .returned (.tuple #[.int .i64 b, .bool d]) := by rw [h, k]
theorem eq_true_of {a b : ByteArray} (h : a.data.toList = b.data.toList) : (a.toList == b.toList) = true := by rw [Lib.toList_data, Lib.toList_data, h]; simp
theorem eq_false_of {a b : ByteArray} (h : a.data.toList ≠ b.data.toList) : (a.toList == b.toList) = false := by rw [Lib.toList_data, Lib.toList_data]; simpa using h


set_option maxRecDepth 20000 in
set_option maxHeartbeats 1000000 in
theorem implNoteNamed_any (s : ByteArray) (w : World) (hp : Hid (PowOk w)) (ht : Hid (NoteOk w)) :
    Calls Tryd.prog 19 #[.string s] w fun e w' => e = .returned (.tuple #[.int .i64 (ntVal s), .bool (ntHas s)]) ∧ Below w.heap.size w w' := by
  go_enter Tryd.func19, Tryd.ntmps19
  go_wp2
  go_loopw [5] (fun i wr => ∃ k : Nat, k ≤ 128 ∧ i = .int .i64 k ∧ Hid (∀ j, j < k → (ntT j).data.toList ≠ s.data.toList) ∧ Below w.heap.size w wr) (fun i _ => 128 - (intOf i).toNat)
  case atStart => exact ⟨0, by omega, rfl, Lib.hid (fun j hj => by omega), Below.refl _ _⟩
  case round =>
    obtain ⟨k, hk, rfl, HNO, hbw⟩ := hrel
    have HB := Lib.hid hbw
    have HP := Lib.hid (pow_kept hbw hp.out)
    have HT := Lib.hid (note_kept hbw ht.out)
    clear hbw
    by_cases hlt : k ≤ 127
    · have HV := Lib.hid (show (if inB (k : Int) 0 127 = true then ntT (k : Int).toNat else ByteArray.empty) = ntT k by rw [if_pos (inB_iff.2 (by omega))]; rfl)
      go_wp2_with fail
      refine (implNoteName_any k _ HP HT).mono ?_
      rw [HV.out]
      rintro e w' ⟨rfl, hb⟩
      have HB2 := Lib.hid (below_of HB.out hb HB.out.size)
      clear hb
      by_cases he : (ntT k).data.toList = s.data.toList
      · have hq := eq_true_of he
        have HF := Lib.hid (find_some hlt HNO.out he)
        clear he
        generalize ntT k = t at *
        go_wp2
        go_ret2
        exact ⟨ret_ib (by unfold ntVal; rw [HF.out]) (by unfold ntHas; rw [HF.out]; rfl), HB2.out⟩
      · have hq := eq_false_of he
        have HN2 := Lib.hid (show ∀ j, j < k + 1 → (ntT j).data.toList ≠ s.data.toList from fun j hj => by
          by_cases e : j = k
          · subst e; exact he
          · exact HNO.out j (by omega))
        clear he
        generalize ntT k = t at *
        go_wp2
        go_roundw
        case rel => exact ⟨k + 1, by omega, by go_num, HN2, HB2.out⟩
        case measure => simp [intOf]; omega
    · obtain rfl : k = 128 := by omega
      have HF := Lib.hid (find_none HNO.out)
      go_wp2
      go_ret2
      exact ⟨ret_ib (by unfold ntVal; rw [HF.out]) (by unfold ntHas; rw [HF.out]; rfl), HB.out⟩
end Go.Proofs.YtmkopmdeelfmgabDoor
