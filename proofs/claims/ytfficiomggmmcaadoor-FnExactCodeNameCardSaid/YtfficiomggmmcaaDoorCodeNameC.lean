/- CodeName: the program's table and the reference model's list hold the same twelve names. -/
import Derived.Test.YtfficiomggmmcaaDoorWithin
import Derived.Test.YtfficiomggmmcaaDoorStrTab
namespace Go.Proofs.YtfficiomggmmcaaDoor
open Go.ChangeShapes Go.WideShapes Go.ChangeAt Go.RowKit

def names : List ByteArray := [⟨#[111, 107]⟩, ⟨#[105, 110, 118, 97, 108, 105, 100]⟩, ⟨#[114, 97, 110, 103, 101]⟩, ⟨#[110, 111, 116, 45, 102, 111, 117, 110, 100]⟩, ⟨#[101, 120, 105, 115, 116, 115]⟩, ⟨#[102, 117, 108, 108]⟩, ⟨#[115, 116, 97, 116, 101]⟩, ⟨#[111, 114, 100, 101, 114]⟩, ⟨#[115, 121, 110, 116, 97, 120]⟩, ⟨#[102, 111, 114, 109, 97, 116]⟩, ⟨#[99, 104, 101, 99, 107, 115, 117, 109]⟩, ⟨#[116, 114, 117, 110, 99, 97, 116, 101, 100]⟩]
def nameOf (c : Int) : ByteArray := if inB c 0 11 = true then names.getD c.toNat ByteArray.empty else ByteArray.empty

theorem twelve {c : Int} (h : inB c 0 11 = true) : c = 0 ∨ c = 1 ∨ c = 2 ∨ c = 3 ∨ c = 4 ∨ c = 5 ∨ c = 6 ∨ c = 7 ∨ c = 8 ∨ c = 9 ∨ c = 10 ∨ c = 11 := by
  have := inB_iff.1 h; omega
theorem ret_str {a b : ByteArray} (h : a = b) : Ending.returned (.string a) = .returned (.string b) := by rw [h]

set_option maxHeartbeats 1000000 in
theorem specCodeName_any (c : Int) (w : World) :
    Calls Tryd.prog 21 #[.int .i64 c] w fun e w' => e = .returned (.string (nameOf c)) ∧ Below w.heap.size w w' := by
  by_cases h : inB c 0 11 = true
  · rcases twelve h with rfl | rfl | rfl | rfl | rfl | rfl | rfl | rfl | rfl | rfl | rfl | rfl
    all_goals
      go_enter Tryd.func21, Tryd.ntmps21
      go_wp2_with fail
      refine (l00In_any _ _ _ _).mono ?_
      rintro e w' ⟨rfl, rfl⟩
      go_wp2
      go_ret
      exact ⟨ret_str rfl, (Below.refl _ _).alloc (Nat.le_refl _) _⟩
  · have HF := Lib.hid (show nameOf c = ByteArray.empty by unfold nameOf; rw [if_neg h])
    have h' : inB c 0 11 = false := by simpa using h
    clear h
    go_enter Tryd.func21, Tryd.ntmps21
    go_wp2_with fail
    refine (l00In_any _ _ _ _).mono ?_
    rintro e w' ⟨rfl, rfl⟩
    go_wp2
    go_ret
    exact ⟨ret_str HF.out.symm, (Below.refl _ _).alloc (Nat.le_refl _) _⟩

theorem cells1 (w : World) (x : Int) (T : TypeId) (n : Nat) (hn : n = w.heap.size) : ∀ j, j < 1 → (w.alloc (.cells #[.int .i64 x] T)).cell? ⟨n, 0 + j, none⟩ = some (.int .i64 ([x].getD j 0)) := by
  subst hn
  intro j hj
  match j, hj with
  | 0, _ => go_simp
theorem all_one (lo hi c : Int) : allIn lo hi [c] = inB c lo hi := by simp [allIn]

set_option maxHeartbeats 1000000 in
theorem implCodeName_any (c : Int) (w : World) (hsz : 0 < w.heap.size)
    (hc : ∀ j, j < 12 → w.cell? ⟨0, j, none⟩ = some (.string (names.getD j ByteArray.empty))) :
    Calls Tryd.prog 22 #[.int .i64 c] w fun e w' => e = .returned (.string (nameOf c)) ∧ Below w.heap.size w w' := by
  by_cases h : inB c 0 11 = true
  · obtain ⟨c0, c1⟩ := inB_iff.1 h
    obtain ⟨k, rfl⟩ := Int.eq_ofNat_of_zero_le c0
    have HF := Lib.hid (show nameOf (k : Int) = names.getD k ByteArray.empty by unfold nameOf; rw [if_pos h]; rfl)
    have hcell := hc k (by omega)
    generalize hnm : names.getD k ByteArray.empty = nm at *
    clear hc hnm
    go_enter Tryd.func22, Tryd.ntmps22
    go_wp2_with fail
    refine (within_i64 _ _ [(k : Int)] _ 0 1 1 _ rfl (by omega) (cells1 _ _ _ _ rfl)).mono ?_
    rintro e w' ⟨rfl, rfl⟩
    rw [all_one]
    go_wp2
    go_ret
    exact ⟨ret_str HF.out.symm, (Below.refl _ _).alloc (Nat.le_refl _) _⟩
  · have HF := Lib.hid (show nameOf c = ByteArray.empty by unfold nameOf; rw [if_neg h])
    have h' : inB c 0 11 = false := by simpa using h
    clear h
    go_enter Tryd.func22, Tryd.ntmps22
    go_wp2_with fail
    refine (within_i64 _ _ [c] _ 0 1 1 _ rfl (by omega) (cells1 _ _ _ _ rfl)).mono ?_
    rintro e w' ⟨rfl, rfl⟩
    rw [all_one]
    go_wp2
    go_ret
    exact ⟨ret_str HF.out.symm, (Below.refl _ _).alloc (Nat.le_refl _) _⟩
end Go.Proofs.YtfficiomggmmcaaDoor
