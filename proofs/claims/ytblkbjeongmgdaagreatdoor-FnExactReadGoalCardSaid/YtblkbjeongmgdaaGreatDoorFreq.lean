/- Frequencies: the test of one and of two, the program's and the reference model's. -/
import Derived.Test.YtblkbjeongmgdaaGreatDoorWithin
namespace Go.Proofs.YtblkbjeongmgdaaGreatDoor
open Go.ChangeShapes Go.WideShapes Go.ChangeAt Go.RowKit

def okF (f : Int) : Bool := inB f 10000 20000000
theorem okF_iff {f : Int} : okF f = true ↔ 10000 ≤ f ∧ f ≤ 20000000 := inB_iff
theorem l02Ok_any (f : Int) (w : World) :
    Calls Tryz.prog 36 #[.int .i64 f] w fun e w' => e = .returned (.bool (okF f)) ∧ w = w' := by
  go_enter Tryz.func36, Tryz.ntmps36
  go_wp2_with fail
  refine (l00In_any _ _ _ _).mono ?_
  rintro e w' ⟨rfl, rfl⟩
  go_wp2
  go_ret
  exact ⟨rfl, rfl⟩

theorem retF_two {a b c d : Int} (h : a = b) (k : c = d) : Ending.returned (.tuple #[.int .i64 a, .int .i64 c]) = .returned (.tuple #[.int .i64 b, .int .i64 d]) := by rw [h, k]
theorem cellF1 (w : World) (x : Int) (T : TypeId) : ∀ j, j < 1 → (w.alloc (.cells #[.int .i64 x] T)).cell? ⟨w.heap.size, 0 + j, none⟩ = some (.int .i64 ([x].getD j 0)) := by
  intro j hj
  match j, hj with
  | 0, _ => go_simp
theorem cellF2 (w : World) (x y : Int) (T : TypeId) : ∀ j, j < 2 → (w.alloc (.cells #[.int .i64 x, .int .i64 y] T)).cell? ⟨w.heap.size, 0 + j, none⟩ = some (.int .i64 ([x, y].getD j 0)) := by
  intro j hj
  match j, hj with
  | 0, _ => go_simp
  | 1, _ => go_simp
theorem all1 (lo hi c : Int) : allIn lo hi [c] = inB c lo hi := by simp [allIn]
theorem all2 (lo hi c d : Int) : allIn lo hi [c, d] = (inB c lo hi && inB d lo hi) := by simp [allIn]

theorem implIsFrequency_any (f : Int) (w : World) :
    Calls Tryz.prog 57 #[.int .i64 f] w fun e w' => e = .returned (.bool (okF f)) ∧ Below w.heap.size w w' := by
  go_enter Tryz.func57, Tryz.ntmps57
  go_wp2_with fail
  refine (within_i64 _ _ [f] _ 0 1 1 _ rfl (by omega) (cellF1 _ _ _)).mono ?_
  rintro e w' ⟨rfl, rfl⟩
  go_wp2
  go_ret
  exact ⟨ret_bool (all1 _ _ _), (Below.refl _ _).alloc (Nat.le_refl _) _⟩
/-- The code of a test. -/
def codeOf (b : Bool) : Int := if b then 0 else 2
def ok2 (f g : Int) : Bool := okF f && okF g
theorem ok2_iff {f g : Int} : ok2 f g = true ↔ (10000 ≤ f ∧ f ≤ 20000000) ∧ (10000 ≤ g ∧ g ≤ 20000000) := by
  unfold ok2; rw [Bool.and_eq_true, okF_iff, okF_iff]
theorem ok2_flip (f g : Int) : ok2 g f = ok2 f g := by unfold ok2; rw [Bool.and_comm]
end Go.Proofs.YtblkbjeongmgdaaGreatDoor
