/- DivRound: the program's and the reference model's answer, for all pairs of int64. -/
import Derived.Test.YtfleececlafjkaaDoorDiv
namespace Go.Proofs.YtfleececlafjkaaDoor
open Go.ChangeShapes Go.WideShapes Go.ChangeAt Go.RowKit

def divRound (a b : Int) : Int := if b ≠ 0 ∧ inB a (-1000000000000) 1000000000000 = true ∧ inB b (-1000000000000) 1000000000000 = true then nq a b else 0

theorem cells2 (w : World) (x y : Int) (T : TypeId) : ∀ j, j < 2 → (w.alloc (.cells #[.int .i64 x, .int .i64 y] T)).cell? ⟨w.heap.size, 0 + j, none⟩ = some (.int .i64 ([x, y].getD j 0)) := by
  intro j hj
  match j, hj with
  | 0, _ => go_simp
  | 1, _ => go_simp

set_option maxHeartbeats 400000 in
theorem implDivRound_any (a b : Int) (w : World) :
    Calls Tryd.prog 39 #[.int .i64 a, .int .i64 b] w fun e w' => e = .returned (.int .i64 (divRound a b)) ∧ Below w.heap.size w w' := by
  have hall : allIn (-1000000000000) 1000000000000 [a, b] = (inB a (-1000000000000) 1000000000000 && inB b (-1000000000000) 1000000000000) := by simp [allIn]
  by_cases h : inB a (-1000000000000) 1000000000000 = true ∧ inB b (-1000000000000) 1000000000000 = true
  · have h1 : allIn (-1000000000000) 1000000000000 [a, b] = true := by rw [hall, h.1, h.2]; rfl
    have HF := Lib.hid (show divRound a b = nq a b by
      unfold divRound
      by_cases hb0 : b = 0
      · rw [if_neg (fun g => g.1 hb0)]; simp [nq, hb0]
      · rw [if_pos ⟨hb0, h⟩])
    obtain ⟨ha1, ha2⟩ := inB_iff.1 h.1
    obtain ⟨hb2, hb3⟩ := inB_iff.1 h.2
    clear h hall
    go_enter Tryd.func39, Tryd.ntmps39
    go_wp2_with fail
    refine (within_i64 _ _ [a, b] _ 0 2 2 _ rfl (by omega) (cells2 _ _ _ _)).mono ?_
    rintro e w' ⟨rfl, rfl⟩
    go_wp2_with fail
    refine (nearest_any a b _ (by omega) (by omega)).mono ?_
    rintro e w1 ⟨rfl, hb⟩
    have HB := Lib.hid hb
    clear hb
    go_wp2
    go_ret
    exact ⟨ret_i64 HF.out.symm, below_of ((Below.refl _ _).alloc (Nat.le_refl _) _) HB.out (by simp)⟩
  · have h1 : allIn (-1000000000000) 1000000000000 [a, b] = false := by rw [hall, Bool.eq_false_iff]; intro g; exact h (by simpa using g)
    have HF := Lib.hid (show divRound a b = 0 by unfold divRound; rw [if_neg (fun g => h g.2)])
    clear h hall
    go_enter Tryd.func39, Tryd.ntmps39
    go_wp2_with fail
    refine (within_i64 _ _ [a, b] _ 0 2 2 _ rfl (by omega) (cells2 _ _ _ _)).mono ?_
    rintro e w' ⟨rfl, rfl⟩
    go_wp2
    go_ret
    exact ⟨ret_i64 HF.out.symm, (Below.refl _ _).alloc (Nat.le_refl _) _⟩
end Go.Proofs.YtfleececlafjkaaDoor
