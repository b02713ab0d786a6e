/- Blend: the reference model's line and the program's, walked. -/
import Derived.Test.YtndmakimkghihabDoorBlendCD
namespace Go.Proofs.YtndmakimkghihabDoor
open Go.ChangeShapes Go.WideShapes Go.ChangeAt Go.RowKit

def Mil (n : Int) : Prop := -1000000 ≤ n ∧ n ≤ 1000000

theorem cells1 (w : World) (x : Int) (T : TypeId) (n : Nat) (hn : n = w.heap.size) : ∀ j, j < 1 → (w.alloc (.cells #[.int .i64 x] T)).cell? ⟨n, 0 + j, none⟩ = some (.int .i64 ([x].getD j 0)) := by
  subst hn
  intro j hj
  match j, hj with
  | 0, _ => go_simp
theorem cells4 (w : World) (x y z u : Int) (T : TypeId) : ∀ j, j < 4 → (w.alloc (.cells #[.int .i64 x, .int .i64 y, .int .i64 z, .int .i64 u] T)).cell? ⟨w.heap.size, 0 + j, none⟩ = some (.int .i64 ([x, y, z, u].getD j 0)) := by
  intro j hj
  match j, hj with
  | 0, _ => go_simp
  | 1, _ => go_simp
  | 2, _ => go_simp
  | 3, _ => go_simp

/-- The number on the line, behind a name. -/
def clampV (x0 x1 x : Int) : Int := [x1].foldl pickLeast ([x0].foldl pickMost x)
theorem clamp_eq (x0 x1 x : Int) : clampV x0 x1 x = if x1 < (if x < x0 then x0 else x) then x1 else (if x < x0 then x0 else x) := by
  simp [clampV, pickLeast, pickMost]
theorem clamp_blend (x0 y0 x1 y1 x : Int) (h : x0 < x1) : blendIn x0 y0 x1 y1 x = y0 + nq ((y1 - y0) * (clampV x0 x1 x - x0)) (x1 - x0) := by
  rw [clamp_eq]
  unfold blendIn
  by_cases c1 : x ≤ x0
  · rw [if_pos (.inr c1)]
    have e : (if x1 < (if x < x0 then x0 else x) then x1 else (if x < x0 then x0 else x)) = x0 := by
      split <;> (try split) <;> (try split at *) <;> omega
    rw [e, Int.sub_self, Int.mul_zero, nq_nil _ (by omega)]; omega
  · rw [if_neg (by omega)]
    by_cases c3 : x1 ≤ x
    · have e : (if x1 < (if x < x0 then x0 else x) then x1 else (if x < x0 then x0 else x)) = x1 := by
        split <;> (try split) <;> (try split at *) <;> omega
      rw [if_pos c3, e, nq_self _ _ (by omega)]; omega
    · have e : (if x1 < (if x < x0 then x0 else x) then x1 else (if x < x0 then x0 else x)) = x := by
        split <;> (try split) <;> (try split at *) <;> omega
      rw [if_neg c3, e]
theorem clamp_bd (x0 x1 x : Int) (h : x0 < x1) : x0 ≤ clampV x0 x1 x ∧ clampV x0 x1 x ≤ x1 := by
  rw [clamp_eq]
  split <;> (try split) <;> (try split at *) <;> omega
end Go.Proofs.YtndmakimkghihabDoor
