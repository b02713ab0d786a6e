/- The reference model's root is the greatest number whose square is at most the argument, for every int64. -/
import Derived.Test.YtndmakimkghihabDoorRows
import Derived.WalkKit
import Derived.ProofKit
import Derived.OpenShut
import Derived.Lib.Hide
namespace Go.Proofs.YtndmakimkghihabDoor
open Go.ChangeShapes Go.WideShapes Go.ChangeAt Go.RowKit

/-- 'r' is the root of 'n', rounded down. -/
def IsRoot (n r : Int) : Prop := 0 ≤ r ∧ r ≤ 3037000499 ∧ (n < 0 → r = 0) ∧ (0 ≤ n → r * r ≤ n ∧ n < (r + 1) * (r + 1))
def RootPost (n : Int) (w : World) (e : Ending) (w' : World) : Prop := ∃ r : Int, IsRoot n r ∧ e = .returned (.int .i64 r) ∧ w = w'

theorem sq_mono {a b : Int} (h0 : 0 ≤ a) (h : a ≤ b) : a * a ≤ b * b := Int.mul_le_mul h h h0 (by omega)

theorem root_unique {n a b : Int} (ha : IsRoot n a) (hb : IsRoot n b) : a = b := by
  obtain ⟨a0, a1, an, ap⟩ := ha
  obtain ⟨b0, b1, bn, bp⟩ := hb
  by_cases h : n < 0
  · rw [an h, bn h]
  · have h' : 0 ≤ n := by omega
    obtain ⟨p1, p2⟩ := ap h'
    obtain ⟨q1, q2⟩ := bp h'
    by_cases h1 : a < b
    · have := sq_mono (a := a + 1) (b := b) (by omega) (by omega); omega
    · by_cases h2 : b < a
      · have := sq_mono (a := b + 1) (b := a) (by omega) (by omega); omega
      · omega

theorem mid_bd (l h : Int) (h0 : 0 ≤ l) (hlt : l < h) (hh : h ≤ 3037000499) : 0 ≤ ((l + h + 1) / 2) * ((l + h + 1) / 2) ∧ ((l + h + 1) / 2) * ((l + h + 1) / 2) ≤ 9223372036854775807 := by
  have := sq_mono (a := (l + h + 1) / 2) (b := 3037000499) (by omega) (by omega)
  exact ⟨Int.mul_nonneg (by omega) (by omega), by omega⟩

end Go.Proofs.YtndmakimkghihabDoor
