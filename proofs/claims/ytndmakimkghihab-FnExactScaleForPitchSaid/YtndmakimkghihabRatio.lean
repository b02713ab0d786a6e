/- The program's function that takes a number to the nearest one in a ratio to it. -/
import Derived.Test.YtndmakimkghihabDiv
set_option linter.unusedVariables false
namespace Go.Proofs.Ytndmakimkghihab
open Go.ChangeShapes Go.WideShapes Go.ChangeAt Go.RowKit

theorem byRatio_any (num den : Int) (w : World) : Calls Try.prog 81 #[.int .i64 num, .int .i64 den] w fun e w' => e = .returned (.func (.func 105) #[] #[.pointer (some ⟨w.heap.size, 0, none⟩), .pointer (some ⟨w.heap.size + 1, 0, none⟩)]) ∧ w' = (w.alloc (.cells #[.int .i64 num] 2)).alloc (.cells #[.int .i64 den] 2) := by
  go_enter Try.func81, Try.ntmps81
  go_wp2
  go_ret
  exact ⟨rfl, rfl⟩
theorem ratio_any (n num den : Int) (g1 g2 : Nat) (w : World) (c1 : w.cell? ⟨g1, 0, none⟩ = some (.int .i64 num)) (c2 : w.cell? ⟨g2, 0, none⟩ = some (.int .i64 den)) (h : -4000000000000000000 ≤ n * num ∧ n * num ≤ 4000000000000000000) (hd : -4000000000000000000 ≤ den ∧ den ≤ 4000000000000000000) :
    Calls Try.prog 105 #[.int .i64 n, .pointer (some ⟨g1, 0, none⟩), .pointer (some ⟨g2, 0, none⟩)] w fun e w' => e = .returned (.int .i64 (nq (n * num) den)) ∧ Below w.heap.size w w' := by
  have HT := Lib.hid (fun w => nearest_any (n * num) den w h hd)
  obtain ⟨h0, h1⟩ := h
  go_enter Try.func105, Try.ntmps105
  go_wp2_with (go_at_call 61; refine (HT.out _).mono ?_; rintro e w1 ⟨rfl, hb⟩)
  go_ret
  exact ⟨rfl, hb⟩
end Go.Proofs.Ytndmakimkghihab
