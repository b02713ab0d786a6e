/- Masses: hollow, mass, moment and turning of a ring; AreaOf, RingVolume; the functions that are handed to sumOf. -/
import Derived.Test.YtndmakimkghihaaMassRing
import Derived.Test.YtndmakimkghihaaDiv
set_option linter.unusedVariables false
namespace Go.Proofs.Ytndmakimkghihaa
open Go.ChangeShapes Go.WideShapes Go.ChangeAt Go.RowKit

theorem mass_any (x y z d : Int) (w : World) (hr : ringB (x, y, z) = true) (k0 : 0 ≤ d) (k1 : d ≤ 20000) :
    Calls Try.prog 105 #[.agg #[.int .i64 x, .int .i64 y, .int .i64 z], .int .i64 d] w fun e w' => e = .returned (.int .i64 (massV (volR (x, y, z)) d)) ∧ Below w.heap.size w w' := by
  have s0 := vol_bd hr
  have HS := Lib.hid (fun w => volume_any x y z w hr)
  have HT := Lib.hid (fun w => massOf_any (volR (x, y, z)) d w (by omega) (by omega) k0 k1)
  clear hr s0
  generalize volR (x, y, z) = q at *
  go_enter Try.func105, Try.ntmps105
  go_wp2_with (first | (go_at_call 152; refine (HS.out _).mono ?_; rintro e w6 ⟨rfl, hb6⟩) | (go_at_call 151; refine (HT.out _).mono ?_; rintro e w7 ⟨rfl, hb7⟩))
  go_ret
  exact ⟨rfl, below_of (below_of (below_al _ _) hb6 (below_al _ _).size) hb7 (Nat.le_trans (below_al _ _).size hb6.size)⟩
def turnV (b : Int) (r : Rg) : Int := volR r * (2 * b + r.2.2)
theorem turn_bd {b : Int} {r : Rg} (h : ringB r = true) (b0 : 0 ≤ b) (b1 : b ≤ 300000) : 0 ≤ turnV b r ∧ turnV b r ≤ 19085177475000000 := by
  obtain ⟨-, -, e, f⟩ := ring_iff.1 h
  have hv := vol_bd h
  exact mul_le2 (A := 21205752750) (B := 900000) (by omega) hv.2 (by omega) (by omega)
def aboveV (h d b : Int) (r : Rg) : Int := if b < h then 0 else massV (volR r) d
end Go.Proofs.Ytndmakimkghihaa
