/- A number and a divisor that bytes choose. -/
import Derived.Test.YtndmakimkghihabDoorDrawPick
namespace Go.Proofs.YtndmakimkghihabDoor
open Go.ChangeShapes Go.WideShapes Go.ChangeAt Go.RowKit

theorem prod_bd (x y M N : Int) (x0 : 0 ≤ x) (x1 : x ≤ M) (y0 : 0 ≤ y) (y1 : y ≤ N) : 0 ≤ x * y ∧ x * y ≤ M * N :=
  ⟨Int.mul_nonneg x0 y0, Int.le_trans (Int.mul_le_mul_of_nonneg_right x1 y0) (Int.mul_le_mul_of_nonneg_left y1 (by omega))⟩
def NumbersPost (w : World) (e : Ending) (w' : World) : Prop :=
  ∃ a b : Int, -100000 ≤ a ∧ a ≤ 3599780001 ∧ 1 ≤ b ∧ b ≤ 5000 ∧ e = .returned (.tuple #[.int .i64 a, .int .i64 b]) ∧ Below w.heap.size w w'
set_option maxHeartbeats 1000000 in
theorem numbers_any (v : Value) (w : World) (h : BytesAt w w.heap.size v) :
    Calls Tryd.prog 16 #[v] w (NumbersPost w) := by
  have HB := Lib.hid h
  have hv : ∃ a n c, v = .slice a n c := by
    rcases h with ⟨a, c, rfl⟩ | ⟨b, off, n, cap, rfl, _⟩
    · exact ⟨_, _, _, rfl⟩
    · exact ⟨_, _, _, rfl⟩
  clear h
  obtain ⟨va, vn, vc, rfl⟩ := hv
  go_enter Tryd.func16, Tryd.ntmps16
  go_wp2_with fail
  refine (from_any _ _ HB.out).mono ?_
  rintro e w1 ⟨g, rfl, hs, hg, hb⟩
  have HS := Lib.hid hs
  have HB1 := Lib.hid hb
  have hsz1 := hb.size
  clear hs hb
  go_wp2_with fail
  refine (pick_any 60000 _ g 0 HS.out (by omega) (by omega) (by omega)).mono ?_
  rintro e w2 ⟨x, x0, x1, rfl, hs, hg2⟩
  have HS2 := Lib.hid hs
  have HB2 := Lib.hid (HB1.out.grown hg2 hsz1 (fun k hk => by cases hk; exact hg))
  have hsz2 := HB2.out.size
  clear hs hg2
  have x2 : x ≤ 59999 := by omega
  clear x1
  go_wp2_with fail
  refine (pick_any 60000 _ g 2 HS2.out (by omega) (by omega) (by omega)).mono ?_
  rintro e w3 ⟨y, y0, y1, rfl, hs, hg3⟩
  have HS3 := Lib.hid hs
  have HB3 := Lib.hid (HB2.out.grown hg3 hsz2 (fun k hk => by cases hk; exact hg))
  have hsz3 := HB3.out.size
  clear hs hg3
  have y2 : y ≤ 59999 := by omega
  clear y1
  have hp := prod_bd x y 59999 59999 x0 x2 y0 y2
  go_wp2_with fail
  refine (pick_any 5000 _ g 4 HS3.out (by omega) (by omega) (by omega)).mono ?_
  rintro e w4 ⟨z, z0, z1, rfl, hs, hg4⟩
  have HB4 := Lib.hid (HB3.out.grown hg4 hsz3 (fun k hk => by cases hk; exact hg))
  clear hs hg4
  have z2 : z ≤ 4999 := by omega
  clear z1
  go_wp2
  go_ret2
  exact ⟨_, _, by omega, by omega, by omega, by omega, rfl, HB4.out⟩
end Go.Proofs.YtndmakimkghihabDoor
