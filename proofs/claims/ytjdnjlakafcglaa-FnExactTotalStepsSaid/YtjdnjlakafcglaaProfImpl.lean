/- Rings and profiles: the program's validity. -/
import Derived.Test.YtjdnjlakafcglaaProfFuns
import Derived.Test.YtjdnjlakafcglaaNameImplE
import Derived.Deep.RegionHeld3
namespace Go.Proofs.Ytjdnjlakafcglaa
open Go.ChangeShapes Go.WideShapes Go.ChangeAt Go.RowKit

set_option maxHeartbeats 1000000 in
theorem implValidRing_any (x y z : Int) (w : World) :
    Calls Try.prog 129 #[.agg #[.int .i64 x, .int .i64 y, .int .i64 z]] w fun e w' => e = .returned (.bool (ringB (x, y, z))) ∧ Below w.heap.size w w' := by
  rcases Bool.eq_false_or_eq_true (inB x 500 150000) with h1 | h1
  · obtain ⟨x0, x1⟩ := inB_iff.1 h1
    have HR := Lib.hid (ring_mid (y := y) (z := z) h1)
    have H1 := Lib.hid h1
    have hw : IntKind.i64.wrap (x - 100) = x - 100 := IntWalk.i64_in _ (by omega)
    clear h1
    rcases Bool.eq_false_or_eq_true (inB y 0 (x - 100)) with h2 | h2
    · have H2 := Lib.hid h2
      obtain ⟨c, h3⟩ : ∃ c, inB z 10 300000 = c := ⟨_, rfl⟩
      have HR2 := Lib.hid (show ringB (x, y, z) = c by rw [HR.out, h2, h3]; rfl)
      have H3 := Lib.hid h3
      clear h2 h3 HR
      go_enter Try.func129, Try.ntmps129
      go_wp2_with fail
      refine (within_i64 _ _ [x] _ 0 1 1 _ rfl (by omega) (cell_int _ _ _ _ (by simp))).mono ?_
      rintro e w' ⟨rfl, rfl⟩
      rw [all_one, H1.out]
      go_wp2_with fail
      refine (within_i64 _ _ [y] _ 0 1 1 _ rfl (by omega) (cell_int _ _ _ _ (by simp))).mono ?_
      rintro e w' ⟨rfl, rfl⟩
      rw [all_one, H2.out]
      go_wp2_with fail
      refine (within_i64 _ _ [z] _ 0 1 1 _ rfl (by omega) (cell_int _ _ _ _ (by simp))).mono ?_
      rintro e w' ⟨rfl, rfl⟩
      rw [all_one, H3.out]
      go_wp2
      go_ret
      exact ⟨ret_bool HR2.out.symm, ((((Below.refl _ _).alloc (Nat.le_refl _) _).alloc (by simp) _).alloc (by simp <;> omega) _).alloc (by simp <;> omega) _⟩
    · have H2 := Lib.hid h2
      have HR2 := Lib.hid (show ringB (x, y, z) = false by rw [HR.out, h2]; rfl)
      clear h2 HR
      go_enter Try.func129, Try.ntmps129
      go_wp2_with fail
      refine (within_i64 _ _ [x] _ 0 1 1 _ rfl (by omega) (cell_int _ _ _ _ (by simp))).mono ?_
      rintro e w' ⟨rfl, rfl⟩
      rw [all_one, H1.out]
      go_wp2_with fail
      refine (within_i64 _ _ [y] _ 0 1 1 _ rfl (by omega) (cell_int _ _ _ _ (by simp))).mono ?_
      rintro e w' ⟨rfl, rfl⟩
      rw [all_one, H2.out]
      go_wp2
      go_ret
      exact ⟨ret_bool HR2.out.symm, (((Below.refl _ _).alloc (Nat.le_refl _) _).alloc (by simp) _).alloc (by simp <;> omega) _⟩
  · have HR := Lib.hid (ring_no1 (y := y) (z := z) h1)
    have H1 := Lib.hid h1
    clear h1
    go_enter Try.func129, Try.ntmps129
    go_wp2_with fail
    refine (within_i64 _ _ [x] _ 0 1 1 _ rfl (by omega) (cell_int _ _ _ _ (by simp))).mono ?_
    rintro e w' ⟨rfl, rfl⟩
    rw [all_one, H1.out]
    go_wp2
    go_ret
    exact ⟨ret_bool HR.out.symm, ((Below.refl _ _).alloc (Nat.le_refl _) _).alloc (by simp) _⟩
theorem implCarries_any (x y z x2 y2 z2 : Int) (w : World) :
    Calls Try.prog 130 #[.agg #[.int .i64 x, .int .i64 y, .int .i64 z], .agg #[.int .i64 x2, .int .i64 y2, .int .i64 z2]] w fun e w' => e = .returned (.bool (joinB (x, y, z) (x2, y2, z2))) ∧ Below w.heap.size w w' := by
  have HJ := Lib.hid (show joinB (x, y, z) (x2, y2, z2) = (decide (y < x2) && decide (y2 < x)) from rfl)
  rcases Bool.eq_false_or_eq_true (decide (y < x2)) with h1 | h1
  · have H1 := Lib.hid h1
    go_enter Try.func130, Try.ntmps130
    go_wp2
    go_ret
    exact ⟨ret_bool (by rw [HJ.out, H1.out]; rfl), ((Below.refl _ _).alloc (Nat.le_refl _) _).alloc (by simp) _⟩
  · have H1 := Lib.hid h1
    go_enter Try.func130, Try.ntmps130
    go_wp2
    go_ret
    exact ⟨ret_bool (by rw [HJ.out, H1.out]; rfl), ((Below.refl _ _).alloc (Nat.le_refl _) _).alloc (by simp) _⟩
end Go.Proofs.Ytjdnjlakafcglaa
