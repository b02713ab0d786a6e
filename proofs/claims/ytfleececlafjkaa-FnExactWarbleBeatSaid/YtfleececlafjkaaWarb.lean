/- The frequency of beats: both programs' answers. -/
import Derived.Test.YtfleececlafjkaaFreq
import Derived.Test.YtfleececlafjkaaDiv
import Derived.Test.YtfleececlafjkaaWithinMore
set_option linter.unusedVariables false
namespace Go.Proofs.Ytfleececlafjkaa
open Go.ChangeShapes Go.WideShapes Go.ChangeAt Go.RowKit

def wbB (f s : Int) : Bool := okF f && inB s 0 100000000
def wbR (f s : Int) : Int := if wbB f s = true then nq (f * s) 100000000 else 0
theorem wb_bd {f s : Int} (h1 : okF f = true) (h2 : inB s 0 100000000 = true) : 0 ≤ f * s ∧ f * s ≤ 2000000000000000 := by
  obtain ⟨a, b⟩ := okF_iff.1 h1
  obtain ⟨c, d⟩ := inB_iff.1 h2
  have e := Int.mul_le_mul b d c (by omega : (0 : Int) ≤ 20000000)
  have g := Int.mul_nonneg (by omega : (0 : Int) ≤ f) c
  omega
set_option maxHeartbeats 1000000 in
theorem specWB_any (f s : Int) (w : World) :
    Calls Try.prog 18 #[.int .i64 f, .int .i64 s] w fun e w' => e = .returned (.tuple #[.int .i64 (wbR f s), .int .i64 (codeOf (wbB f s))]) ∧ Below w.heap.size w w' := by
  rcases Bool.eq_false_or_eq_true (okF f) with h1 | h1
  · have H1 := Lib.hid h1
    rcases Bool.eq_false_or_eq_true (inB s 0 100000000) with h2 | h2
    · have H2 := Lib.hid h2
      have HB := Lib.hid (show wbB f s = true by unfold wbB; rw [h1, h2]; rfl)
      have HR := Lib.hid (show wbR f s = nq (f * s) 100000000 by unfold wbR; rw [if_pos HB.out])
      have HC := Lib.hid (show codeOf (wbB f s) = 0 by rw [HB.out]; rfl)
      obtain ⟨m0, m1⟩ := wb_bd h1 h2
      have hw : IntKind.i64.wrap (f * s) = f * s := IntWalk.i64_in _ (by omega)
      clear h1 h2
      go_enter Try.func18, Try.ntmps18
      go_wp2_with fail
      refine (l02Ok_any f _).mono ?_
      rintro e w2 ⟨rfl, rfl⟩
      rw [H1.out]
      go_wp2_with fail
      refine (l00In_any s _ _ _).mono ?_
      rintro e w2 ⟨rfl, rfl⟩
      rw [H2.out]
      go_wp2_with fail
      refine (specDiv_any (f * s) 100000000 _ (by omega) (by omega) (by omega)).mono ?_
      rintro e w2 ⟨rfl, rfl⟩
      generalize nq (f * s) 100000000 = r at *
      go_wp2
      go_ret2
      exact ⟨retF_two HR.out.symm HC.out.symm, Below.refl _ _⟩
    · have H2 := Lib.hid h2
      have HB := Lib.hid (show wbB f s = false by unfold wbB; rw [h1, h2]; rfl)
      have HR := Lib.hid (show wbR f s = 0 by unfold wbR; rw [HB.out]; rfl)
      have HC := Lib.hid (show codeOf (wbB f s) = 2 by rw [HB.out]; rfl)
      clear h1 h2
      go_enter Try.func18, Try.ntmps18
      go_wp2_with fail
      refine (l02Ok_any f _).mono ?_
      rintro e w2 ⟨rfl, rfl⟩
      rw [H1.out]
      go_wp2_with fail
      refine (l00In_any s _ _ _).mono ?_
      rintro e w2 ⟨rfl, rfl⟩
      rw [H2.out]
      go_wp2
      go_ret2
      exact ⟨retF_two HR.out.symm HC.out.symm, Below.refl _ _⟩
  · have H1 := Lib.hid h1
    have HB := Lib.hid (show wbB f s = false by unfold wbB; rw [h1]; rfl)
    have HR := Lib.hid (show wbR f s = 0 by unfold wbR; rw [HB.out]; rfl)
    have HC := Lib.hid (show codeOf (wbB f s) = 2 by rw [HB.out]; rfl)
    clear h1
    go_enter Try.func18, Try.ntmps18
    go_wp2_with fail
    refine (l02Ok_any f _).mono ?_
    rintro e w2 ⟨rfl, rfl⟩
    rw [H1.out]
    go_wp2
    go_ret2
    exact ⟨retF_two HR.out.symm HC.out.symm, Below.refl _ _⟩
theorem isSplit_any (n : Int) (w : World) :
    Calls Try.prog 50 #[.int .i64 n] w fun e w' => e = .returned (.bool (inB n 0 100000000)) ∧ Below w.heap.size w w' := by
  go_enter Try.func50, Try.ntmps50
  go_wp2_with fail
  refine (within_i64 _ _ [n] _ 0 1 1 _ rfl (by omega) (cell_int _ _ _ _ rfl)).mono ?_
  rintro e w' ⟨rfl, rfl⟩
  rw [all_one]
  go_wp2
  go_ret
  exact ⟨rfl, (Below.refl _ _).alloc (Nat.le_refl _) _⟩
set_option maxHeartbeats 1000000 in
theorem implWB_any (f s : Int) (w : World) :
    Calls Try.prog 19 #[.int .i64 f, .int .i64 s] w fun e w' => e = .returned (.tuple #[.int .i64 (wbR f s), .int .i64 (codeOf (wbB f s))]) ∧ Below w.heap.size w w' := by
  rcases Bool.eq_false_or_eq_true (okF f) with h1 | h1
  · have H1 := Lib.hid h1
    rcases Bool.eq_false_or_eq_true (inB s 0 100000000) with h2 | h2
    · have H2 := Lib.hid h2
      have HB := Lib.hid (show wbB f s = true by unfold wbB; rw [h1, h2]; rfl)
      have HR := Lib.hid (show wbR f s = nq (f * s) 100000000 by unfold wbR; rw [if_pos HB.out])
      have HC := Lib.hid (show codeOf (wbB f s) = 0 by rw [HB.out]; rfl)
      obtain ⟨m0, m1⟩ := wb_bd h1 h2
      have hw : IntKind.i64.wrap (f * s) = f * s := IntWalk.i64_in _ (by omega)
      clear h1 h2
      go_enter Try.func19, Try.ntmps19
      go_wp2_with fail
      refine (implIsFrequency_any f _).mono ?_
      rintro e w2 ⟨rfl, hb⟩
      have HB1 := Lib.hid hb
      clear hb
      rw [H1.out]
      go_wp2_with fail
      refine (isSplit_any s _).mono ?_
      rintro e w3 ⟨rfl, hb⟩
      have HB2 := Lib.hid (below_of HB1.out hb HB1.out.size)
      clear hb
      rw [H2.out]
      go_wp2_with fail
      refine (nearest_any (f * s) 100000000 _ (by omega) (by omega)).mono ?_
      rintro e w4 ⟨rfl, hb⟩
      have HB3 := Lib.hid (below_of HB2.out hb HB2.out.size)
      clear hb
      generalize nq (f * s) 100000000 = r at *
      go_wp2
      go_ret2
      exact ⟨retF_two HR.out.symm HC.out.symm, HB3.out⟩
    · have H2 := Lib.hid h2
      have HB := Lib.hid (show wbB f s = false by unfold wbB; rw [h1, h2]; rfl)
      have HR := Lib.hid (show wbR f s = 0 by unfold wbR; rw [HB.out]; rfl)
      have HC := Lib.hid (show codeOf (wbB f s) = 2 by rw [HB.out]; rfl)
      clear h1 h2
      go_enter Try.func19, Try.ntmps19
      go_wp2_with fail
      refine (implIsFrequency_any f _).mono ?_
      rintro e w2 ⟨rfl, hb⟩
      have HB1 := Lib.hid hb
      clear hb
      rw [H1.out]
      go_wp2_with fail
      refine (isSplit_any s _).mono ?_
      rintro e w3 ⟨rfl, hb⟩
      have HB2 := Lib.hid (below_of HB1.out hb HB1.out.size)
      clear hb
      rw [H2.out]
      go_wp2
      go_ret2
      exact ⟨retF_two HR.out.symm HC.out.symm, HB2.out⟩
  · have H1 := Lib.hid h1
    have HB := Lib.hid (show wbB f s = false by unfold wbB; rw [h1]; rfl)
    have HR := Lib.hid (show wbR f s = 0 by unfold wbR; rw [HB.out]; rfl)
    have HC := Lib.hid (show codeOf (wbB f s) = 2 by rw [HB.out]; rfl)
    clear h1
    go_enter Try.func19, Try.ntmps19
    go_wp2_with fail
    refine (implIsFrequency_any f _).mono ?_
    rintro e w2 ⟨rfl, hb⟩
    have HB1 := Lib.hid hb
    clear hb
    rw [H1.out]
    go_wp2
    go_ret2
    exact ⟨retF_two HR.out.symm HC.out.symm, HB1.out⟩
end Go.Proofs.Ytfleececlafjkaa
