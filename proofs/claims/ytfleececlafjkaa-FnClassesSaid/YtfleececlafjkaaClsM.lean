/- Classes: the same on both sides, rising; the worst one of three. -/
import Derived.Test.YtfleececlafjkaaClsW
import Derived.Test.YtfleececlafjkaaHelpC
set_option linter.unusedVariables false
namespace Go.Proofs.Ytfleececlafjkaa
open Go.ChangeShapes Go.WideShapes Go.ChangeAt Go.RowKit

theorem cls_neg (x : Int) : clsI (-x) = clsI x := by
  have e : ∀ m : Int, inB (-x) (-m) m = inB x (-m) m := fun m => by
    unfold inB; rw [Bool.eq_iff_iff]; simp only [Bool.and_eq_true, decide_eq_true_eq]; omega
  unfold clsI; rw [e 20, e 50, e 100]
theorem cls_mono {x z : Int} (h0 : 0 ≤ x) (h1 : x ≤ z) : clsI x ≤ clsI z := by
  simp only [clsI, inB, Bool.and_eq_true, decide_eq_true_eq]
  split <;> split <;> (try split) <;> (try split) <;> (try split) <;> (try split) <;> omega
theorem cls_nil : clsI 0 = 1 := by decide
theorem wor_three {x z : Int} (h0 : 0 ≤ x) (h1 : x ≤ z) : worR [x, -z, 0] = clsI z := by
  have a := cls_mono h0 h1
  have b := cls_bd x
  have c := cls_bd z
  have d : worR [x, -z, 0] = maxC (maxC (maxC 1 (clsI x)) (clsI (-z))) (clsI 0) := rfl
  rw [d, cls_neg, cls_nil]
  simp only [maxC]
  split <;> (try split) <;> (try split) <;> omega
set_option maxRecDepth 20000 in
set_option maxHeartbeats 4000000 in
theorem classes_walk (a0 : Option Addr) (n0 c0 : Nat) (w : World) (hI : n0 ≤ 1048576 → BytesAt w w.heap.size (.slice a0 n0 c0)) :
    Calls Try.prog 11 #[.slice a0 n0 c0] w fun e w' => e = .returned (.bool true) ∧ Below w.heap.size w w' := by
  by_cases hl : n0 ≤ 1048576
  · have HBY := Lib.hid (hI hl)
    have hm : ¬ (1048576 : Int) < (n0 : Int) := by omega
    clear hI
    go_enter Try.func11, Try.ntmps11
    go_wp2_with fail
    refine (r8Wide_any _ 0 300 _ HBY.out (by omega) (by omega) (by omega) (by omega)).mono ?_
    rintro e w1 ⟨x, x0, x1, rfl, rfl⟩
    have x2 : x ≤ 299 := by omega
    clear x1
    go_wp2_with fail
    refine (r8At_any _ 2 100 _ HBY.out (by omega) (by omega) (by omega) (by omega)).mono ?_
    rintro e w1 ⟨y, y0, y1, rfl, rfl⟩
    have y2 : y ≤ 99 := by omega
    clear y1
    have HZ := Lib.hid (wor_three (x := x) (z := x + y) x0 (by omega))
    have HWC := Lib.hid (show worC [x, -(x + y), 0] = 0 from rfl)
    have HN := Lib.hid (cls_neg x)
    obtain ⟨p0, p1⟩ := cls_bd x
    obtain ⟨q0, q1⟩ := cls_bd (x + y)
    have hmo := cls_mono x0 (show x ≤ x + y by omega)
    have hw1 : IntKind.i64.wrap (x + y) = x + y := IntWalk.i64_in _ (by omega)
    have hw2 : IntKind.i64.wrap (-(x + y)) = -(x + y) := IntWalk.i64_in _ (by omega)
    have hw3 : IntKind.i64.wrap (-x) = -x := IntWalk.i64_in _ (by omega)
    go_wp2_with fail
    refine (implClassOf_any x (by omega) _).mono ?_
    rintro e w2 ⟨rfl, hb⟩
    have HB2 := Lib.hid hb
    clear hb
    go_wp2_with fail
    refine (implClassOf_any (x + y) (by omega) _).mono ?_
    rintro e w3 ⟨rfl, hb⟩
    have HB3 := Lib.hid (below_of HB2.out hb HB2.out.size)
    clear hb
    go_wp2_with fail
    refine (implWor_any [x, -(x + y), 0] _ (by
      intro z hz
      simp only [List.mem_cons, List.not_mem_nil, or_false] at hz
      have bdw : ∀ q : Int, -9223372036854775808 ≤ q → q ≤ 9223372036854775807 → (Lit.int .i64 q).wf = true := by
        intro q g1 g2
        have e : IntKind.i64.signed = true ∧ IntKind.i64.bits = 64 := ⟨rfl, rfl⟩
        simp only [Lit.wf, IntKind.min, IntKind.max, e.1, e.2, Bool.and_eq_true, decide_eq_true_eq]
        simp
        omega
      rcases hz with rfl | rfl | rfl
      · exact bdw _ (by omega) (by omega)
      · exact bdw _ (by omega) (by omega)
      · exact bdw _ (by omega) (by omega)) _ ⟨by simp, .inr ⟨_, 0, 3, rfl, by simp, by
        intro j hj
        match j, hj with
        | 0, _ => go_simp
        | 1, _ => go_simp
        | 2, _ => go_simp⟩⟩).mono ?_
    rintro e w4 ⟨rfl, hb⟩
    have HB4 := Lib.hid (below_of (HB3.out.alloc HB3.out.size _) hb (by have := HB3.out.size; simp; omega))
    clear hb
    rw [HZ.out, HWC.out]
    have HCN := Lib.hid (show ∀ W : World, Calls Try.prog 13 #[.int .i64 (-x)] W fun e w' => e = .returned (.int .i64 (clsI x)) ∧ Below W.heap.size W w' from fun W => by
      rw [← HN.out]; exact implClassOf_any (-x) (by omega) W)
    clear HZ
    generalize clsI x = a at *
    generalize clsI (x + y) = b at *
    have ha : (a == a) = true := by simp
    have hbb : (b == b) = true := by simp
    go_wp2_with fail
    refine (HCN.out _).mono ?_
    rintro e w5 ⟨rfl, hb⟩
    have HB5 := Lib.hid (below_of HB4.out hb HB4.out.size)
    clear hb
    go_wp2
    go_ret
    exact ⟨rfl, HB5.out⟩
  · have hm : (1048576 : Int) < (n0 : Int) := by omega
    clear hI
    go_enter Try.func11, Try.ntmps11
    go_wp2
    go_ret
    exact ⟨rfl, Below.refl _ _⟩
end Go.Proofs.Ytfleececlafjkaa
