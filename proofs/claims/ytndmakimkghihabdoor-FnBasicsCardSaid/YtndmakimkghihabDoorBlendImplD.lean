/- Blend: the program's answer is the number on the line, for all arguments. -/
import Derived.Test.YtndmakimkghihabDoorBlendD
namespace Go.Proofs.YtndmakimkghihabDoor
open Go.ChangeShapes Go.WideShapes Go.ChangeAt Go.RowKit

set_option maxHeartbeats 1000000 in
theorem implBlend_any (x0 y0 x1 y1 x : Int) (w : World) :
    Calls Tryd.prog 21 #[.int .i64 x0, .int .i64 y0, .int .i64 x1, .int .i64 y1, .int .i64 x] w fun e w' => e = .returned (.int .i64 (blendV x0 y0 x1 y1 x)) ∧ Below w.heap.size w w' := by
  have hall : allIn (-1000000) 1000000 [x0, y0, x1, y1] = (inB x0 (-1000000) 1000000 && (inB y0 (-1000000) 1000000 && (inB x1 (-1000000) 1000000 && inB y1 (-1000000) 1000000))) := by simp [allIn]
  by_cases h : inB x0 (-1000000) 1000000 = true ∧ inB x1 (-1000000) 1000000 = true ∧ inB y0 (-1000000) 1000000 = true ∧ inB y1 (-1000000) 1000000 = true
  · have ht : allIn (-1000000) 1000000 [x0, y0, x1, y1] = true := by rw [hall, h.1, h.2.1, h.2.2.1, h.2.2.2]; rfl
    have HF := Lib.hid (show blendV x0 y0 x1 y1 x = blendIn x0 y0 x1 y1 x by unfold blendV; exact if_pos h)
    have b1 := inB_iff.1 h.1
    have b2 := inB_iff.1 h.2.1
    have b3 := inB_iff.1 h.2.2.1
    have b4 := inB_iff.1 h.2.2.2
    clear h hall
    by_cases c : x1 ≤ x0
    · have HG := Lib.hid (show blendIn x0 y0 x1 y1 x = y0 by unfold blendIn; rw [if_pos (.inl c)])
      go_enter Tryd.func21, Tryd.ntmps21
      go_wp2_with fail
      refine (within_i64 _ _ [x0, y0, x1, y1] _ 0 4 4 _ rfl (by omega) (cells4 _ _ _ _ _ _)).mono ?_
      rintro e w' ⟨rfl, rfl⟩
      go_wp2
      go_ret
      exact ⟨ret_i64 (by rw [HF.out, HG.out]), (Below.refl _ _).alloc (Nat.le_refl _) _⟩
    · have HG := Lib.hid (clamp_blend x0 y0 x1 y1 x (by omega))
      have hc := clamp_bd x0 x1 x (by omega)
      obtain ⟨p1, p2⟩ := mul_bd (y1 - y0) (clampV x0 x1 x - x0) 2000000 2000000 (by omega) (by omega) (by omega) (by omega) (by omega)
      obtain ⟨q1, q2⟩ : -5000000000000 ≤ nq ((y1 - y0) * (clampV x0 x1 x - x0)) (x1 - x0) ∧ nq ((y1 - y0) * (clampV x0 x1 x - x0)) (x1 - x0) ≤ 5000000000000 := by
        have := nq_bd ((y1 - y0) * (clampV x0 x1 x - x0)) (x1 - x0) (by omega); omega
      go_enter Tryd.func21, Tryd.ntmps21
      go_wp2_with fail
      refine (within_i64 _ _ [x0, y0, x1, y1] _ 0 4 4 _ rfl (by omega) (cells4 _ _ _ _ _ _)).mono ?_
      rintro e w' ⟨rfl, rfl⟩
      go_wp2_with fail
      refine (greatest_any x [x0] _ 0 1 1 _ rfl (by omega) (cells1 _ _ _ _ (by simp))).mono ?_
      rintro e w' ⟨rfl, rfl⟩
      generalize hg : [x0].foldl pickMost x = g
      have HGg := Lib.hid hg
      clear hg
      go_wp2_with fail
      refine (least_any g [x1] _ 0 1 1 _ rfl (by omega) (cells1 _ _ _ _ (by simp))).mono ?_
      rintro e w' ⟨rfl, rfl⟩
      have hcl : [x1].foldl pickLeast g = clampV x0 x1 x := by rw [← HGg.out]; rfl
      rw [hcl]
      clear hcl
      go_wp2_with fail
      refine (nearest_any _ _ _ (by omega) (by omega)).mono ?_
      rintro e w1 ⟨rfl, hb⟩
      have HB := Lib.hid hb
      clear hb
      go_wp2
      go_ret
      exact ⟨ret_i64 (by rw [HF.out, HG.out]), below_of ((((Below.refl _ _).alloc (Nat.le_refl _) _).alloc (by simp) _).alloc (by simp; omega) _) HB.out (by simp; omega)⟩
  · have ht : allIn (-1000000) 1000000 [x0, y0, x1, y1] = false := by
      rw [hall, Bool.eq_false_iff]; intro g; apply h; simp only [Bool.and_eq_true] at g; exact ⟨g.1, g.2.2.1, g.2.1, g.2.2.2⟩
    have HF := Lib.hid (show blendV x0 y0 x1 y1 x = 0 by unfold blendV; exact if_neg h)
    clear h hall
    go_enter Tryd.func21, Tryd.ntmps21
    go_wp2_with fail
    refine (within_i64 _ _ [x0, y0, x1, y1] _ 0 4 4 _ rfl (by omega) (cells4 _ _ _ _ _ _)).mono ?_
    rintro e w' ⟨rfl, rfl⟩
    go_wp2
    go_ret
    exact ⟨ret_i64 HF.out.symm, (Below.refl _ _).alloc (Nat.le_refl _) _⟩
end Go.Proofs.YtndmakimkghihabDoor
