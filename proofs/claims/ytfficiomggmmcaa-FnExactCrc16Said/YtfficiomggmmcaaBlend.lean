/- Blend: the reference model's line and the program's, walked. -/
import Derived.Test.YtfficiomggmmcaaBlendC
namespace Go.Proofs.Ytfficiomggmmcaa
open Go.ChangeShapes Go.WideShapes Go.ChangeAt Go.RowKit

def Mil (n : Int) : Prop := -1000000 ≤ n ∧ n ≤ 1000000

theorem specLine_any (x0 y0 x1 y1 x : Int) (w : World) (h0 : -1000000 ≤ x0 ∧ x0 ≤ 1000000) (g0 : -1000000 ≤ y0 ∧ y0 ≤ 1000000) (h1 : -1000000 ≤ x1 ∧ x1 ≤ 1000000) (g1 : -1000000 ≤ y1 ∧ y1 ≤ 1000000) :
    Calls Try.prog 39 #[.int .i64 x0, .int .i64 y0, .int .i64 x1, .int .i64 y1, .int .i64 x] w fun e w' => e = .returned (.int .i64 (blendIn x0 y0 x1 y1 x)) ∧ w = w' := by
  by_cases c1 : x ≤ x0
  · have HF := Lib.hid (show blendIn x0 y0 x1 y1 x = y0 by unfold blendIn; rw [if_pos (.inr c1)])
    go_enter Try.func39, Try.ntmps39
    go_wp2
    go_ret
    exact ⟨ret_i64 HF.out.symm, rfl⟩
  · by_cases c2 : x1 ≤ x0
    · have HF := Lib.hid (show blendIn x0 y0 x1 y1 x = y0 by unfold blendIn; rw [if_pos (.inl c2)])
      go_enter Try.func39, Try.ntmps39
      go_wp2
      go_ret
      exact ⟨ret_i64 HF.out.symm, rfl⟩
    · by_cases c3 : x1 ≤ x
      · have HF := Lib.hid (show blendIn x0 y0 x1 y1 x = y1 by unfold blendIn; rw [if_neg (by omega), if_pos c3])
        go_enter Try.func39, Try.ntmps39
        go_wp2
        go_ret
        exact ⟨ret_i64 HF.out.symm, rfl⟩
      · have HF := Lib.hid (show blendIn x0 y0 x1 y1 x = y0 + nq ((y1 - y0) * (x - x0)) (x1 - x0) by unfold blendIn; rw [if_neg (by omega), if_neg c3])
        obtain ⟨p1, p2⟩ := mul_bd (y1 - y0) (x - x0) 2000000 2000000 (by omega) (by omega) (by omega) (by omega) (by omega)
        obtain ⟨q1, q2⟩ : -5000000000000 ≤ nq ((y1 - y0) * (x - x0)) (x1 - x0) ∧ nq ((y1 - y0) * (x - x0)) (x1 - x0) ≤ 5000000000000 := by
          have := nq_bd ((y1 - y0) * (x - x0)) (x1 - x0) (by omega); omega
        go_enter Try.func39, Try.ntmps39
        go_wp2_with (go_at_call 37; refine (specDiv_any _ _ _ (by omega) (by omega) (by omega)).mono ?_; rintro e w' ⟨rfl, rfl⟩)
        go_ret
        exact ⟨ret_i64 HF.out.symm, rfl⟩

set_option maxHeartbeats 400000 in
theorem specBlend_any (x0 y0 x1 y1 x : Int) (w : World) :
    Calls Try.prog 22 #[.int .i64 x0, .int .i64 y0, .int .i64 x1, .int .i64 y1, .int .i64 x] w fun e w' => e = .returned (.int .i64 (blendV x0 y0 x1 y1 x)) ∧ w = w' := by
  by_cases h1 : inB x0 (-1000000) 1000000 = true
  · by_cases h2 : inB x1 (-1000000) 1000000 = true
    · by_cases h3 : inB y0 (-1000000) 1000000 = true
      · by_cases h4 : inB y1 (-1000000) 1000000 = true
        · have HF := Lib.hid (show blendV x0 y0 x1 y1 x = blendIn x0 y0 x1 y1 x by unfold blendV; rw [if_pos ⟨h1, h2, h3, h4⟩])
          have b1 := inB_iff.1 h1
          have b2 := inB_iff.1 h2
          have b3 := inB_iff.1 h3
          have b4 := inB_iff.1 h4
          go_enter Try.func22, Try.ntmps22
          go_wp2_with (first | (go_at_call 32; refine (l00In_any _ _ _ _).mono ?_; rintro e w' ⟨rfl, rfl⟩) | (go_at_call 39; refine (specLine_any _ _ _ _ _ _ b1 b3 b2 b4).mono ?_; rintro e w' ⟨rfl, rfl⟩))
          go_ret
          exact ⟨ret_i64 HF.out.symm, rfl⟩
        · have HF := Lib.hid (show blendV x0 y0 x1 y1 x = 0 by unfold blendV; rw [if_neg (fun h => h4 h.2.2.2)])
          have h4' : inB y1 (-1000000) 1000000 = false := by simpa using h4
          clear h4
          go_enter Try.func22, Try.ntmps22
          go_wp2_with (go_at_call 32; refine (l00In_any _ _ _ _).mono ?_; rintro e w' ⟨rfl, rfl⟩)
          go_ret
          exact ⟨ret_i64 HF.out.symm, rfl⟩
      · have HF := Lib.hid (show blendV x0 y0 x1 y1 x = 0 by unfold blendV; rw [if_neg (fun h => h3 h.2.2.1)])
        have h3' : inB y0 (-1000000) 1000000 = false := by simpa using h3
        clear h3
        go_enter Try.func22, Try.ntmps22
        go_wp2_with (go_at_call 32; refine (l00In_any _ _ _ _).mono ?_; rintro e w' ⟨rfl, rfl⟩)
        go_ret
        exact ⟨ret_i64 HF.out.symm, rfl⟩
    · have HF := Lib.hid (show blendV x0 y0 x1 y1 x = 0 by unfold blendV; rw [if_neg (fun h => h2 h.2.1)])
      have h2' : inB x1 (-1000000) 1000000 = false := by simpa using h2
      clear h2
      go_enter Try.func22, Try.ntmps22
      go_wp2_with (go_at_call 32; refine (l00In_any _ _ _ _).mono ?_; rintro e w' ⟨rfl, rfl⟩)
      go_ret
      exact ⟨ret_i64 HF.out.symm, rfl⟩
  · have HF := Lib.hid (show blendV x0 y0 x1 y1 x = 0 by unfold blendV; rw [if_neg (fun h => h1 h.1)])
    have h1' : inB x0 (-1000000) 1000000 = false := by simpa using h1
    clear h1
    go_enter Try.func22, Try.ntmps22
    go_wp2_with (go_at_call 32; refine (l00In_any _ _ _ _).mono ?_; rintro e w' ⟨rfl, rfl⟩)
    go_ret
    exact ⟨ret_i64 HF.out.symm, rfl⟩

theorem cells1 (w : World) (x : Int) (T : TypeId) (n : Nat) (hn : n = w.heap.size) : ∀ j, j < 1 → (w.alloc (.cells #[.int .i64 x] T)).cell? ⟨n, 0 + j, none⟩ = some (.int .i64 ([x].getD j 0)) := by
  subst hn
  intro j hj
  match j, hj with
  | 0, _ => go_simp
theorem cells4 (w : World) (x y z u : Int) (T : TypeId) : ∀ j, j < 4 → (w.alloc (.cells #[.int .i64 x, .int .i64 y, .int .i64 z, .int .i64 u] T)).cell? ⟨w.heap.size, 0 + j, none⟩ = some (.int .i64 ([x, y, z, u].getD j 0)) := by
  intro j hj
  match j, hj with
  | 0, _ => go_simp
  | 1, _ => go_simp
  | 2, _ => go_simp
  | 3, _ => go_simp

/-- The number on the line, behind a name. -/
def clampV (x0 x1 x : Int) : Int := [x1].foldl pickLeast ([x0].foldl pickMost x)
theorem clamp_eq (x0 x1 x : Int) : clampV x0 x1 x = if x1 < (if x < x0 then x0 else x) then x1 else (if x < x0 then x0 else x) := by
  simp [clampV, pickLeast, pickMost]
theorem clamp_blend (x0 y0 x1 y1 x : Int) (h : x0 < x1) : blendIn x0 y0 x1 y1 x = y0 + nq ((y1 - y0) * (clampV x0 x1 x - x0)) (x1 - x0) := by
  rw [clamp_eq]
  unfold blendIn
  by_cases c1 : x ≤ x0
  · rw [if_pos (.inr c1)]
    have e : (if x1 < (if x < x0 then x0 else x) then x1 else (if x < x0 then x0 else x)) = x0 := by
      split <;> (try split) <;> (try split at *) <;> omega
    rw [e, Int.sub_self, Int.mul_zero, nq_nil _ (by omega)]; omega
  · rw [if_neg (by omega)]
    by_cases c3 : x1 ≤ x
    · have e : (if x1 < (if x < x0 then x0 else x) then x1 else (if x < x0 then x0 else x)) = x1 := by
        split <;> (try split) <;> (try split at *) <;> omega
      rw [if_pos c3, e, nq_self _ _ (by omega)]; omega
    · have e : (if x1 < (if x < x0 then x0 else x) then x1 else (if x < x0 then x0 else x)) = x := by
        split <;> (try split) <;> (try split at *) <;> omega
      rw [if_neg c3, e]
theorem clamp_bd (x0 x1 x : Int) (h : x0 < x1) : x0 ≤ clampV x0 x1 x ∧ clampV x0 x1 x ≤ x1 := by
  rw [clamp_eq]
  split <;> (try split) <;> (try split at *) <;> omega
end Go.Proofs.Ytfficiomggmmcaa
