/- Intervals, beats and ratios: the reference model's answers; and the program's ratios. -/
import Derived.Test.YtpfpdhgdeaoemaaBeats
namespace Go.Proofs.Ytpfpdhgdeaoemaa
open Go.ChangeShapes Go.WideShapes Go.ChangeAt Go.RowKit

theorem specCentsBetween_any (f g : Int) (w : World) :
    Calls Try.prog 27 #[.int .i64 f, .int .i64 g] w fun e w' => e = .returned (.tuple #[.int .i64 (centsR f g), .int .i64 (codeOf (ok2 f g))]) ∧ w = w' := by
  by_cases h1 : okF f = true
  · by_cases h2 : okF g = true
    · have h : ok2 f g = true := by unfold ok2; rw [h1, h2]; rfl
      have H1 := Lib.hid (show centsR f g = logV g - logV f by unfold centsR; rw [if_pos h])
      have H2 := Lib.hid (show codeOf (ok2 f g) = 0 by unfold codeOf; rw [if_pos h])
      obtain ⟨⟨b0, b1⟩, b2, b3⟩ := ok2_iff.1 h
      clear h
      go_enter Try.func27, Try.ntmps27
      go_wp2_with (first | (go_at_call 42; refine (l02Ok_any _ _).mono ?_; rintro e w' ⟨rfl, rfl⟩) | (go_at_call 47; refine (l02Between_any f g _ (by omega) (by omega) (by omega) (by omega)).mono ?_; rintro e w' ⟨rfl, rfl⟩))
      go_ret2
      exact ⟨ret_two H1.out.symm H2.out.symm, rfl⟩
    · have h : ¬ ok2 f g = true := by unfold ok2; rw [h1]; simpa using h2
      have H1 := Lib.hid (show centsR f g = 0 by unfold centsR; rw [if_neg h])
      have H2 := Lib.hid (show codeOf (ok2 f g) = 2 by unfold codeOf; rw [if_neg h])
      have h2' : okF g = false := by simpa using h2
      clear h h2
      go_enter Try.func27, Try.ntmps27
      go_wp2_with (go_at_call 42; refine (l02Ok_any _ _).mono ?_; rintro e w' ⟨rfl, rfl⟩)
      go_ret2
      exact ⟨ret_two H1.out.symm H2.out.symm, rfl⟩
  · have h1' : okF f = false := by simpa using h1
    have h : ¬ ok2 f g = true := by unfold ok2; rw [h1']; simp
    have H1 := Lib.hid (show centsR f g = 0 by unfold centsR; rw [if_neg h])
    have H2 := Lib.hid (show codeOf (ok2 f g) = 2 by unfold codeOf; rw [if_neg h])
    clear h h1
    go_enter Try.func27, Try.ntmps27
    go_wp2_with (go_at_call 42; refine (l02Ok_any _ _).mono ?_; rintro e w' ⟨rfl, rfl⟩)
    go_ret2
    exact ⟨ret_two H1.out.symm H2.out.symm, rfl⟩
theorem specBeat_any (f g : Int) (w : World) :
    Calls Try.prog 30 #[.int .i64 f, .int .i64 g] w fun e w' => e = .returned (.tuple #[.int .i64 (beatR f g), .int .i64 (codeOf (ok2 f g))]) ∧ w = w' := by
  by_cases h1 : okF f = true
  · by_cases h2 : okF g = true
    · have h : ok2 f g = true := by unfold ok2; rw [h1, h2]; rfl
      have H1 := Lib.hid (show beatR f g = aptV f g by unfold beatR; rw [if_pos h])
      have H2 := Lib.hid (show codeOf (ok2 f g) = 0 by unfold codeOf; rw [if_pos h])
      obtain ⟨⟨b0, b1⟩, b2, b3⟩ := ok2_iff.1 h
      clear h
      go_enter Try.func30, Try.ntmps30
      go_wp2_with (first | (go_at_call 42; refine (l02Ok_any _ _).mono ?_; rintro e w' ⟨rfl, rfl⟩) | (go_at_call 50; refine (l02Beat_any f g _ (by omega) (by omega)).mono ?_; rintro e w' ⟨rfl, rfl⟩))
      go_ret2
      exact ⟨ret_two H1.out.symm H2.out.symm, rfl⟩
    · have h : ¬ ok2 f g = true := by unfold ok2; rw [h1]; simpa using h2
      have H1 := Lib.hid (show beatR f g = 0 by unfold beatR; rw [if_neg h])
      have H2 := Lib.hid (show codeOf (ok2 f g) = 2 by unfold codeOf; rw [if_neg h])
      have h2' : okF g = false := by simpa using h2
      clear h h2
      go_enter Try.func30, Try.ntmps30
      go_wp2_with (go_at_call 42; refine (l02Ok_any _ _).mono ?_; rintro e w' ⟨rfl, rfl⟩)
      go_ret2
      exact ⟨ret_two H1.out.symm H2.out.symm, rfl⟩
  · have h1' : okF f = false := by simpa using h1
    have h : ¬ ok2 f g = true := by unfold ok2; rw [h1']; simp
    have H1 := Lib.hid (show beatR f g = 0 by unfold beatR; rw [if_neg h])
    have H2 := Lib.hid (show codeOf (ok2 f g) = 2 by unfold codeOf; rw [if_neg h])
    clear h h1
    go_enter Try.func30, Try.ntmps30
    go_wp2_with (go_at_call 42; refine (l02Ok_any _ _).mono ?_; rintro e w' ⟨rfl, rfl⟩)
    go_ret2
    exact ⟨ret_two H1.out.symm H2.out.symm, rfl⟩
theorem specBeatTime_any (f g : Int) (w : World) :
    Calls Try.prog 31 #[.int .i64 f, .int .i64 g] w fun e w' => e = .returned (.tuple #[.int .i64 (timeR f g), .int .i64 (timeC f g)]) ∧ w = w' := by
  by_cases h1 : okF f = true
  · by_cases h2 : okF g = true
    · have h : ok2 f g = true := by unfold ok2; rw [h1, h2]; rfl
      obtain ⟨⟨b0, b1⟩, b2, b3⟩ := ok2_iff.1 h
      by_cases he : f = g
      · have H1 := Lib.hid (show timeR f g = 0 by unfold timeR; rw [if_neg (fun h => h.2 he)])
        have H2 := Lib.hid (show timeC f g = 6 by unfold timeC; rw [if_pos h, if_pos he])
        have hq : (f == g) = true := beq_iff_eq.2 he
        clear h he
        go_enter Try.func31, Try.ntmps31
        go_wp2_with (go_at_call 42; refine (l02Ok_any _ _).mono ?_; rintro e w' ⟨rfl, rfl⟩)
        go_ret2
        exact ⟨ret_two H1.out.symm H2.out.symm, rfl⟩
      · have H1 := Lib.hid (show timeR f g = nq 1000000 (aptV f g) by unfold timeR; rw [if_pos ⟨h, he⟩])
        have H2 := Lib.hid (show timeC f g = 0 by unfold timeC; rw [if_pos h, if_neg he])
        have hq : (f == g) = false := beq_eq_false_iff_ne.2 he
        obtain ⟨c0, c1, -⟩ := apt_bd f g
        have c2 := apt_le (show 0 ≤ f by omega) b1 (show 0 ≤ g by omega) b3
        have HZ : Hid (aptV f g ≠ 0) := Lib.hid (fun e => he (c1.1 e))
        clear h he c1
        go_enter Try.func31, Try.ntmps31
        go_wp2_with (first | (go_at_call 42; refine (l02Ok_any _ _).mono ?_; rintro e w' ⟨rfl, rfl⟩) | (go_at_call 50; refine (l02Beat_any f g _ (by omega) (by omega)).mono ?_; rintro e w' ⟨rfl, rfl⟩) | (go_at_call 48; refine (specDiv_any 1000000 (aptV f g) _ HZ.out (by omega) (by omega)).mono ?_; rintro e w' ⟨rfl, rfl⟩))
        go_ret2
        exact ⟨ret_two H1.out.symm H2.out.symm, rfl⟩
    · have h : ¬ ok2 f g = true := by unfold ok2; rw [h1]; simpa using h2
      have H1 := Lib.hid (show timeR f g = 0 by unfold timeR; rw [if_neg (fun g => h g.1)])
      have H2 := Lib.hid (show timeC f g = 2 by unfold timeC; rw [if_neg h])
      have h2' : okF g = false := by simpa using h2
      clear h h2
      go_enter Try.func31, Try.ntmps31
      go_wp2_with (go_at_call 42; refine (l02Ok_any _ _).mono ?_; rintro e w' ⟨rfl, rfl⟩)
      go_ret2
      exact ⟨ret_two H1.out.symm H2.out.symm, rfl⟩
  · have h1' : okF f = false := by simpa using h1
    have h : ¬ ok2 f g = true := by unfold ok2; rw [h1']; simp
    have H1 := Lib.hid (show timeR f g = 0 by unfold timeR; rw [if_neg (fun g => h g.1)])
    have H2 := Lib.hid (show timeC f g = 2 by unfold timeC; rw [if_neg h])
    clear h h1
    go_enter Try.func31, Try.ntmps31
    go_wp2_with (go_at_call 42; refine (l02Ok_any _ _).mono ?_; rintro e w' ⟨rfl, rfl⟩)
    go_ret2
    exact ⟨ret_two H1.out.symm H2.out.symm, rfl⟩

/-- Is there a frequency with this ratio? -/
def inR (n : Int) : Bool := inB n 1 1000
def rtOk (f num den : Int) : Bool := okF f && (inR num && inR den) && okF (nq (f * num) den)
def rtR (f num den : Int) : Int := if rtOk f num den = true then nq (f * num) den else 0
theorem rt_bd {f num den : Int} (h1 : okF f = true) (h2 : inR num = true) (h3 : inR den = true) : 10000 ≤ f * num ∧ f * num ≤ 20000000000 ∧ 1 ≤ den ∧ den ≤ 1000 ∧ -20000000001 ≤ nq (f * num) den ∧ nq (f * num) den ≤ 20000000001 := by
  obtain ⟨b0, b1⟩ := okF_iff.1 h1
  obtain ⟨c0, c1⟩ := inB_iff.1 h2
  obtain ⟨d0, d1⟩ := inB_iff.1 h3
  have m1 : f * 1 ≤ f * num := Int.mul_le_mul_of_nonneg_left c0 (by omega)
  have m2 : f * num ≤ 20000000 * num := Int.mul_le_mul_of_nonneg_right b1 (by omega)
  have := nq_bd (f * num) den (by omega)
  omega
theorem rt_no1 {f num den : Int} (h : okF f = false) : rtOk f num den = false := by unfold rtOk; rw [h]; rfl
theorem rt_no2 {f num den : Int} (h : inR num = false) : rtOk f num den = false := by unfold rtOk; rw [h]; simp
theorem rt_no3 {f num den : Int} (h : inR den = false) : rtOk f num den = false := by unfold rtOk; rw [h]; simp
theorem rt_yes {f num den : Int} (h1 : okF f = true) (h2 : inR num = true) (h3 : inR den = true) : rtOk f num den = okF (nq (f * num) den) := by unfold rtOk; rw [h1, h2, h3]; rfl
theorem rtR_no {f num den : Int} (h : rtOk f num den = false) : rtR f num den = 0 ∧ codeOf (rtOk f num den) = 2 := by unfold rtR codeOf; rw [h]; exact ⟨rfl, rfl⟩
theorem rtR_yes {f num den : Int} (h : rtOk f num den = true) : rtR f num den = nq (f * num) den ∧ codeOf (rtOk f num den) = 0 := by unfold rtR codeOf; rw [h]; exact ⟨rfl, rfl⟩
theorem bool_cases (b : Bool) : b = true ∨ b = false := by cases b <;> simp

set_option maxHeartbeats 1000000 in
theorem specRatio_any (f num den : Int) (w : World) :
    Calls Try.prog 28 #[.int .i64 f, .int .i64 num, .int .i64 den] w fun e w' => e = .returned (.tuple #[.int .i64 (rtR f num den), .int .i64 (codeOf (rtOk f num den))]) ∧ w = w' := by
  rcases bool_cases (okF f) with h1 | h1
  · rcases bool_cases (inR num) with h2 | h2
    · rcases bool_cases (inR den) with h3 | h3
      · obtain ⟨m0, m1, d0, d1, q0, q1⟩ := rt_bd h1 h2 h3
        have HY := Lib.hid (rt_yes h1 h2 h3)
        unfold inR at h2 h3
        rcases bool_cases (okF (nq (f * num) den)) with h4 | h4
        · obtain ⟨r1, r2⟩ := rtR_yes (HY.out.trans h4)
          have R1 := Lib.hid r1
          have R2 := Lib.hid r2
          clear r1 r2 HY
          go_enter Try.func28, Try.ntmps28
          go_wp2_with (first | (go_at_call 42; refine (l02Ok_any _ _).mono ?_; rintro e w' ⟨rfl, rfl⟩) | (go_at_call 43; refine (l00In_any _ _ _ _).mono ?_; rintro e w' ⟨rfl, rfl⟩) | (go_at_call 48; refine (specDiv_any (f * num) den _ (by omega) (by omega) (by omega)).mono ?_; rintro e w' ⟨rfl, rfl⟩))
          go_ret2
          exact ⟨ret_two R1.out.symm R2.out.symm, rfl⟩
        · obtain ⟨r1, r2⟩ := rtR_no (HY.out.trans h4)
          have R1 := Lib.hid r1
          have R2 := Lib.hid r2
          clear r1 r2 HY
          go_enter Try.func28, Try.ntmps28
          go_wp2_with (first | (go_at_call 42; refine (l02Ok_any _ _).mono ?_; rintro e w' ⟨rfl, rfl⟩) | (go_at_call 43; refine (l00In_any _ _ _ _).mono ?_; rintro e w' ⟨rfl, rfl⟩) | (go_at_call 48; refine (specDiv_any (f * num) den _ (by omega) (by omega) (by omega)).mono ?_; rintro e w' ⟨rfl, rfl⟩))
          go_ret2
          exact ⟨ret_two R1.out.symm R2.out.symm, rfl⟩
      · obtain ⟨r1, r2⟩ := rtR_no (rt_no3 (f := f) (num := num) h3)
        have R1 := Lib.hid r1
        have R2 := Lib.hid r2
        clear r1 r2
        unfold inR at h2 h3
        go_enter Try.func28, Try.ntmps28
        go_wp2_with (first | (go_at_call 42; refine (l02Ok_any _ _).mono ?_; rintro e w' ⟨rfl, rfl⟩) | (go_at_call 43; refine (l00In_any _ _ _ _).mono ?_; rintro e w' ⟨rfl, rfl⟩))
        go_ret2
        exact ⟨ret_two R1.out.symm R2.out.symm, rfl⟩
    · obtain ⟨r1, r2⟩ := rtR_no (rt_no2 (f := f) (den := den) h2)
      have R1 := Lib.hid r1
      have R2 := Lib.hid r2
      clear r1 r2
      unfold inR at h2
      go_enter Try.func28, Try.ntmps28
      go_wp2_with (first | (go_at_call 42; refine (l02Ok_any _ _).mono ?_; rintro e w' ⟨rfl, rfl⟩) | (go_at_call 43; refine (l00In_any _ _ _ _).mono ?_; rintro e w' ⟨rfl, rfl⟩))
      go_ret2
      exact ⟨ret_two R1.out.symm R2.out.symm, rfl⟩
  · obtain ⟨r1, r2⟩ := rtR_no (rt_no1 (num := num) (den := den) h1)
    have R1 := Lib.hid r1
    have R2 := Lib.hid r2
    clear r1 r2
    go_enter Try.func28, Try.ntmps28
    go_wp2_with (first | (go_at_call 42; refine (l02Ok_any _ _).mono ?_; rintro e w' ⟨rfl, rfl⟩) | (go_at_call 43; refine (l00In_any _ _ _ _).mono ?_; rintro e w' ⟨rfl, rfl⟩))
    go_ret2
    exact ⟨ret_two R1.out.symm R2.out.symm, rfl⟩

theorem cellN2 (w : World) (x y : Int) (T : TypeId) (n : Nat) (hn : n = w.heap.size) : ∀ j, j < 2 → (w.alloc (.cells #[.int .i64 x, .int .i64 y] T)).cell? ⟨n, 0 + j, none⟩ = some (.int .i64 ([x, y].getD j 0)) := by
  subst hn
  exact cellF2 w x y T
set_option maxHeartbeats 1000000 in
theorem implRatio_any (f num den : Int) (w : World) :
    Calls Try.prog 29 #[.int .i64 f, .int .i64 num, .int .i64 den] w fun e w' => e = .returned (.tuple #[.int .i64 (rtR f num den), .int .i64 (codeOf (rtOk f num den))]) ∧ Below w.heap.size w w' := by
  rcases bool_cases (okF f) with h1 | h1
  · rcases bool_cases (inR num && inR den) with h2 | h2
    · rw [Bool.and_eq_true] at h2
      obtain ⟨h2, h3⟩ := h2
      obtain ⟨m0, m1, d0, d1, q0, q1⟩ := rt_bd h1 h2 h3
      have HY := Lib.hid (rt_yes h1 h2 h3)
      have HA := Lib.hid ((all2 1 1000 num den).trans (show (inB num 1 1000 && inB den 1 1000) = true by unfold inR at h2 h3; rw [h2, h3]; rfl))
      clear h2 h3
      rcases bool_cases (okF (nq (f * num) den)) with h4 | h4
      · obtain ⟨r1, r2⟩ := rtR_yes (HY.out.trans h4)
        have R1 := Lib.hid r1
        have R2 := Lib.hid r2
        clear r1 r2 HY
        go_enter Try.func29, Try.ntmps29
        go_wp2_with fail
        refine (implIsFrequency_any f _).mono ?_
        rintro e w1 ⟨rfl, hb⟩
        rw [h1]
        have HB1 := Lib.hid hb
        clear hb
        go_wp2_with fail
        refine (within_i64 _ _ [num, den] _ 0 2 2 _ rfl (by omega) (cellN2 _ _ _ _ _ (by simp))).mono ?_
        rintro e w' ⟨rfl, rfl⟩
        rw [HA.out]
        go_wp2_with fail
        refine (nearest_any (f * num) den _ (by omega) (by omega)).mono ?_
        rintro e w2 ⟨rfl, hb⟩
        have HB2 := Lib.hid (below_of (HB1.out.alloc HB1.out.size _) hb (by have := HB1.out.size; simp; omega))
        clear hb
        generalize nq (f * num) den = q at *
        go_wp2_with fail
        refine (implIsFrequency_any q _).mono ?_
        rintro e w3 ⟨rfl, hb⟩
        have HB3 := Lib.hid (below_of HB2.out hb HB2.out.size)
        clear hb
        rw [h4]
        go_wp2
        go_ret2
        exact ⟨ret_two R1.out.symm R2.out.symm, HB3.out⟩
      · obtain ⟨r1, r2⟩ := rtR_no (HY.out.trans h4)
        have R1 := Lib.hid r1
        have R2 := Lib.hid r2
        clear r1 r2 HY
        go_enter Try.func29, Try.ntmps29
        go_wp2_with fail
        refine (implIsFrequency_any f _).mono ?_
        rintro e w1 ⟨rfl, hb⟩
        rw [h1]
        have HB1 := Lib.hid hb
        clear hb
        go_wp2_with fail
        refine (within_i64 _ _ [num, den] _ 0 2 2 _ rfl (by omega) (cellN2 _ _ _ _ _ (by simp))).mono ?_
        rintro e w' ⟨rfl, rfl⟩
        rw [HA.out]
        go_wp2_with fail
        refine (nearest_any (f * num) den _ (by omega) (by omega)).mono ?_
        rintro e w2 ⟨rfl, hb⟩
        have HB2 := Lib.hid (below_of (HB1.out.alloc HB1.out.size _) hb (by have := HB1.out.size; simp; omega))
        clear hb
        generalize nq (f * num) den = q at *
        go_wp2_with fail
        refine (implIsFrequency_any q _).mono ?_
        rintro e w3 ⟨rfl, hb⟩
        have HB3 := Lib.hid (below_of HB2.out hb HB2.out.size)
        clear hb
        rw [h4]
        go_wp2
        go_ret2
        exact ⟨ret_two R1.out.symm R2.out.symm, HB3.out⟩
    · have HA := Lib.hid ((all2 1 1000 num den).trans h2)
      obtain ⟨r1, r2⟩ := rtR_no (show rtOk f num den = false by unfold rtOk; rw [h2]; simp)
      have R1 := Lib.hid r1
      have R2 := Lib.hid r2
      clear r1 r2 h2
      go_enter Try.func29, Try.ntmps29
      go_wp2_with fail
      refine (implIsFrequency_any f _).mono ?_
      rintro e w1 ⟨rfl, hb⟩
      rw [h1]
      have HB1 := Lib.hid hb
      clear hb
      go_wp2_with fail
      refine (within_i64 _ _ [num, den] _ 0 2 2 _ rfl (by omega) (cellN2 _ _ _ _ _ (by simp))).mono ?_
      rintro e w' ⟨rfl, rfl⟩
      rw [HA.out]
      go_wp2
      go_ret2
      exact ⟨ret_two R1.out.symm R2.out.symm, HB1.out.alloc HB1.out.size _⟩
  · obtain ⟨r1, r2⟩ := rtR_no (rt_no1 (num := num) (den := den) h1)
    have R1 := Lib.hid r1
    have R2 := Lib.hid r2
    clear r1 r2
    go_enter Try.func29, Try.ntmps29
    go_wp2_with fail
    refine (implIsFrequency_any f _).mono ?_
    rintro e w1 ⟨rfl, hb⟩
    rw [h1]
    have HB1 := Lib.hid hb
    clear hb
    go_wp2
    go_ret2
    exact ⟨ret_two R1.out.symm R2.out.symm, HB1.out⟩
end Go.Proofs.Ytpfpdhgdeaoemaa
