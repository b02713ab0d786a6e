/- Demands: when they are valid, both programs' answers. -/
import Derived.Test.YtikoehjalcljnaaIngI
set_option linter.unusedVariables false
namespace Go.Proofs.Ytikoehjalcljnaa
open Go.ChangeShapes Go.WideShapes Go.ChangeAt Go.RowKit

def demB (a b c e f : Int) : Bool := inB a 1 b && (decide (b ≤ 320000000) && (inB c 0 e && (decide (e ≤ 1000000) && inB f 0 1000000)))
theorem dem_iff {a b c e f : Int} : demB a b c e f = true ↔ (1 ≤ a ∧ a ≤ b) ∧ b ≤ 320000000 ∧ (0 ≤ c ∧ c ≤ e) ∧ e ≤ 1000000 ∧ 0 ≤ f ∧ f ≤ 1000000 := by simp [demB, inB_iff]
set_option maxHeartbeats 4000000 in
theorem l13Demand_any (p : Nat) (a b c e f : Int) (w : World) (c0 : w.cell? ⟨p, 0, none⟩ = some (.int .i64 a)) (c1 : w.cell? ⟨p, 1, none⟩ = some (.int .i64 b)) (c2 : w.cell? ⟨p, 2, none⟩ = some (.int .i64 c)) (c3 : w.cell? ⟨p, 3, none⟩ = some (.int .i64 e)) (c4 : w.cell? ⟨p, 4, none⟩ = some (.int .i64 f)) :
    Calls Try.prog 56 #[.pointer (some ⟨p, 0, none⟩)] w fun en w' => en = .returned (.bool (demB a b c e f)) ∧ ∃ m, w' = w.drewN m := by
  rcases Bool.eq_false_or_eq_true (inB a 1 b) with hd0 | hd0
  · have H0 := Lib.hid hd0
    by_cases h1 : b ≤ 320000000
    · have hd1 : decide (b ≤ 320000000) = true := decide_eq_true h1
      rcases Bool.eq_false_or_eq_true (inB c 0 e) with hd2 | hd2
      · have H2 := Lib.hid hd2
        by_cases h3 : e ≤ 1000000
        · have hd3 : decide (e ≤ 1000000) = true := decide_eq_true h3
          rcases Bool.eq_false_or_eq_true (inB f 0 1000000) with hd4 | hd4
          · have H4 := Lib.hid hd4
            have HF := Lib.hid (show demB a b c e f = true by unfold demB; rw [hd0, hd1, hd2, hd3, hd4]; rfl)
            clear hd0 hd2 hd4
            go_enter Try.func56, Try.ntmps56
            go_wp2
            go_quiet ((go_at_call 67; first | exact inq_is H0.out | exact inq_is H2.out | exact inq_is H4.out))
            go_wp2
            go_ret
            exact ⟨retG_b HF.out.symm, _, by first | rfl | rw [World.drewN_drewN]⟩
          · have H4 := Lib.hid hd4
            have HF := Lib.hid (show demB a b c e f = false by unfold demB; rw [hd0, hd1, hd2, hd3, hd4]; rfl)
            clear hd0 hd2 hd4
            go_enter Try.func56, Try.ntmps56
            go_wp2
            go_quiet ((go_at_call 67; first | exact inq_is H0.out | exact inq_is H2.out | exact inq_is H4.out))
            go_wp2
            go_ret
            exact ⟨retG_b HF.out.symm, _, by first | rfl | rw [World.drewN_drewN]⟩
        · have hd3 : decide (e ≤ 1000000) = false := decide_eq_false h3
          have HF := Lib.hid (show demB a b c e f = false by unfold demB; rw [hd0, hd1, hd2, hd3]; rfl)
          clear hd0 hd2
          go_enter Try.func56, Try.ntmps56
          go_wp2
          go_quiet ((go_at_call 67; first | exact inq_is H0.out | exact inq_is H2.out))
          go_wp2
          go_ret
          exact ⟨retG_b HF.out.symm, _, by first | rfl | rw [World.drewN_drewN]⟩
      · have H2 := Lib.hid hd2
        have HF := Lib.hid (show demB a b c e f = false by unfold demB; rw [hd0, hd1, hd2]; rfl)
        clear hd0 hd2
        go_enter Try.func56, Try.ntmps56
        go_wp2
        go_quiet ((go_at_call 67; first | exact inq_is H0.out | exact inq_is H2.out))
        go_wp2
        go_ret
        exact ⟨retG_b HF.out.symm, _, by first | rfl | rw [World.drewN_drewN]⟩
    · have hd1 : decide (b ≤ 320000000) = false := decide_eq_false h1
      have HF := Lib.hid (show demB a b c e f = false by unfold demB; rw [hd0, hd1]; rfl)
      clear hd0
      go_enter Try.func56, Try.ntmps56
      go_wp2
      go_quiet ((go_at_call 67; first | exact inq_is H0.out))
      go_wp2
      go_ret
      exact ⟨retG_b HF.out.symm, _, by first | rfl | rw [World.drewN_drewN]⟩
  · have H0 := Lib.hid hd0
    have HF := Lib.hid (show demB a b c e f = false by unfold demB; rw [hd0]; rfl)
    clear hd0
    go_enter Try.func56, Try.ntmps56
    go_wp2
    go_quiet ((go_at_call 67; first | exact inq_is H0.out))
    go_wp2
    go_ret
    exact ⟨retG_b HF.out.symm, _, by first | rfl | rw [World.drewN_drewN]⟩
theorem specVD_any (a b c e f : Int) (w : World) :
    Calls Try.prog 27 #[.agg #[.int .i64 a, .int .i64 b, .int .i64 c, .int .i64 e, .int .i64 f]] w fun en w' => en = .returned (.bool (demB a b c e f)) ∧ Below w.heap.size w w' := by
  go_enter Try.func27, Try.ntmps27
  go_wp2_with fail
  refine (l13Demand_any w.heap.size a b c e f _ (by go_simp) (by go_simp) (by go_simp) (by go_simp) (by go_simp)).mono ?_
  rintro en w1 ⟨rfl, m, rfl⟩
  go_wp2
  go_ret
  exact ⟨rfl, below_of ((Below.refl _ _).alloc (Nat.le_refl _) _) (below_drewNG _ _) (by simp)⟩
set_option maxHeartbeats 4000000 in
theorem implVD_any (a b c e f : Int) (w : World) :
    Calls Try.prog 29 #[.agg #[.int .i64 a, .int .i64 b, .int .i64 c, .int .i64 e, .int .i64 f]] w fun en w' => en = .returned (.bool (demB a b c e f)) ∧ Below w.heap.size w w' := by
  rcases Bool.eq_false_or_eq_true (inB a 1 b) with hd0 | hd0
  · have H0 := Lib.hid hd0
    by_cases h1 : b ≤ 320000000
    · have hd1 : decide (b ≤ 320000000) = true := decide_eq_true h1
      rcases Bool.eq_false_or_eq_true (inB c 0 e) with hd2 | hd2
      · have H2 := Lib.hid hd2
        by_cases h3 : e ≤ 1000000
        · have hd3 : decide (e ≤ 1000000) = true := decide_eq_true h3
          rcases Bool.eq_false_or_eq_true (inB f 0 1000000) with hd4 | hd4
          · have H4 := Lib.hid hd4
            have HF := Lib.hid (show demB a b c e f = true by unfold demB; rw [hd0, hd1, hd2, hd3, hd4]; rfl)
            clear hd0 hd2 hd4
            go_enter Try.func29, Try.ntmps29
            go_wp2_with fail
            refine (within_i64 _ _ [a] _ 0 1 1 _ rfl (by omega) (cellI1G _ _ _ _ (by simp))).mono ?_
            rintro en w1 ⟨rfl, rfl⟩
            rw [allI1G, H0.out]
            go_wp2_with fail
            refine (within_i64 _ _ [c] _ 0 1 1 _ rfl (by omega) (cellI1G _ _ _ _ (by simp))).mono ?_
            rintro en w3 ⟨rfl, rfl⟩
            rw [allI1G, H2.out]
            go_wp2_with fail
            refine (within_i64 _ _ [f] _ 0 1 1 _ rfl (by omega) (cellI1G _ _ _ _ (by simp))).mono ?_
            rintro en w5 ⟨rfl, rfl⟩
            rw [allI1G, H4.out]
            go_wp2
            go_ret
            exact ⟨retG_b HF.out.symm, ((((below_alG _ _).alloc (by simp) _).alloc (by simp <;> omega) _).alloc (by simp <;> omega) _)⟩
          · have H4 := Lib.hid hd4
            have HF := Lib.hid (show demB a b c e f = false by unfold demB; rw [hd0, hd1, hd2, hd3, hd4]; rfl)
            clear hd0 hd2 hd4
            go_enter Try.func29, Try.ntmps29
            go_wp2_with fail
            refine (within_i64 _ _ [a] _ 0 1 1 _ rfl (by omega) (cellI1G _ _ _ _ (by simp))).mono ?_
            rintro en w1 ⟨rfl, rfl⟩
            rw [allI1G, H0.out]
            go_wp2_with fail
            refine (within_i64 _ _ [c] _ 0 1 1 _ rfl (by omega) (cellI1G _ _ _ _ (by simp))).mono ?_
            rintro en w3 ⟨rfl, rfl⟩
            rw [allI1G, H2.out]
            go_wp2_with fail
            refine (within_i64 _ _ [f] _ 0 1 1 _ rfl (by omega) (cellI1G _ _ _ _ (by simp))).mono ?_
            rintro en w5 ⟨rfl, rfl⟩
            rw [allI1G, H4.out]
            go_wp2
            go_ret
            exact ⟨retG_b HF.out.symm, ((((below_alG _ _).alloc (by simp) _).alloc (by simp <;> omega) _).alloc (by simp <;> omega) _)⟩
        · have hd3 : decide (e ≤ 1000000) = false := decide_eq_false h3
          have HF := Lib.hid (show demB a b c e f = false by unfold demB; rw [hd0, hd1, hd2, hd3]; rfl)
          clear hd0 hd2
          go_enter Try.func29, Try.ntmps29
          go_wp2_with fail
          refine (within_i64 _ _ [a] _ 0 1 1 _ rfl (by omega) (cellI1G _ _ _ _ (by simp))).mono ?_
          rintro en w1 ⟨rfl, rfl⟩
          rw [allI1G, H0.out]
          go_wp2_with fail
          refine (within_i64 _ _ [c] _ 0 1 1 _ rfl (by omega) (cellI1G _ _ _ _ (by simp))).mono ?_
          rintro en w3 ⟨rfl, rfl⟩
          rw [allI1G, H2.out]
          go_wp2
          go_ret
          exact ⟨retG_b HF.out.symm, (((below_alG _ _).alloc (by simp) _).alloc (by simp <;> omega) _)⟩
      · have H2 := Lib.hid hd2
        have HF := Lib.hid (show demB a b c e f = false by unfold demB; rw [hd0, hd1, hd2]; rfl)
        clear hd0 hd2
        go_enter Try.func29, Try.ntmps29
        go_wp2_with fail
        refine (within_i64 _ _ [a] _ 0 1 1 _ rfl (by omega) (cellI1G _ _ _ _ (by simp))).mono ?_
        rintro en w1 ⟨rfl, rfl⟩
        rw [allI1G, H0.out]
        go_wp2_with fail
        refine (within_i64 _ _ [c] _ 0 1 1 _ rfl (by omega) (cellI1G _ _ _ _ (by simp))).mono ?_
        rintro en w3 ⟨rfl, rfl⟩
        rw [allI1G, H2.out]
        go_wp2
        go_ret
        exact ⟨retG_b HF.out.symm, (((below_alG _ _).alloc (by simp) _).alloc (by simp <;> omega) _)⟩
    · have hd1 : decide (b ≤ 320000000) = false := decide_eq_false h1
      have HF := Lib.hid (show demB a b c e f = false by unfold demB; rw [hd0, hd1]; rfl)
      clear hd0
      go_enter Try.func29, Try.ntmps29
      go_wp2_with fail
      refine (within_i64 _ _ [a] _ 0 1 1 _ rfl (by omega) (cellI1G _ _ _ _ (by simp))).mono ?_
      rintro en w1 ⟨rfl, rfl⟩
      rw [allI1G, H0.out]
      go_wp2
      go_ret
      exact ⟨retG_b HF.out.symm, ((below_alG _ _).alloc (by simp) _)⟩
  · have H0 := Lib.hid hd0
    have HF := Lib.hid (show demB a b c e f = false by unfold demB; rw [hd0]; rfl)
    clear hd0
    go_enter Try.func29, Try.ntmps29
    go_wp2_with fail
    refine (within_i64 _ _ [a] _ 0 1 1 _ rfl (by omega) (cellI1G _ _ _ _ (by simp))).mono ?_
    rintro en w1 ⟨rfl, rfl⟩
    rw [allI1G, H0.out]
    go_wp2
    go_ret
    exact ⟨retG_b HF.out.symm, ((below_alG _ _).alloc (by simp) _)⟩
end Go.Proofs.Ytikoehjalcljnaa
