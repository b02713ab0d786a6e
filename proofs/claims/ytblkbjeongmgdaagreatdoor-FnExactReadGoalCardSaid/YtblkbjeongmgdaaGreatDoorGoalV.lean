/- Validity of goals, by both programs. -/
import Derived.Test.YtblkbjeongmgdaaGreatDoorGoal
import Derived.Test.YtblkbjeongmgdaaGreatDoorSndValid
import Derived.Test.YtblkbjeongmgdaaGreatDoorSndSpec
set_option linter.unusedVariables false
namespace Go.Proofs.YtblkbjeongmgdaaGreatDoor
open Go.ChangeShapes Go.WideShapes Go.ChangeAt Go.RowKit

def goalB (a b c e f t q : Int) : Bool := sndB a b c e f && (inB t 0 20000 && inB q 0 20)
theorem goal_no1 {a b c e f t q : Int} (h : sndB a b c e f = false) : goalB a b c e f t q = false := by unfold goalB; rw [h]; rfl
theorem goal_no2 {a b c e f t q : Int} (h : inB t 0 20000 = false) : goalB a b c e f t q = false := by unfold goalB; rw [h]; simp
theorem goal_end {a b c e f t q : Int} (h : sndB a b c e f = true) (h2 : inB t 0 20000 = true) : goalB a b c e f t q = inB q 0 20 := by unfold goalB; rw [h, h2]; simp
theorem all_oneG (x lo hi : Int) : allIn lo hi [x] = inB x lo hi := by simp [allIn]
set_option maxHeartbeats 1000000 in
theorem l10Goal_any (g : Nat) (a b c e f t q : Int) (w : World) (h : Seven w g a b c e f t q) :
    Calls Tryz.prog 10 #[.pointer (some ⟨g, 0, none⟩)] w fun en w' => en = .returned (.bool (goalB a b c e f t q)) ∧ Below w.heap.size w w' := by
  have hg := five_lt h.1
  obtain ⟨⟨g0, g1, g2, g3, g4⟩, g5, g6⟩ := h
  have HOK := Lib.hid (l04Ok_any g a b c e f w g0 g1 g2 g3 g4)
  clear g0 g1 g2 g3 g4
  rcases Bool.eq_false_or_eq_true (sndB a b c e f) with h1 | h1
  · rcases Bool.eq_false_or_eq_true (inB t 0 20000) with h2 | h2
    · have HR := Lib.hid (goal_end (q := q) h1 h2)
      go_enter Tryz.func10, Tryz.ntmps10
      go_wp2_with fail
      refine HOK.out.mono ?_
      rintro en w1 ⟨rfl, hb⟩
      rw [h1]
      have k5 := (below_cell hb _ _ hg).trans g5
      have k6 := (below_cell hb _ _ hg).trans g6
      have HB := Lib.hid hb
      clear hb g5 g6
      go_wp2_with fail
      refine (l00In_any t 0 20000 _).mono ?_
      rintro en w2 ⟨rfl, rfl⟩
      rw [h2]
      go_wp2_with fail
      refine (l00In_any q 0 20 _).mono ?_
      rintro en w2 ⟨rfl, rfl⟩
      go_wp2
      go_ret
      exact ⟨ret_bool HR.out.symm, HB.out⟩
    · have HR := Lib.hid (goal_no2 (a := a) (b := b) (c := c) (e := e) (f := f) (q := q) h2)
      go_enter Tryz.func10, Tryz.ntmps10
      go_wp2_with fail
      refine HOK.out.mono ?_
      rintro en w1 ⟨rfl, hb⟩
      rw [h1]
      have k5 := (below_cell hb _ _ hg).trans g5
      have HB := Lib.hid hb
      clear hb g5 g6
      go_wp2_with fail
      refine (l00In_any t 0 20000 _).mono ?_
      rintro en w2 ⟨rfl, rfl⟩
      rw [h2]
      go_wp2
      go_ret
      exact ⟨ret_bool HR.out.symm, HB.out⟩
  · have HR := Lib.hid (goal_no1 (t := t) (q := q) h1)
    go_enter Tryz.func10, Tryz.ntmps10
    go_wp2_with fail
    refine HOK.out.mono ?_
    rintro en w1 ⟨rfl, hb⟩
    rw [h1]
    have HB := Lib.hid hb
    clear hb g5 g6
    go_wp2
    go_ret
    exact ⟨ret_bool HR.out.symm, HB.out⟩
set_option maxHeartbeats 1000000 in
theorem implVG_any (a b c e f t q : Int) (w : World) :
    Calls Tryz.prog 15 #[.agg #[.int .i64 a, .int .i64 b, .int .i64 c, .int .i64 e, .int .i64 f, .int .i64 t, .int .i64 q]] w fun en w' => en = .returned (.bool (goalB a b c e f t q)) ∧ Below w.heap.size w w' := by
  have HV := Lib.hid (fun w => implValid_any a b c e f w)
  have g5 : (w.alloc (.cells #[.int .i64 a, .int .i64 b, .int .i64 c, .int .i64 e, .int .i64 f, .int .i64 t, .int .i64 q] 25)).cell? ⟨w.heap.size, 5, none⟩ = some (.int .i64 t) := by go_simp
  have g6 : (w.alloc (.cells #[.int .i64 a, .int .i64 b, .int .i64 c, .int .i64 e, .int .i64 f, .int .i64 t, .int .i64 q] 25)).cell? ⟨w.heap.size, 6, none⟩ = some (.int .i64 q) := by go_simp
  have hba := below_alG w (.cells #[.int .i64 a, .int .i64 b, .int .i64 c, .int .i64 e, .int .i64 f, .int .i64 t, .int .i64 q] 25)
  have hl := alloc_ltG w (.cells #[.int .i64 a, .int .i64 b, .int .i64 c, .int .i64 e, .int .i64 f, .int .i64 t, .int .i64 q] 25)
  have HBA := Lib.hid hba
  clear hba
  have HT := Lib.hid (all_oneG t 0 20000)
  have HQ := Lib.hid (all_oneG q 0 20)
  rcases Bool.eq_false_or_eq_true (sndB a b c e f) with h1 | h1
  · rcases Bool.eq_false_or_eq_true (inB t 0 20000) with h2 | h2
    · have HR := Lib.hid (goal_end (q := q) h1 h2)
      go_enter Tryz.func15, Tryz.ntmps15
      go_wp2_with fail
      generalize w.alloc (.cells #[.int .i64 a, .int .i64 b, .int .i64 c, .int .i64 e, .int .i64 f, .int .i64 t, .int .i64 q] 25) = wA at *
      refine (HV.out _).mono ?_
      rintro en w1 ⟨rfl, hb⟩
      rw [h1]
      have k5 := (below_cell hb _ _ hl).trans g5
      have k6 := (below_cell hb _ _ hl).trans g6
      have hl1 := Nat.lt_of_lt_of_le hl hb.size
      have HB := Lib.hid (below_of HBA.out hb HBA.out.size)
      clear hb g5 g6
      go_wp2_with fail
      refine (within_i64 _ _ [t] _ 0 1 1 _ rfl (by omega) (cell_intG _ _ _ _ (by simp))).mono ?_
      rintro e w2 ⟨rfl, rfl⟩
      rw [HT.out, h2]
      have hal := below_alG w1 (.cells #[.int .i64 t] 2)
      have j6 := (below_cell hal _ _ hl1).trans k6
      have HB2 := Lib.hid (below_of HB.out hal HB.out.size)
      clear hal k5 k6
      generalize w1.alloc (.cells #[.int .i64 t] 2) = w3 at *
      go_wp2_with fail
      refine (within_i64 _ _ [q] _ 0 1 1 _ rfl (by omega) (cell_intG _ _ _ _ (by simp))).mono ?_
      rintro e w4 ⟨rfl, rfl⟩
      rw [HQ.out]
      have HB3 := Lib.hid (below_of HB2.out (below_alG w3 (.cells #[.int .i64 q] 2)) HB2.out.size)
      go_wp2
      go_ret
      exact ⟨ret_bool HR.out.symm, HB3.out⟩
    · have HR := Lib.hid (goal_no2 (a := a) (b := b) (c := c) (e := e) (f := f) (q := q) h2)
      go_enter Tryz.func15, Tryz.ntmps15
      go_wp2_with fail
      generalize w.alloc (.cells #[.int .i64 a, .int .i64 b, .int .i64 c, .int .i64 e, .int .i64 f, .int .i64 t, .int .i64 q] 25) = wA at *
      refine (HV.out _).mono ?_
      rintro en w1 ⟨rfl, hb⟩
      rw [h1]
      have k5 := (below_cell hb _ _ hl).trans g5
      have HB := Lib.hid (below_of HBA.out hb HBA.out.size)
      clear hb g5 g6
      go_wp2_with fail
      refine (within_i64 _ _ [t] _ 0 1 1 _ rfl (by omega) (cell_intG _ _ _ _ (by simp))).mono ?_
      rintro e w2 ⟨rfl, rfl⟩
      rw [HT.out, h2]
      have HB2 := Lib.hid (below_of HB.out (below_alG w1 (.cells #[.int .i64 t] 2)) HB.out.size)
      go_wp2
      go_ret
      exact ⟨ret_bool HR.out.symm, HB2.out⟩
  · have HR := Lib.hid (goal_no1 (t := t) (q := q) h1)
    go_enter Tryz.func15, Tryz.ntmps15
    go_wp2_with fail
    refine (HV.out _).mono ?_
    rintro en w1 ⟨rfl, hb⟩
    rw [h1]
    have HB := Lib.hid (below_of HBA.out hb HBA.out.size)
    clear hb g5 g6
    go_wp2
    go_ret
    exact ⟨ret_bool HR.out.symm, HB.out⟩
end Go.Proofs.YtblkbjeongmgdaaGreatDoor
