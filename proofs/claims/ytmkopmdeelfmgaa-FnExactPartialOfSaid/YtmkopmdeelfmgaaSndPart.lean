/- Sounds: one partial, and a changed one: the program's walks, and the reference model's of a changed partial. -/
import Derived.Test.YtmkopmdeelfmgaaSndValid
namespace Go.Proofs.Ytmkopmdeelfmgaa
open Go.ChangeShapes Go.WideShapes Go.ChangeAt Go.RowKit

/-- One of five numbers of an array. -/
theorem index5 (a b c e f : Int) (q : Nat) (hq : q < 5) (w : World) : (Instr.index 50 (.agg #[.int .i64 a, .int .i64 b, .int .i64 c, .int .i64 e, .int .i64 f]) (.int .i64 (q : Int))).run Try.prog w = .ok (.int .i64 ([a, b, c, e, f].getD q 0)) w := by
  have hu := Try.underlying50
  rcases (by omega : q = 0 ∨ q = 1 ∨ q = 2 ∨ q = 3 ∨ q = 4) with rfl | rfl | rfl | rfl | rfl <;> simp [Instr.index, run_underlying hu, asIntOf, go_sem]
theorem isPartial_any (k : Int) (w : World) :
    Calls Try.prog 38 #[.int .i64 k] w fun en w' => en = .returned (.bool (inB k 1 5)) ∧ Below w.heap.size w w' := by
  go_enter Try.func38, Try.ntmps38
  go_wp2_with fail
  refine (within_i64 1 5 [k] w.heap.size 0 1 1 _ rfl (by omega) (one_cell (w := w) k rfl)).mono ?_
  rintro en w1 ⟨rfl, rfl⟩
  go_wp2
  go_ret
  exact ⟨ret_bool (by simp [allIn]), (Below.refl _ _).alloc (Nat.le_refl _) _⟩
set_option maxHeartbeats 1000000 in
theorem implPartial_any (a b c e f k : Int) (w : World) :
    Calls Try.prog 15 #[.agg #[.int .i64 a, .int .i64 b, .int .i64 c, .int .i64 e, .int .i64 f], .int .i64 k] w fun en w' => en = .returned (.tuple #[.int .i64 (ptR a b c e f k), .int .i64 (ptC a b c e f k)]) ∧ Below w.heap.size w w' := by
  rcases Bool.eq_false_or_eq_true (sndB a b c e f) with h0 | h0
  · rcases Bool.eq_false_or_eq_true (inB k 1 5) with h1 | h1
    · have R := Lib.hid (pt_2 (k := k) h0 h1)
      obtain ⟨k0, k1⟩ := inB_iff.1 h1
      obtain ⟨q, rfl⟩ : ∃ q : Nat, k = (q : Int) + 1 := ⟨(k - 1).toNat, by omega⟩
      have hq : q < 5 := by omega
      have HQ := Lib.hid (show ((q : Int) + 1 - 1).toNat = q by omega)
      have hs : ((q : Int) + 1 - 1) = (q : Int) := by omega
      have hx := fun w => index5 a b c e f q hq w
      rw [HQ.out] at R
      generalize [a, b, c, e, f].getD q 0 = r at *
      · skip
        go_enter Try.func15, Try.ntmps15
        go_wp2_with fail
        refine (implValid_any a b c e f _).mono ?_
        rintro en w1 ⟨rfl, hb⟩
        have b0 : w1.cell? ⟨w.heap.size, 0, none⟩ = some (.int .i64 a) := by rw [below_cell hb _ _ (by simp)]; go_simp
        have b1 : w1.cell? ⟨w.heap.size, 1, none⟩ = some (.int .i64 b) := by rw [below_cell hb _ _ (by simp)]; go_simp
        have b2 : w1.cell? ⟨w.heap.size, 2, none⟩ = some (.int .i64 c) := by rw [below_cell hb _ _ (by simp)]; go_simp
        have b3 : w1.cell? ⟨w.heap.size, 3, none⟩ = some (.int .i64 e) := by rw [below_cell hb _ _ (by simp)]; go_simp
        have b4 : w1.cell? ⟨w.heap.size, 4, none⟩ = some (.int .i64 f) := by rw [below_cell hb _ _ (by simp)]; go_simp
        have HB := Lib.hid (below_of ((Below.refl _ _).alloc (Nat.le_refl _) _) hb (by simp))
        have hz : w.heap.size < w1.heap.size := by have := hb.size; simp at this; omega
        clear hb
        rw [h0]
        go_wp2_with fail
        refine (isPartial_any _ _).mono ?_
        rintro en w2 ⟨rfl, hb⟩
        have d0 : w2.cell? ⟨w.heap.size, 0, none⟩ = some (.int .i64 a) := by rw [below_cell hb _ _ hz]; exact b0
        have d1 : w2.cell? ⟨w.heap.size, 1, none⟩ = some (.int .i64 b) := by rw [below_cell hb _ _ hz]; exact b1
        have d2 : w2.cell? ⟨w.heap.size, 2, none⟩ = some (.int .i64 c) := by rw [below_cell hb _ _ hz]; exact b2
        have d3 : w2.cell? ⟨w.heap.size, 3, none⟩ = some (.int .i64 e) := by rw [below_cell hb _ _ hz]; exact b3
        have d4 : w2.cell? ⟨w.heap.size, 4, none⟩ = some (.int .i64 f) := by rw [below_cell hb _ _ hz]; exact b4
        have HB2 := Lib.hid (below_of HB.out hb HB.out.size)
        clear hb b0 b1 b2 b3 b4
        rw [h1]
        go_wp2_with fail
        refine (partialsOf_any a b c e f _).mono ?_
        rintro en w3 ⟨rfl, hb⟩
        have HB3 := Lib.hid (below_of HB2.out hb HB2.out.size)
        clear hb d0 d1 d2 d3 d4
        go_wp2
        go_ret2
        exact ⟨ret_two' R.out.1.symm R.out.2.symm, HB3.out⟩
    · have R := Lib.hid (pt_1 (k := k) h0 h1)
      go_enter Try.func15, Try.ntmps15
      go_wp2_with fail
      refine (implValid_any a b c e f _).mono ?_
      rintro en w1 ⟨rfl, hb⟩
      have HB := Lib.hid (below_of ((Below.refl _ _).alloc (Nat.le_refl _) _) hb (by simp))
      clear hb
      rw [h0]
      go_wp2_with fail
      refine (isPartial_any _ _).mono ?_
      rintro en w2 ⟨rfl, hb⟩
      have HB2 := Lib.hid (below_of HB.out hb HB.out.size)
      clear hb
      rw [h1]
      go_wp2
      go_ret2
      exact ⟨ret_two' R.out.1.symm R.out.2.symm, HB2.out⟩
  · have R := Lib.hid (pt_0 (k := k) h0)
    go_enter Try.func15, Try.ntmps15
    go_wp2_with fail
    refine (implValid_any a b c e f _).mono ?_
    rintro en w1 ⟨rfl, hb⟩
    have HB := Lib.hid (below_of ((Below.refl _ _).alloc (Nat.le_refl _) _) hb (by simp))
    clear hb
    rw [h0]
    go_wp2
    go_ret2
    exact ⟨ret_two' R.out.1.symm R.out.2.symm, HB.out⟩
end Go.Proofs.Ytmkopmdeelfmgaa
