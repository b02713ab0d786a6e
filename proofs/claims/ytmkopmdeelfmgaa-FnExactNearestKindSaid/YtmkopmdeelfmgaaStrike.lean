/- The strike note of a sound: the reference model's walk and the program's. -/
import Derived.Test.YtmkopmdeelfmgaaSndValid
import Derived.Test.YtmkopmdeelfmgaaFreq
import Derived.Test.YtmkopmdeelfmgaaDivRoundE
namespace Go.Proofs.Ytmkopmdeelfmgaa
open Go.ChangeShapes Go.WideShapes Go.ChangeAt Go.RowKit

def stR (a b c e f : Int) : Int := if sndB a b c e f = true ∧ okF (nq f 2) = true then nq f 2 else 0
def stC (a b c e f : Int) : Int := if sndB a b c e f = true then (if okF (nq f 2) = true then 0 else 6) else 1
theorem st_0 {a b c e f : Int} (h : sndB a b c e f = false) : stR a b c e f = 0 ∧ stC a b c e f = 1 := by
  unfold stR stC; rw [h]; exact ⟨if_neg (fun h => by cases h.1), if_neg (by decide)⟩
theorem st_1 {a b c e f : Int} (h : sndB a b c e f = true) (h1 : okF (nq f 2) = false) : stR a b c e f = 0 ∧ stC a b c e f = 6 := by
  unfold stR stC; rw [h, h1]; exact ⟨if_neg (fun h => by cases h.2), by decide⟩
theorem st_2 {a b c e f : Int} (h : sndB a b c e f = true) (h1 : okF (nq f 2) = true) : stR a b c e f = nq f 2 ∧ stC a b c e f = 0 := by
  unfold stR stC; rw [h, h1]; exact ⟨if_pos ⟨rfl, rfl⟩, by decide⟩
theorem st_two {a b c d : Int} (h : a = b) (k : c = d) : Ending.returned (.tuple #[.int .i64 a, .int .i64 c]) = .returned (.tuple #[.int .i64 b, .int .i64 d]) := by rw [h, k]
theorem dr_two {f : Int} (h0 : 10000 ≤ f) (h1 : f ≤ 20000000) : divRound f 2 = nq f 2 := by
  unfold divRound
  rw [if_pos ⟨by omega, inB_iff.2 (by omega), by decide⟩]

set_option maxHeartbeats 1000000 in
theorem specStrike_any (a b c e f : Int) (w : World) :
    Calls Try.prog 19 #[.agg #[.int .i64 a, .int .i64 b, .int .i64 c, .int .i64 e, .int .i64 f]] w fun en w' => en = .returned (.tuple #[.int .i64 (stR a b c e f), .int .i64 (stC a b c e f)]) ∧ Below w.heap.size w w' := by
  rcases Bool.eq_false_or_eq_true (sndB a b c e f) with h0 | h0
  · have hr := (snd_iff.1 h0).1
    have HN := Lib.hid h0
    rcases Bool.eq_false_or_eq_true (okF (nq f 2)) with h1 | h1
    · have R := Lib.hid (st_2 h0 h1)
      go_enter Try.func19, Try.ntmps19
      go_wp2_with fail
      refine (l04Ok_any w.heap.size a b c e f _ (by go_simp) (by go_simp) (by go_simp) (by go_simp) (by go_simp)).mono ?_
      rintro en w1 ⟨rfl, hb⟩
      obtain ⟨-, -, -, -, c4⟩ := five_below hb (five_alloc w a b c e f 25)
      have HB := Lib.hid (below_of ((Below.refl _ _).alloc (Nat.le_refl _) _) hb (by simp))
      clear hb
      rw [h0]
      go_wp2_with fail
      refine (specDiv_any f 2 _ (by omega) (by omega) (by omega)).mono ?_
      rintro en w2 ⟨rfl, rfl⟩
      go_wp2_with fail
      refine (l02Ok_any _ _).mono ?_
      rintro en w2 ⟨rfl, rfl⟩
      rw [h1]
      generalize nq f 2 = q at *
      go_wp2
      go_ret2
      exact ⟨st_two R.out.1.symm R.out.2.symm, HB.out⟩
    · have R := Lib.hid (st_1 h0 h1)
      go_enter Try.func19, Try.ntmps19
      go_wp2_with fail
      refine (l04Ok_any w.heap.size a b c e f _ (by go_simp) (by go_simp) (by go_simp) (by go_simp) (by go_simp)).mono ?_
      rintro en w1 ⟨rfl, hb⟩
      obtain ⟨-, -, -, -, c4⟩ := five_below hb (five_alloc w a b c e f 25)
      have HB := Lib.hid (below_of ((Below.refl _ _).alloc (Nat.le_refl _) _) hb (by simp))
      clear hb
      rw [h0]
      go_wp2_with fail
      refine (specDiv_any f 2 _ (by omega) (by omega) (by omega)).mono ?_
      rintro en w2 ⟨rfl, rfl⟩
      go_wp2_with fail
      refine (l02Ok_any _ _).mono ?_
      rintro en w2 ⟨rfl, rfl⟩
      rw [h1]
      generalize nq f 2 = q at *
      go_wp2
      go_ret2
      exact ⟨st_two R.out.1.symm R.out.2.symm, HB.out⟩
  · have R := Lib.hid (st_0 h0)
    go_enter Try.func19, Try.ntmps19
    go_wp2_with fail
    refine (l04Ok_any w.heap.size a b c e f _ (by go_simp) (by go_simp) (by go_simp) (by go_simp) (by go_simp)).mono ?_
    rintro en w1 ⟨rfl, hb⟩
    have HB := Lib.hid (below_of ((Below.refl _ _).alloc (Nat.le_refl _) _) hb (by simp))
    clear hb
    rw [h0]
    go_wp2
    go_ret2
    exact ⟨st_two R.out.1.symm R.out.2.symm, HB.out⟩
set_option maxHeartbeats 1000000 in
theorem implStrike_any (a b c e f : Int) (w : World) :
    Calls Try.prog 20 #[.agg #[.int .i64 a, .int .i64 b, .int .i64 c, .int .i64 e, .int .i64 f]] w fun en w' => en = .returned (.tuple #[.int .i64 (stR a b c e f), .int .i64 (stC a b c e f)]) ∧ Below w.heap.size w w' := by
  rcases Bool.eq_false_or_eq_true (sndB a b c e f) with h0 | h0
  · have hr := (snd_iff.1 h0).1
    have HDR := Lib.hid (dr_two hr.2.2.2.2.1 hr.2.2.2.2.2)
    have HN := Lib.hid h0
    rcases Bool.eq_false_or_eq_true (okF (nq f 2)) with h1 | h1
    · have R := Lib.hid (st_2 h0 h1)
      go_enter Try.func20, Try.ntmps20
      go_wp2_with fail
      refine (implValid_any a b c e f _).mono ?_
      rintro en w1 ⟨rfl, hb⟩
      obtain ⟨-, -, -, -, c4⟩ := five_below hb (five_alloc w a b c e f 25)
      have HB := Lib.hid (below_of ((Below.refl _ _).alloc (Nat.le_refl _) _) hb (by simp))
      clear hb
      rw [h0]
      go_wp2_with fail
      refine (implDivRound_any f 2 _).mono ?_
      rintro en w2 ⟨rfl, hb⟩
      rw [HDR.out]
      have HB2 := Lib.hid (below_of HB.out hb HB.out.size)
      clear hb c4
      go_wp2_with fail
      refine (implIsFrequency_any _ _).mono ?_
      rintro en w3 ⟨rfl, hb⟩
      rw [h1]
      have HB3 := Lib.hid (below_of HB2.out hb HB2.out.size)
      clear hb
      generalize nq f 2 = q at *
      go_wp2
      go_ret2
      exact ⟨st_two R.out.1.symm R.out.2.symm, HB3.out⟩
    · have R := Lib.hid (st_1 h0 h1)
      go_enter Try.func20, Try.ntmps20
      go_wp2_with fail
      refine (implValid_any a b c e f _).mono ?_
      rintro en w1 ⟨rfl, hb⟩
      obtain ⟨-, -, -, -, c4⟩ := five_below hb (five_alloc w a b c e f 25)
      have HB := Lib.hid (below_of ((Below.refl _ _).alloc (Nat.le_refl _) _) hb (by simp))
      clear hb
      rw [h0]
      go_wp2_with fail
      refine (implDivRound_any f 2 _).mono ?_
      rintro en w2 ⟨rfl, hb⟩
      rw [HDR.out]
      have HB2 := Lib.hid (below_of HB.out hb HB.out.size)
      clear hb c4
      go_wp2_with fail
      refine (implIsFrequency_any _ _).mono ?_
      rintro en w3 ⟨rfl, hb⟩
      rw [h1]
      have HB3 := Lib.hid (below_of HB2.out hb HB2.out.size)
      clear hb
      generalize nq f 2 = q at *
      go_wp2
      go_ret2
      exact ⟨st_two R.out.1.symm R.out.2.symm, HB3.out⟩
  · have R := Lib.hid (st_0 h0)
    go_enter Try.func20, Try.ntmps20
    go_wp2_with fail
    refine (implValid_any a b c e f _).mono ?_
    rintro en w1 ⟨rfl, hb⟩
    have HB := Lib.hid (below_of ((Below.refl _ _).alloc (Nat.le_refl _) _) hb (by simp))
    clear hb
    rw [h0]
    go_wp2
    go_ret2
    exact ⟨st_two R.out.1.symm R.out.2.symm, HB.out⟩
end Go.Proofs.Ytmkopmdeelfmgaa
