/- Sounds: a changed partial: the program's walk. -/
import Derived.Test.YtmkopmdeelfmgaaSndWith
namespace Go.Proofs.Ytmkopmdeelfmgaa
open Go.ChangeShapes Go.WideShapes Go.ChangeAt Go.RowKit

set_option maxHeartbeats 4000000 in
theorem implWith_any (a b c e f k x : Int) (w : World) :
    Calls Try.prog 17 #[.agg #[.int .i64 a, .int .i64 b, .int .i64 c, .int .i64 e, .int .i64 f], .int .i64 k, .int .i64 x] w fun en w' => WithIs a b c e f k x en ∧ Below w.heap.size w w' := by
  have hle : w.heap.size ≤ w.heap.size + 1 := by omega
  go_enter Try.func17, Try.ntmps17
  go_wp2_with fail
  have h5 : Five ((w.alloc (.cells #[.int .i64 a, .int .i64 b, .int .i64 c, .int .i64 e, .int .i64 f] 25)).alloc (.cells #[.int .i64 0, .int .i64 0, .int .i64 0, .int .i64 0, .int .i64 0] 25)) w.heap.size a b c e f := five_below ((Below.refl _ _).alloc (Nat.le_refl _) _) (five_alloc w a b c e f 25)
  have hz : Five ((w.alloc (.cells #[.int .i64 a, .int .i64 b, .int .i64 c, .int .i64 e, .int .i64 f] 25)).alloc (.cells #[.int .i64 0, .int .i64 0, .int .i64 0, .int .i64 0, .int .i64 0] 25)) (w.heap.size + 1) 0 0 0 0 0 := by
    have := five_alloc (w.alloc (.cells #[.int .i64 a, .int .i64 b, .int .i64 c, .int .i64 e, .int .i64 f] 25)) 0 0 0 0 0 25
    simpa using this
  have hf : Soft ((w.alloc (.cells #[.int .i64 a, .int .i64 b, .int .i64 c, .int .i64 e, .int .i64 f] 25)).alloc (.cells #[.int .i64 0, .int .i64 0, .int .i64 0, .int .i64 0, .int .i64 0] 25)) (w.heap.size + 1) := ⟨by go_simp, by go_simp, by go_simp, by go_simp, by go_simp⟩
  have hB := Lib.hid (((Below.refl w.heap.size w).alloc (Nat.le_refl _) (.cells #[.int .i64 a, .int .i64 b, .int .i64 c, .int .i64 e, .int .i64 f] 25)).alloc (by simp) (.cells #[.int .i64 0, .int .i64 0, .int .i64 0, .int .i64 0, .int .i64 0] 25))
  generalize (w.alloc (.cells #[.int .i64 a, .int .i64 b, .int .i64 c, .int .i64 e, .int .i64 f] 25)).alloc (.cells #[.int .i64 0, .int .i64 0, .int .i64 0, .int .i64 0, .int .i64 0] 25) = wA at *
  refine (implPartial_any a b c e f k _).mono ?_
  rintro en w1 ⟨rfl, hb⟩
  have H5 := Lib.hid (five_below hb h5)
  have HF := Lib.hid (soft_kept hb (five_lt hz) hf)
  have HZ := Lib.hid (five_below hb hz)
  have HB := Lib.hid (below_of hB.out hb hB.out.size)
  clear hb h5 hz hf hB
  rcases Bool.eq_false_or_eq_true (sndB a b c e f) with h0 | h0
  · have H0 := Lib.hid h0
    rcases Bool.eq_false_or_eq_true (inB k 1 5) with h1 | h1
    · rw [(pt_2 h0 h1).2]
      generalize ptR a b c e f k = r
      obtain ⟨k0, k1⟩ := inB_iff.1 h1
      obtain ⟨q, rfl⟩ : ∃ q : Nat, k = (q : Int) + 1 := ⟨(k - 1).toNat, by omega⟩
      have hq : q < 5 := by omega
      obtain ⟨a', b', c', e', f', hset⟩ := set_five a b c e f x q hq
      have HSET := Lib.hid hset
      clear h0 h1
      rcases (by omega : q = 0 ∨ q = 1 ∨ q = 2 ∨ q = 3 ∨ q = 4) with rfl | rfl | rfl | rfl | rfl
      · simp only [List.set_cons_zero, List.cons.injEq, and_true] at hset
        obtain ⟨rfl, rfl, rfl, rfl, rfl⟩ := hset
        obtain ⟨c0, c1, c2, c3, c4⟩ := H5.out
        go_wp2_with fail
        refine (partialsOf_any a b c e f _).mono ?_
        rintro en w2 ⟨rfl, hb⟩
        have HF2 := Lib.hid (soft_kept hb (five_lt HZ.out) HF.out)
        have HZ2 := Lib.hid (five_below hb HZ.out)
        have HB2 := Lib.hid (below_of HB.out hb HB.out.size)
        clear hb HF HZ c0 c1 c2 c3 c4 H5
        go_wp2_with fail
        refine (pvalid_any x b c e f _).mono ?_
        rintro en w3 ⟨rfl, hb⟩
        have hb3 := below_of ((Below.refl w2.heap.size w2).alloc (Nat.le_refl _) _) hb (by simp)
        have HF3 := Lib.hid (soft_kept hb3 (five_lt HZ2.out) HF2.out)
        have HZ3 := Lib.hid (five_below hb3 HZ2.out)
        have H53 := Lib.hid (five_below hb (five_alloc w2 x b c e f 50))
        have HB3 := Lib.hid (below_of HB2.out hb3 HB2.out.size)
        clear hb hb3 HF2 HZ2
        rcases Bool.eq_false_or_eq_true (sndB x b c e f) with h2 | h2
        · have H2 := Lib.hid h2
          rw [h2]
          obtain ⟨d0, d1, d2, d3, d4⟩ := H53.out
          go_wp2_with fail
          refine (psound_any x b c e f _).mono ?_
          rintro en w4 ⟨rfl, hb⟩
          obtain ⟨f0, f1, f2, f3, f4⟩ := soft_kept hb (five_lt HZ3.out) HF3.out
          obtain ⟨z0, z1, z2, z3, z4⟩ := five_below hb HZ3.out
          have HB4 := Lib.hid (below_of HB3.out hb HB3.out.size)
          clear hb d0 d1 d2 d3 d4
          go_wp2
          try simp only [Exit.inBlock, Exit.then]
          refine bodyPost_ret_by (v := .tuple #[.agg #[.int .i64 x, .int .i64 b, .int .i64 c, .int .i64 e, .int .i64 f], .int .i64 0]) (by rw [results_cell_tmp rfl]; go_simp) rfl ?_
          exact ⟨.inr (.inr ⟨_, _, _, _, _, _, H0.out, hq, rfl, HSET.out, .inr ⟨H2.out, rfl⟩⟩), ((((HB4.out.setCell hle _).setCell hle _).setCell hle _).setCell hle _).setCell hle _⟩
        · have H2 := Lib.hid h2
          rw [h2]
          obtain ⟨f0, f1, f2, f3, f4⟩ := HF3.out
          obtain ⟨z0, z1, z2, z3, z4⟩ := HZ3.out
          go_wp2
          try simp only [Exit.inBlock, Exit.then]
          refine bodyPost_ret_by (v := .tuple #[.agg #[.int .i64 0, .int .i64 0, .int .i64 0, .int .i64 0, .int .i64 0], .int .i64 6]) (by rw [results_cell_tmp rfl]; go_simp) rfl ?_
          exact ⟨.inr (.inr ⟨_, _, _, _, _, _, H0.out, hq, rfl, HSET.out, .inl ⟨H2.out, rfl⟩⟩), ((((HB3.out.setCell hle _).setCell hle _).setCell hle _).setCell hle _).setCell hle _⟩
      · simp only [List.set_cons_zero, List.set_cons_succ, List.cons.injEq, and_true] at hset
        obtain ⟨rfl, rfl, rfl, rfl, rfl⟩ := hset
        obtain ⟨c0, c1, c2, c3, c4⟩ := H5.out
        go_wp2_with fail
        refine (partialsOf_any a b c e f _).mono ?_
        rintro en w2 ⟨rfl, hb⟩
        have HF2 := Lib.hid (soft_kept hb (five_lt HZ.out) HF.out)
        have HZ2 := Lib.hid (five_below hb HZ.out)
        have HB2 := Lib.hid (below_of HB.out hb HB.out.size)
        clear hb HF HZ c0 c1 c2 c3 c4 H5
        go_wp2_with fail
        refine (pvalid_any a x c e f _).mono ?_
        rintro en w3 ⟨rfl, hb⟩
        have hb3 := below_of ((Below.refl w2.heap.size w2).alloc (Nat.le_refl _) _) hb (by simp)
        have HF3 := Lib.hid (soft_kept hb3 (five_lt HZ2.out) HF2.out)
        have HZ3 := Lib.hid (five_below hb3 HZ2.out)
        have H53 := Lib.hid (five_below hb (five_alloc w2 a x c e f 50))
        have HB3 := Lib.hid (below_of HB2.out hb3 HB2.out.size)
        clear hb hb3 HF2 HZ2
        rcases Bool.eq_false_or_eq_true (sndB a x c e f) with h2 | h2
        · have H2 := Lib.hid h2
          rw [h2]
          obtain ⟨d0, d1, d2, d3, d4⟩ := H53.out
          go_wp2_with fail
          refine (psound_any a x c e f _).mono ?_
          rintro en w4 ⟨rfl, hb⟩
          obtain ⟨f0, f1, f2, f3, f4⟩ := soft_kept hb (five_lt HZ3.out) HF3.out
          obtain ⟨z0, z1, z2, z3, z4⟩ := five_below hb HZ3.out
          have HB4 := Lib.hid (below_of HB3.out hb HB3.out.size)
          clear hb d0 d1 d2 d3 d4
          go_wp2
          try simp only [Exit.inBlock, Exit.then]
          refine bodyPost_ret_by (v := .tuple #[.agg #[.int .i64 a, .int .i64 x, .int .i64 c, .int .i64 e, .int .i64 f], .int .i64 0]) (by rw [results_cell_tmp rfl]; go_simp) rfl ?_
          exact ⟨.inr (.inr ⟨_, _, _, _, _, _, H0.out, hq, rfl, HSET.out, .inr ⟨H2.out, rfl⟩⟩), ((((HB4.out.setCell hle _).setCell hle _).setCell hle _).setCell hle _).setCell hle _⟩
        · have H2 := Lib.hid h2
          rw [h2]
          obtain ⟨f0, f1, f2, f3, f4⟩ := HF3.out
          obtain ⟨z0, z1, z2, z3, z4⟩ := HZ3.out
          go_wp2
          try simp only [Exit.inBlock, Exit.then]
          refine bodyPost_ret_by (v := .tuple #[.agg #[.int .i64 0, .int .i64 0, .int .i64 0, .int .i64 0, .int .i64 0], .int .i64 6]) (by rw [results_cell_tmp rfl]; go_simp) rfl ?_
          exact ⟨.inr (.inr ⟨_, _, _, _, _, _, H0.out, hq, rfl, HSET.out, .inl ⟨H2.out, rfl⟩⟩), ((((HB3.out.setCell hle _).setCell hle _).setCell hle _).setCell hle _).setCell hle _⟩
      · simp only [List.set_cons_zero, List.set_cons_succ, List.cons.injEq, and_true] at hset
        obtain ⟨rfl, rfl, rfl, rfl, rfl⟩ := hset
        obtain ⟨c0, c1, c2, c3, c4⟩ := H5.out
        go_wp2_with fail
        refine (partialsOf_any a b c e f _).mono ?_
        rintro en w2 ⟨rfl, hb⟩
        have HF2 := Lib.hid (soft_kept hb (five_lt HZ.out) HF.out)
        have HZ2 := Lib.hid (five_below hb HZ.out)
        have HB2 := Lib.hid (below_of HB.out hb HB.out.size)
        clear hb HF HZ c0 c1 c2 c3 c4 H5
        go_wp2_with fail
        refine (pvalid_any a b x e f _).mono ?_
        rintro en w3 ⟨rfl, hb⟩
        have hb3 := below_of ((Below.refl w2.heap.size w2).alloc (Nat.le_refl _) _) hb (by simp)
        have HF3 := Lib.hid (soft_kept hb3 (five_lt HZ2.out) HF2.out)
        have HZ3 := Lib.hid (five_below hb3 HZ2.out)
        have H53 := Lib.hid (five_below hb (five_alloc w2 a b x e f 50))
        have HB3 := Lib.hid (below_of HB2.out hb3 HB2.out.size)
        clear hb hb3 HF2 HZ2
        rcases Bool.eq_false_or_eq_true (sndB a b x e f) with h2 | h2
        · have H2 := Lib.hid h2
          rw [h2]
          obtain ⟨d0, d1, d2, d3, d4⟩ := H53.out
          go_wp2_with fail
          refine (psound_any a b x e f _).mono ?_
          rintro en w4 ⟨rfl, hb⟩
          obtain ⟨f0, f1, f2, f3, f4⟩ := soft_kept hb (five_lt HZ3.out) HF3.out
          obtain ⟨z0, z1, z2, z3, z4⟩ := five_below hb HZ3.out
          have HB4 := Lib.hid (below_of HB3.out hb HB3.out.size)
          clear hb d0 d1 d2 d3 d4
          go_wp2
          try simp only [Exit.inBlock, Exit.then]
          refine bodyPost_ret_by (v := .tuple #[.agg #[.int .i64 a, .int .i64 b, .int .i64 x, .int .i64 e, .int .i64 f], .int .i64 0]) (by rw [results_cell_tmp rfl]; go_simp) rfl ?_
          exact ⟨.inr (.inr ⟨_, _, _, _, _, _, H0.out, hq, rfl, HSET.out, .inr ⟨H2.out, rfl⟩⟩), ((((HB4.out.setCell hle _).setCell hle _).setCell hle _).setCell hle _).setCell hle _⟩
        · have H2 := Lib.hid h2
          rw [h2]
          obtain ⟨f0, f1, f2, f3, f4⟩ := HF3.out
          obtain ⟨z0, z1, z2, z3, z4⟩ := HZ3.out
          go_wp2
          try simp only [Exit.inBlock, Exit.then]
          refine bodyPost_ret_by (v := .tuple #[.agg #[.int .i64 0, .int .i64 0, .int .i64 0, .int .i64 0, .int .i64 0], .int .i64 6]) (by rw [results_cell_tmp rfl]; go_simp) rfl ?_
          exact ⟨.inr (.inr ⟨_, _, _, _, _, _, H0.out, hq, rfl, HSET.out, .inl ⟨H2.out, rfl⟩⟩), ((((HB3.out.setCell hle _).setCell hle _).setCell hle _).setCell hle _).setCell hle _⟩
      · simp only [List.set_cons_zero, List.set_cons_succ, List.cons.injEq, and_true] at hset
        obtain ⟨rfl, rfl, rfl, rfl, rfl⟩ := hset
        obtain ⟨c0, c1, c2, c3, c4⟩ := H5.out
        go_wp2_with fail
        refine (partialsOf_any a b c e f _).mono ?_
        rintro en w2 ⟨rfl, hb⟩
        have HF2 := Lib.hid (soft_kept hb (five_lt HZ.out) HF.out)
        have HZ2 := Lib.hid (five_below hb HZ.out)
        have HB2 := Lib.hid (below_of HB.out hb HB.out.size)
        clear hb HF HZ c0 c1 c2 c3 c4 H5
        go_wp2_with fail
        refine (pvalid_any a b c x f _).mono ?_
        rintro en w3 ⟨rfl, hb⟩
        have hb3 := below_of ((Below.refl w2.heap.size w2).alloc (Nat.le_refl _) _) hb (by simp)
        have HF3 := Lib.hid (soft_kept hb3 (five_lt HZ2.out) HF2.out)
        have HZ3 := Lib.hid (five_below hb3 HZ2.out)
        have H53 := Lib.hid (five_below hb (five_alloc w2 a b c x f 50))
        have HB3 := Lib.hid (below_of HB2.out hb3 HB2.out.size)
        clear hb hb3 HF2 HZ2
        rcases Bool.eq_false_or_eq_true (sndB a b c x f) with h2 | h2
        · have H2 := Lib.hid h2
          rw [h2]
          obtain ⟨d0, d1, d2, d3, d4⟩ := H53.out
          go_wp2_with fail
          refine (psound_any a b c x f _).mono ?_
          rintro en w4 ⟨rfl, hb⟩
          obtain ⟨f0, f1, f2, f3, f4⟩ := soft_kept hb (five_lt HZ3.out) HF3.out
          obtain ⟨z0, z1, z2, z3, z4⟩ := five_below hb HZ3.out
          have HB4 := Lib.hid (below_of HB3.out hb HB3.out.size)
          clear hb d0 d1 d2 d3 d4
          go_wp2
          try simp only [Exit.inBlock, Exit.then]
          refine bodyPost_ret_by (v := .tuple #[.agg #[.int .i64 a, .int .i64 b, .int .i64 c, .int .i64 x, .int .i64 f], .int .i64 0]) (by rw [results_cell_tmp rfl]; go_simp) rfl ?_
          exact ⟨.inr (.inr ⟨_, _, _, _, _, _, H0.out, hq, rfl, HSET.out, .inr ⟨H2.out, rfl⟩⟩), ((((HB4.out.setCell hle _).setCell hle _).setCell hle _).setCell hle _).setCell hle _⟩
        · have H2 := Lib.hid h2
          rw [h2]
          obtain ⟨f0, f1, f2, f3, f4⟩ := HF3.out
          obtain ⟨z0, z1, z2, z3, z4⟩ := HZ3.out
          go_wp2
          try simp only [Exit.inBlock, Exit.then]
          refine bodyPost_ret_by (v := .tuple #[.agg #[.int .i64 0, .int .i64 0, .int .i64 0, .int .i64 0, .int .i64 0], .int .i64 6]) (by rw [results_cell_tmp rfl]; go_simp) rfl ?_
          exact ⟨.inr (.inr ⟨_, _, _, _, _, _, H0.out, hq, rfl, HSET.out, .inl ⟨H2.out, rfl⟩⟩), ((((HB3.out.setCell hle _).setCell hle _).setCell hle _).setCell hle _).setCell hle _⟩
      · simp only [List.set_cons_zero, List.set_cons_succ, List.cons.injEq, and_true] at hset
        obtain ⟨rfl, rfl, rfl, rfl, rfl⟩ := hset
        obtain ⟨c0, c1, c2, c3, c4⟩ := H5.out
        go_wp2_with fail
        refine (partialsOf_any a b c e f _).mono ?_
        rintro en w2 ⟨rfl, hb⟩
        have HF2 := Lib.hid (soft_kept hb (five_lt HZ.out) HF.out)
        have HZ2 := Lib.hid (five_below hb HZ.out)
        have HB2 := Lib.hid (below_of HB.out hb HB.out.size)
        clear hb HF HZ c0 c1 c2 c3 c4 H5
        go_wp2_with fail
        refine (pvalid_any a b c e x _).mono ?_
        rintro en w3 ⟨rfl, hb⟩
        have hb3 := below_of ((Below.refl w2.heap.size w2).alloc (Nat.le_refl _) _) hb (by simp)
        have HF3 := Lib.hid (soft_kept hb3 (five_lt HZ2.out) HF2.out)
        have HZ3 := Lib.hid (five_below hb3 HZ2.out)
        have H53 := Lib.hid (five_below hb (five_alloc w2 a b c e x 50))
        have HB3 := Lib.hid (below_of HB2.out hb3 HB2.out.size)
        clear hb hb3 HF2 HZ2
        rcases Bool.eq_false_or_eq_true (sndB a b c e x) with h2 | h2
        · have H2 := Lib.hid h2
          rw [h2]
          obtain ⟨d0, d1, d2, d3, d4⟩ := H53.out
          go_wp2_with fail
          refine (psound_any a b c e x _).mono ?_
          rintro en w4 ⟨rfl, hb⟩
          obtain ⟨f0, f1, f2, f3, f4⟩ := soft_kept hb (five_lt HZ3.out) HF3.out
          obtain ⟨z0, z1, z2, z3, z4⟩ := five_below hb HZ3.out
          have HB4 := Lib.hid (below_of HB3.out hb HB3.out.size)
          clear hb d0 d1 d2 d3 d4
          go_wp2
          try simp only [Exit.inBlock, Exit.then]
          refine bodyPost_ret_by (v := .tuple #[.agg #[.int .i64 a, .int .i64 b, .int .i64 c, .int .i64 e, .int .i64 x], .int .i64 0]) (by rw [results_cell_tmp rfl]; go_simp) rfl ?_
          exact ⟨.inr (.inr ⟨_, _, _, _, _, _, H0.out, hq, rfl, HSET.out, .inr ⟨H2.out, rfl⟩⟩), ((((HB4.out.setCell hle _).setCell hle _).setCell hle _).setCell hle _).setCell hle _⟩
        · have H2 := Lib.hid h2
          rw [h2]
          obtain ⟨f0, f1, f2, f3, f4⟩ := HF3.out
          obtain ⟨z0, z1, z2, z3, z4⟩ := HZ3.out
          go_wp2
          try simp only [Exit.inBlock, Exit.then]
          refine bodyPost_ret_by (v := .tuple #[.agg #[.int .i64 0, .int .i64 0, .int .i64 0, .int .i64 0, .int .i64 0], .int .i64 6]) (by rw [results_cell_tmp rfl]; go_simp) rfl ?_
          exact ⟨.inr (.inr ⟨_, _, _, _, _, _, H0.out, hq, rfl, HSET.out, .inl ⟨H2.out, rfl⟩⟩), ((((HB3.out.setCell hle _).setCell hle _).setCell hle _).setCell hle _).setCell hle _⟩
    · have H1 := Lib.hid h1
      rw [(pt_1 h0 h1).2]
      generalize ptR a b c e f k = r
      clear h0 h1
      obtain ⟨f0, f1, f2, f3, f4⟩ := HF.out
      obtain ⟨z0, z1, z2, z3, z4⟩ := HZ.out
      go_wp2
      try simp only [Exit.inBlock, Exit.then]
      refine bodyPost_ret_by (v := .tuple #[.agg #[.int .i64 0, .int .i64 0, .int .i64 0, .int .i64 0, .int .i64 0], .int .i64 2]) (by rw [results_cell_tmp rfl]; go_simp) rfl ?_
      exact ⟨.inr (.inl ⟨H0.out, H1.out, rfl⟩), ((((HB.out.setCell hle _).setCell hle _).setCell hle _).setCell hle _).setCell hle _⟩
  · have H0 := Lib.hid h0
    rw [(pt_0 h0).2]
    generalize ptR a b c e f k = r
    clear h0
    obtain ⟨f0, f1, f2, f3, f4⟩ := HF.out
    obtain ⟨z0, z1, z2, z3, z4⟩ := HZ.out
    go_wp2
    try simp only [Exit.inBlock, Exit.then]
    refine bodyPost_ret_by (v := .tuple #[.agg #[.int .i64 0, .int .i64 0, .int .i64 0, .int .i64 0, .int .i64 0], .int .i64 1]) (by rw [results_cell_tmp rfl]; go_simp) rfl ?_
    exact ⟨.inl ⟨H0.out, rfl⟩, ((((HB.out.setCell hle _).setCell hle _).setCell hle _).setCell hle _).setCell hle _⟩
end Go.Proofs.Ytmkopmdeelfmgaa
