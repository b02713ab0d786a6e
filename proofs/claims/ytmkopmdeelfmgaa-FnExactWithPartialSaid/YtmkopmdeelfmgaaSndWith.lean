/- Sounds: a changed partial: the reference model's walk and the program's. -/
import Derived.Test.YtmkopmdeelfmgaaSndPart
import Derived.Test.YtmkopmdeelfmgaaFive
namespace Go.Proofs.Ytmkopmdeelfmgaa
open Go.ChangeShapes Go.WideShapes Go.ChangeAt Go.RowKit

/-- What WithPartial answers. -/
def WithIs (a b c e f k x : Int) (en : Ending) : Prop :=
  (sndB a b c e f = false ∧ en = .returned (.tuple #[.agg #[.int .i64 0, .int .i64 0, .int .i64 0, .int .i64 0, .int .i64 0], .int .i64 1])) ∨
  (sndB a b c e f = true ∧ inB k 1 5 = false ∧ en = .returned (.tuple #[.agg #[.int .i64 0, .int .i64 0, .int .i64 0, .int .i64 0, .int .i64 0], .int .i64 2])) ∨
  ∃ (q : Nat) (a' b' c' e' f' : Int), sndB a b c e f = true ∧ q < 5 ∧ k = (q : Int) + 1 ∧ [a, b, c, e, f].set q x = [a', b', c', e', f'] ∧
    ((sndB a' b' c' e' f' = false ∧ en = .returned (.tuple #[.agg #[.int .i64 0, .int .i64 0, .int .i64 0, .int .i64 0, .int .i64 0], .int .i64 6])) ∨
      (sndB a' b' c' e' f' = true ∧ en = .returned (.tuple #[.agg #[.int .i64 a', .int .i64 b', .int .i64 c', .int .i64 e', .int .i64 f'], .int .i64 0])))
theorem with_form {a b c e f k x : Int} {en : Ending} (h : WithIs a b c e f k x en) : ∃ a' b' c' e' f' d, en = .returned (.tuple #[.agg #[.int .i64 a', .int .i64 b', .int .i64 c', .int .i64 e', .int .i64 f'], .int .i64 d]) := by
  rcases h with ⟨_, rfl⟩ | ⟨_, _, rfl⟩ | ⟨_, _, _, _, _, _, _, _, _, _, ⟨_, rfl⟩ | ⟨_, rfl⟩⟩ <;> exact ⟨_, _, _, _, _, _, rfl⟩
theorem with_one {a b c e f k x : Int} {en en2 : Ending} (h : WithIs a b c e f k x en) (h2 : WithIs a b c e f k x en2) : en2 = en := by
  have no : ∀ q : Nat, q < 5 → k = (q : Int) + 1 → inB k 1 5 = false → False := fun q h1 h2 h3 => by
    have : inB k 1 5 = true := inB_iff.2 (by omega)
    rw [h3] at this; cases this
  rcases h with ⟨h0, rfl⟩ | ⟨h0, h1, rfl⟩ | ⟨q, a', b', c', e', f', h0, hq, hk, hs, h3⟩
  · rcases h2 with ⟨g0, rfl⟩ | ⟨g0, g1, rfl⟩ | ⟨q, a', b', c', e', f', g0, _⟩
    · rfl
    · rw [h0] at g0; cases g0
    · rw [h0] at g0; cases g0
  · rcases h2 with ⟨g0, rfl⟩ | ⟨g0, g1, rfl⟩ | ⟨q, a', b', c', e', f', g0, hq, hk, _⟩
    · rw [h0] at g0; cases g0
    · rfl
    · exact (no q hq hk h1).elim
  · rcases h2 with ⟨g0, rfl⟩ | ⟨g0, g1, rfl⟩ | ⟨q2, a2, b2, c2, e2, f2, g0, hq2, hk2, hs2, g3⟩
    · rw [h0] at g0; cases g0
    · exact (no q hq hk g1).elim
    · obtain rfl : q2 = q := by omega
      rw [hs] at hs2
      simp only [List.cons.injEq, and_true] at hs2
      obtain ⟨rfl, rfl, rfl, rfl, rfl⟩ := hs2
      rcases h3 with ⟨h4, rfl⟩ | ⟨h4, rfl⟩ <;> rcases g3 with ⟨g4, rfl⟩ | ⟨g4, rfl⟩
      · rfl
      · rw [h4] at g4; cases g4
      · rw [h4] at g4; cases g4
      · rfl
theorem set_five (a b c e f x : Int) (q : Nat) (hq : q < 5) : ∃ a' b' c' e' f', [a, b, c, e, f].set q x = [a', b', c', e', f'] := by
  rcases (by omega : q = 0 ∨ q = 1 ∨ q = 2 ∨ q = 3 ∨ q = 4) with rfl | rfl | rfl | rfl | rfl <;> exact ⟨_, _, _, _, _, rfl⟩
/-- Block g may be written. -/
def Soft (w : World) (g : Nat) : Prop := w.frozen? ⟨g, 0, none⟩ = false ∧ w.frozen? ⟨g, 1, none⟩ = false ∧ w.frozen? ⟨g, 2, none⟩ = false ∧ w.frozen? ⟨g, 3, none⟩ = false ∧ w.frozen? ⟨g, 4, none⟩ = false
theorem soft_kept {w w' : World} {g : Nat} (hb : Below w.heap.size w w') (hg : g < w.heap.size) (h : Soft w g) : Soft w' g :=
  ⟨by rw [below_frozen hb _ _ hg]; exact h.1, by rw [below_frozen hb _ _ hg]; exact h.2.1, by rw [below_frozen hb _ _ hg]; exact h.2.2.1, by rw [below_frozen hb _ _ hg]; exact h.2.2.2.1, by rw [below_frozen hb _ _ hg]; exact h.2.2.2.2⟩

set_option maxHeartbeats 2000000 in
theorem specWith_any (a b c e f k x : Int) (w : World) :
    Calls Try.prog 16 #[.agg #[.int .i64 a, .int .i64 b, .int .i64 c, .int .i64 e, .int .i64 f], .int .i64 k, .int .i64 x] w fun en w' => WithIs a b c e f k x en ∧ Below w.heap.size w w' := by
  go_enter Try.func16, Try.ntmps16
  go_wp2_with fail
  have h5 : Five ((w.alloc (.cells #[.int .i64 a, .int .i64 b, .int .i64 c, .int .i64 e, .int .i64 f] 25)).alloc (.cells #[.int .i64 0, .int .i64 0, .int .i64 0, .int .i64 0, .int .i64 0] 25)) w.heap.size a b c e f := five_below ((Below.refl _ _).alloc (Nat.le_refl _) _) (five_alloc w a b c e f 25)
  have hz : Five ((w.alloc (.cells #[.int .i64 a, .int .i64 b, .int .i64 c, .int .i64 e, .int .i64 f] 25)).alloc (.cells #[.int .i64 0, .int .i64 0, .int .i64 0, .int .i64 0, .int .i64 0] 25)) (w.heap.size + 1) 0 0 0 0 0 := by
    have := five_alloc (w.alloc (.cells #[.int .i64 a, .int .i64 b, .int .i64 c, .int .i64 e, .int .i64 f] 25)) 0 0 0 0 0 25
    simpa using this
  have hf : Soft ((w.alloc (.cells #[.int .i64 a, .int .i64 b, .int .i64 c, .int .i64 e, .int .i64 f] 25)).alloc (.cells #[.int .i64 0, .int .i64 0, .int .i64 0, .int .i64 0, .int .i64 0] 25)) (w.heap.size + 1) := ⟨by go_simp, by go_simp, by go_simp, by go_simp, by go_simp⟩
  have hB := Lib.hid (((Below.refl w.heap.size w).alloc (Nat.le_refl _) (.cells #[.int .i64 a, .int .i64 b, .int .i64 c, .int .i64 e, .int .i64 f] 25)).alloc (by simp) (.cells #[.int .i64 0, .int .i64 0, .int .i64 0, .int .i64 0, .int .i64 0] 25))
  generalize (w.alloc (.cells #[.int .i64 a, .int .i64 b, .int .i64 c, .int .i64 e, .int .i64 f] 25)).alloc (.cells #[.int .i64 0, .int .i64 0, .int .i64 0, .int .i64 0, .int .i64 0] 25) = wA at *
  refine (l04Ok_any w.heap.size a b c e f _ h5.1 h5.2.1 h5.2.2.1 h5.2.2.2.1 h5.2.2.2.2).mono ?_
  rintro en w1 ⟨rfl, hb⟩
  have H5 := Lib.hid (five_below hb h5)
  have HF := Lib.hid (soft_kept hb (five_lt hz) hf)
  have HZ := Lib.hid (five_below hb hz)
  have HB := Lib.hid (below_of hB.out hb hB.out.size)
  clear hb h5 hz hf hB
  rcases Bool.eq_false_or_eq_true (sndB a b c e f) with h0 | h0
  · have H0 := Lib.hid h0
    rw [h0]
    go_wp2_with fail
    refine (l04Partial_any _ _).mono ?_
    rintro en w2 ⟨rfl, rfl⟩
    rcases Bool.eq_false_or_eq_true (inB k 1 5) with h1 | h1
    · rw [h1]
      obtain ⟨k0, k1⟩ := inB_iff.1 h1
      obtain ⟨q, rfl⟩ : ∃ q : Nat, k = (q : Int) + 1 := ⟨(k - 1).toNat, by omega⟩
      have hq : q < 5 := by omega
      have hs : ((q : Int) + 1 - 1) = (q : Int) := by omega
      obtain ⟨a', b', c', e', f', hset⟩ := set_five a b c e f x q hq
      have HSET := Lib.hid hset
      clear hset
      obtain ⟨c0, c1, c2, c3, c4⟩ := H5.out
      go_wp2_with fail
      refine (l04List_any w.heap.size a b c e f _ c0 c1 c2 c3 c4).mono ?_
      rintro en w2 ⟨g, rfl, hg, hrow, hb⟩
      clear c0 c1 c2 c3 c4 H5
      have HF2 := Lib.hid (soft_kept hb (five_lt HZ.out) HF.out)
      have HZ2 := Lib.hid (five_below hb HZ.out)
      have HB2 := Lib.hid (below_of HB.out hb HB.out.size)
      have hgz : w.heap.size + 1 < g := Nat.lt_of_lt_of_le (five_lt HZ.out) hg
      clear hb HF HZ
      obtain ⟨old, hold⟩ : ∃ old, w2.cell? ⟨g, q, none⟩ = some (.int .i64 old) := ⟨_, by rw [hrow.cellAt q (by omega)]; exact i64s_get _ q (by simp; omega)⟩
      have hfz := hrow.frozenAt q
      have hst := (hrow.stored q (.int .i64 x)).1
      rw [i64s_set, HSET.out] at hst
      have HST := Lib.hid hst
      have hw2 := (hrow.lt _ rfl).2
      clear hst hrow
      have b2 : Below g w2 (w2.setCell ⟨g, q, none⟩ (.int .i64 x)) := (Below.refl g w2).setCell (p := ⟨g, q, none⟩) (Nat.le_refl g) (.int .i64 x)
      have HF3 := Lib.hid (show Soft (w2.setCell ⟨g, q, none⟩ (.int .i64 x)) (w.heap.size + 1) from ⟨by rw [b2.frozen (p := ⟨_, _, none⟩) hgz]; exact HF2.out.1, by rw [b2.frozen (p := ⟨_, _, none⟩) hgz]; exact HF2.out.2.1, by rw [b2.frozen (p := ⟨_, _, none⟩) hgz]; exact HF2.out.2.2.1, by rw [b2.frozen (p := ⟨_, _, none⟩) hgz]; exact HF2.out.2.2.2.1, by rw [b2.frozen (p := ⟨_, _, none⟩) hgz]; exact HF2.out.2.2.2.2⟩)
      have HZ3 := Lib.hid (show Five (w2.setCell ⟨g, q, none⟩ (.int .i64 x)) (w.heap.size + 1) 0 0 0 0 0 from ⟨by rw [b2.cell (p := ⟨_, _, none⟩) hgz]; exact HZ2.out.1, by rw [b2.cell (p := ⟨_, _, none⟩) hgz]; exact HZ2.out.2.1, by rw [b2.cell (p := ⟨_, _, none⟩) hgz]; exact HZ2.out.2.2.1, by rw [b2.cell (p := ⟨_, _, none⟩) hgz]; exact HZ2.out.2.2.2.1, by rw [b2.cell (p := ⟨_, _, none⟩) hgz]; exact HZ2.out.2.2.2.2⟩)
      have HB3 := Lib.hid (HB2.out.setCell (show w.heap.size ≤ (⟨g, q, none⟩ : Addr).block by show w.heap.size ≤ g; omega) (.int .i64 x))
      clear b2 HF2 HZ2 HB2
      go_wp2_with fail
      have hsz3 : (w2.setCell ⟨g, q, none⟩ (.int .i64 x)).heap.size = w2.heap.size := by simp
      generalize w2.setCell ⟨g, q, none⟩ (.int .i64 x) = w3 at *
      have r := row_cells (zs := [a', b', c', e', f']) (n := 5) rfl HST.out
      refine (l04Sound_any g a' b' c' e' f' _ (by omega) (r 0 (by omega)) (r 1 (by omega)) (r 2 (by omega)) (r 3 (by omega)) (r 4 (by omega))).mono ?_
      rintro en w4 ⟨rfl, hb⟩
      have HF4 := Lib.hid (soft_kept hb (five_lt HZ3.out) HF3.out)
      have HZ4 := Lib.hid (five_below hb HZ3.out)
      have HB4 := Lib.hid (below_of HB3.out hb HB3.out.size)
      clear hb r HF3 HZ3 HB3 hold hfz
      go_wp2_with fail
      refine (l04Ok_any w4.heap.size a' b' c' e' f' _ (by go_simp) (by go_simp) (by go_simp) (by go_simp) (by go_simp)).mono ?_
      rintro en w5 ⟨rfl, hb⟩
      have hb4 := below_of ((Below.refl w4.heap.size w4).alloc (Nat.le_refl _) _) hb (by simp)
      obtain ⟨f0, f1, f2, f3, f4⟩ := soft_kept hb4 (five_lt HZ4.out) HF4.out
      obtain ⟨z0, z1, z2, z3, z4⟩ := five_below hb4 HZ4.out
      obtain ⟨d0, d1, d2, d3, d4⟩ := five_below hb (five_alloc w4 a' b' c' e' f' 25)
      have HB5 := Lib.hid (below_of HB4.out hb4 HB4.out.size)
      clear hb hb4 HF4 HZ4
      have hle : w.heap.size ≤ w.heap.size + 1 := by omega
      rcases Bool.eq_false_or_eq_true (sndB a' b' c' e' f') with h2 | h2
      · have H2 := Lib.hid h2
        rw [h2]
        go_wp2
        try simp only [Exit.inBlock, Exit.then]
        refine bodyPost_ret_by (v := .tuple #[.agg #[.int .i64 a', .int .i64 b', .int .i64 c', .int .i64 e', .int .i64 f'], .int .i64 0]) (by rw [results_cell_tmp rfl]; go_simp) rfl ?_
        exact ⟨.inr (.inr ⟨q, a', b', c', e', f', H0.out, hq, rfl, HSET.out, .inr ⟨H2.out, rfl⟩⟩), ((((HB5.out.setCell hle _).setCell hle _).setCell hle _).setCell hle _).setCell hle _⟩
      · have H2 := Lib.hid h2
        rw [h2]
        go_wp2
        try simp only [Exit.inBlock, Exit.then]
        refine bodyPost_ret_by (v := .tuple #[.agg #[.int .i64 0, .int .i64 0, .int .i64 0, .int .i64 0, .int .i64 0], .int .i64 6]) (by rw [results_cell_tmp rfl]; go_simp) rfl ?_
        exact ⟨.inr (.inr ⟨q, a', b', c', e', f', H0.out, hq, rfl, HSET.out, .inl ⟨H2.out, rfl⟩⟩), ((((HB5.out.setCell hle _).setCell hle _).setCell hle _).setCell hle _).setCell hle _⟩
    · have H1 := Lib.hid h1
      rw [h1]
      obtain ⟨f0, f1, f2, f3, f4⟩ := HF.out
      obtain ⟨z0, z1, z2, z3, z4⟩ := HZ.out
      have hle : w.heap.size ≤ w.heap.size + 1 := by omega
      go_wp2
      try simp only [Exit.inBlock, Exit.then]
      refine bodyPost_ret_by (v := .tuple #[.agg #[.int .i64 0, .int .i64 0, .int .i64 0, .int .i64 0, .int .i64 0], .int .i64 2]) (by rw [results_cell_tmp rfl]; go_simp) rfl ?_
      exact ⟨.inr (.inl ⟨H0.out, H1.out, rfl⟩), ((((HB.out.setCell hle _).setCell hle _).setCell hle _).setCell hle _).setCell hle _⟩
  · have H0 := Lib.hid h0
    rw [h0]
    obtain ⟨f0, f1, f2, f3, f4⟩ := HF.out
    obtain ⟨z0, z1, z2, z3, z4⟩ := HZ.out
    have hle : w.heap.size ≤ w.heap.size + 1 := by omega
    go_wp2
    try simp only [Exit.inBlock, Exit.then]
    refine bodyPost_ret_by (v := .tuple #[.agg #[.int .i64 0, .int .i64 0, .int .i64 0, .int .i64 0, .int .i64 0], .int .i64 1]) (by rw [results_cell_tmp rfl]; go_simp) rfl ?_
    exact ⟨.inl ⟨H0.out, rfl⟩, ((((HB.out.setCell hle _).setCell hle _).setCell hle _).setCell hle _).setCell hle _⟩
end Go.Proofs.Ytmkopmdeelfmgaa
