/- Sounds: the program's validity is the reference model's. -/
import Derived.Test.YtpjopfhkgegahaaGreatClimb
namespace Go.Proofs.YtpjopfhkgegahaaGreat
open Go.ChangeShapes Go.WideShapes Go.ChangeAt Go.RowKit

theorem snd_iff {a b c e f : Int} : sndB a b c e f = true ↔ ((10000 ≤ a ∧ a ≤ 20000000) ∧ (10000 ≤ b ∧ b ≤ 20000000) ∧ (10000 ≤ c ∧ c ≤ 20000000) ∧ (10000 ≤ e ∧ e ≤ 20000000) ∧ (10000 ≤ f ∧ f ≤ 20000000)) ∧ a < b ∧ b < c ∧ c < e ∧ e < f := by
  have h : sndB a b c e f = (riseAt 10000 20000000 [a, b, c, e, f] 0 && (riseAt 10000 20000000 [a, b, c, e, f] 1 && (riseAt 10000 20000000 [a, b, c, e, f] 2 && (riseAt 10000 20000000 [a, b, c, e, f] 3 && riseAt 10000 20000000 [a, b, c, e, f] 4)))) := by
    unfold sndB risesB
    rw [show List.range [a, b, c, e, f].length = [0, 1, 2, 3, 4] from rfl]
    simp
  rw [h]
  have r0 : riseAt 10000 20000000 [a, b, c, e, f] 0 = inB a 10000 20000000 := by unfold riseAt; simp
  have r1 : riseAt 10000 20000000 [a, b, c, e, f] 1 = (inB b 10000 20000000 && decide (a < b)) := by unfold riseAt; simp
  have r2 : riseAt 10000 20000000 [a, b, c, e, f] 2 = (inB c 10000 20000000 && decide (b < c)) := by unfold riseAt; simp
  have r3 : riseAt 10000 20000000 [a, b, c, e, f] 3 = (inB e 10000 20000000 && decide (c < e)) := by unfold riseAt; simp
  have r4 : riseAt 10000 20000000 [a, b, c, e, f] 4 = (inB f 10000 20000000 && decide (e < f)) := by unfold riseAt; simp
  rw [r0, r1, r2, r3, r4]
  simp only [Bool.and_eq_true, inB_iff, decide_eq_true_eq]
  omega
theorem all5_iff {a b c e f : Int} : allIn 10000 20000000 [a, b, c, e, f] = true ↔ ((10000 ≤ a ∧ a ≤ 20000000) ∧ (10000 ≤ b ∧ b ≤ 20000000) ∧ (10000 ≤ c ∧ c ≤ 20000000) ∧ (10000 ≤ e ∧ e ≤ 20000000) ∧ (10000 ≤ f ∧ f ≤ 20000000)) := by
  unfold allIn
  simp only [List.all_cons, List.all_nil, Bool.and_true, Bool.and_eq_true, inB_iff]
theorem cl5 (a b c e f : Int) : ∃ b' c' e' f', clL [a, b, c, e, f] 5 = [a, b', c', e', f'] ∧ b' = pickMost b (a + 1) ∧ c' = pickMost c (b' + 1) ∧ e' = pickMost e (c' + 1) ∧ f' = pickMost f (e' + 1) :=
  ⟨_, _, _, _, rfl, rfl, rfl, rfl, rfl⟩
theorem snd_no {a b c e f : Int} (h : allIn 10000 20000000 [a, b, c, e, f] = false) : sndB a b c e f = false := by
  rw [Bool.eq_false_iff] at h ⊢
  exact fun k => h (all5_iff.2 (snd_iff.1 k).1)
theorem snd_yes {a b c e f b' c' e' f' : Int} (h : allIn 10000 20000000 [a, b, c, e, f] = true) (hb : b' = pickMost b (a + 1)) (hc : c' = pickMost c (b' + 1)) (he : e' = pickMost e (c' + 1)) (hf : f' = pickMost f (e' + 1)) :
    (a == a && (b == b' && (c == c' && (e == e' && f == f')))) = sndB a b c e f := by
  rw [Bool.eq_iff_iff, snd_iff]
  have h5 := all5_iff.1 h
  simp only [Bool.and_eq_true, beq_iff_eq]
  unfold pickMost at hb hc he hf
  constructor
  · rintro ⟨-, rfl, rfl, rfl, rfl⟩
    refine ⟨h5, ?_, ?_, ?_, ?_⟩
    · split at hb <;> omega
    · split at hc <;> omega
    · split at he <;> omega
    · split at hf <;> omega
  · rintro ⟨-, h1, h2, h3, h4⟩
    have eb : b = b' := by split at hb <;> omega
    subst eb
    have ec : c = c' := by split at hc <;> omega
    subst ec
    have ee : e = e' := by split at he <;> omega
    subst ee
    have ef : f = f' := by split at hf <;> omega
    exact ⟨trivial, rfl, rfl, rfl, ef⟩

theorem cells5 {w : World} {g : Nat} {a b c e f : Int} (h0 : w.cell? ⟨g, 0, none⟩ = some (.int .i64 a)) (h1 : w.cell? ⟨g, 1, none⟩ = some (.int .i64 b)) (h2 : w.cell? ⟨g, 2, none⟩ = some (.int .i64 c)) (h3 : w.cell? ⟨g, 3, none⟩ = some (.int .i64 e)) (h4 : w.cell? ⟨g, 4, none⟩ = some (.int .i64 f)) :
    ∀ j, j < 5 → w.cell? ⟨g, 0 + j, none⟩ = some (.int .i64 ([a, b, c, e, f].getD j 0)) := by
  intro j hj
  match j, hj with
  | 0, _ => exact h0
  | 1, _ => exact h1
  | 2, _ => exact h2
  | 3, _ => exact h3
  | 4, _ => exact h4
theorem idx5 {a b c e f : Int} {j : Nat} (h : j < [a, b, c, e, f].length) (h5 : allIn 10000 20000000 [a, b, c, e, f] = true) : 10000 ≤ [a, b, c, e, f].getD j 0 ∧ [a, b, c, e, f].getD j 0 ≤ 20000000 := by
  have k := all5_iff.1 h5
  match j, h with
  | 0, _ => exact k.1
  | 1, _ => exact k.2.1
  | 2, _ => exact k.2.2.1
  | 3, _ => exact k.2.2.2.1
  | 4, _ => exact k.2.2.2.2

set_option maxHeartbeats 1000000 in
theorem pvalid_any (a b c e f : Int) (w : World) :
    Calls Tryz.prog 93 #[.agg #[.int .i64 a, .int .i64 b, .int .i64 c, .int .i64 e, .int .i64 f]] w fun en w' => en = .returned (.bool (sndB a b c e f)) ∧ Below w.heap.size w w' := by
  rcases Bool.eq_false_or_eq_true (allIn 10000 20000000 [a, b, c, e, f]) with h0 | h0
  · obtain ⟨b', c', e', f', hcl, hb, hc, he, hf⟩ := cl5 a b c e f
    have HV := Lib.hid (snd_yes h0 hb hc he hf)
    have HCL := Lib.hid hcl
    have HI := Lib.hid (fun j h => idx5 (a := a) (b := b) (c := c) (e := e) (f := f) (j := j) h h0)
    have H0 := Lib.hid h0
    clear hb hc he hf hcl h0
    have hm : Tryz.prog.eqGuardType Tryz.prog.depth 101 = false := by kernel_rfl
    have heq := fun w => eql5 a b c e f a b' c' e' f' w
    rw [HV.out] at heq
    go_enter Tryz.func93, Tryz.ntmps93
    go_wp2
    have c0 : (w.alloc (.cells #[.int .i64 a, .int .i64 b, .int .i64 c, .int .i64 e, .int .i64 f] 101)).cell? ⟨w.heap.size, 0, none⟩ = some (.int .i64 a) := by go_simp
    have c1 : (w.alloc (.cells #[.int .i64 a, .int .i64 b, .int .i64 c, .int .i64 e, .int .i64 f] 101)).cell? ⟨w.heap.size, 1, none⟩ = some (.int .i64 b) := by go_simp
    have c2 : (w.alloc (.cells #[.int .i64 a, .int .i64 b, .int .i64 c, .int .i64 e, .int .i64 f] 101)).cell? ⟨w.heap.size, 2, none⟩ = some (.int .i64 c) := by go_simp
    have c3 : (w.alloc (.cells #[.int .i64 a, .int .i64 b, .int .i64 c, .int .i64 e, .int .i64 f] 101)).cell? ⟨w.heap.size, 3, none⟩ = some (.int .i64 e) := by go_simp
    have c4 : (w.alloc (.cells #[.int .i64 a, .int .i64 b, .int .i64 c, .int .i64 e, .int .i64 f] 101)).cell? ⟨w.heap.size, 4, none⟩ = some (.int .i64 f) := by go_simp
    have hsz : w.heap.size < (w.alloc (.cells #[.int .i64 a, .int .i64 b, .int .i64 c, .int .i64 e, .int .i64 f] 101)).heap.size := by simp
    have HB := Lib.hid ((Below.refl w.heap.size w).alloc (Nat.le_refl _) (.cells #[.int .i64 a, .int .i64 b, .int .i64 c, .int .i64 e, .int .i64 f] 101))
    generalize w.alloc (.cells #[.int .i64 a, .int .i64 b, .int .i64 c, .int .i64 e, .int .i64 f] 101) = wA at *
    go_region_held3 (fun w' => w'.cell? ⟨w.heap.size, 0, none⟩ = some (.int .i64 a) ∧ w'.cell? ⟨w.heap.size, 1, none⟩ = some (.int .i64 b) ∧ w'.cell? ⟨w.heap.size, 2, none⟩ = some (.int .i64 c) ∧ w'.cell? ⟨w.heap.size, 3, none⟩ = some (.int .i64 e) ∧ w'.cell? ⟨w.heap.size, 4, none⟩ = some (.int .i64 f) ∧ Below wA.heap.size wA w')
      (first | exact ⟨c0, c1, c2, c3, c4, below_dr (Below.refl _ _)⟩ | exact ⟨(below_cell (W := wA.drew) hb2 _ _ hsz).trans c0, (below_cell (W := wA.drew) hb2 _ _ hsz).trans c1, (below_cell (W := wA.drew) hb2 _ _ hsz).trans c2, (below_cell (W := wA.drew) hb2 _ _ hsz).trans c3, (below_cell (W := wA.drew) hb2 _ _ hsz).trans c4, (below_dr (Below.refl _ _)).trans hb2⟩)
      (first
        | (go_at_call 31; refine (within_i64 10000 20000000 [a, b, c, e, f] w.heap.size 0 5 5 wA.drew rfl (by omega) (cells5 c0 c1 c2 c3 c4)).mono ?_; rintro en w2 ⟨rfl, rfl⟩; rw [H0.out])
        | (go_at_call 117; refine (climbing_any a b c e f wA.drew HI.out a b' c' e' f' HCL).mono ?_; rintro en w2 ⟨rfl, hb2⟩))
    go_wp2
    go_ret
    exact ⟨rfl, HB.out.trans (((below_dr (Below.refl _ _)).trans hb2).mono HB.out.size)⟩
  · have HV := Lib.hid (snd_no h0)
    have H0 := Lib.hid h0
    clear h0
    go_enter Tryz.func93, Tryz.ntmps93
    go_wp2
    have c0 : (w.alloc (.cells #[.int .i64 a, .int .i64 b, .int .i64 c, .int .i64 e, .int .i64 f] 101)).cell? ⟨w.heap.size, 0, none⟩ = some (.int .i64 a) := by go_simp
    have c1 : (w.alloc (.cells #[.int .i64 a, .int .i64 b, .int .i64 c, .int .i64 e, .int .i64 f] 101)).cell? ⟨w.heap.size, 1, none⟩ = some (.int .i64 b) := by go_simp
    have c2 : (w.alloc (.cells #[.int .i64 a, .int .i64 b, .int .i64 c, .int .i64 e, .int .i64 f] 101)).cell? ⟨w.heap.size, 2, none⟩ = some (.int .i64 c) := by go_simp
    have c3 : (w.alloc (.cells #[.int .i64 a, .int .i64 b, .int .i64 c, .int .i64 e, .int .i64 f] 101)).cell? ⟨w.heap.size, 3, none⟩ = some (.int .i64 e) := by go_simp
    have c4 : (w.alloc (.cells #[.int .i64 a, .int .i64 b, .int .i64 c, .int .i64 e, .int .i64 f] 101)).cell? ⟨w.heap.size, 4, none⟩ = some (.int .i64 f) := by go_simp
    have HB := Lib.hid ((Below.refl w.heap.size w).alloc (Nat.le_refl _) (.cells #[.int .i64 a, .int .i64 b, .int .i64 c, .int .i64 e, .int .i64 f] 101))
    generalize w.alloc (.cells #[.int .i64 a, .int .i64 b, .int .i64 c, .int .i64 e, .int .i64 f] 101) = wA at *
    go_quiet ((go_at_call 31; exact (within_i64 10000 20000000 [a, b, c, e, f] w.heap.size 0 5 5 _ rfl (by omega) (by exact cells5 c0 c1 c2 c3 c4)).mono (fun _ _ h => ⟨by rw [h.1, H0.out], _, h.2.symm⟩)))
    go_wp2
    go_ret
    exact ⟨ret_bool HV.out.symm, HB.out.trans ((below_drewN _ _).mono HB.out.size)⟩

set_option maxHeartbeats 400000 in
theorem implValid_any (a b c e f : Int) (w : World) :
    Calls Tryz.prog 83 #[.agg #[.int .i64 a, .int .i64 b, .int .i64 c, .int .i64 e, .int .i64 f]] w fun en w' => en = .returned (.bool (sndB a b c e f)) ∧ Below w.heap.size w w' := by
  go_enter Tryz.func83, Tryz.ntmps83
  go_wp2_with fail
  refine (partialsOf_any a b c e f _).mono ?_
  rintro en w1 ⟨rfl, hb⟩
  have HB := Lib.hid (below_of ((Below.refl _ _).alloc (Nat.le_refl _) _) hb (by simp))
  clear hb
  go_wp2_with fail
  refine (pvalid_any a b c e f _).mono ?_
  rintro en w2 ⟨rfl, hb⟩
  have HB2 := Lib.hid (below_of HB.out hb HB.out.size)
  clear hb
  go_wp2
  go_ret
  exact ⟨rfl, HB2.out⟩
end Go.Proofs.YtpjopfhkgegahaaGreat
