/- The law on beats, walked: at every pair of inputs it answers true. -/
import Derived.Test.YtpfpdhgdeaoemaaMean
import Derived.Test.YtpfpdhgdeaoemaaRedImpl
import Derived.Test.YtpfpdhgdeaoemaaOctMath
import Derived.Test.YtpfpdhgdeaoemaaNqMath
import Derived.Test.YtpfpdhgdeaoemaaDrawFreq
import Derived.Test.YtpfpdhgdeaoemaaB10
import Derived.Deep.Cut
namespace Go.Proofs.Ytpfpdhgdeaoemaa
open Go.ChangeShapes Go.WideShapes Go.ChangeAt Go.RowKit

theorem bytes_kept {w w' : World} {v : Value} (hb : Below w.heap.size w w') (h : BytesAt w w.heap.size v) : BytesAt w' w'.heap.size v :=
  bytes_more (bytes_below hb h (Nat.le_refl _)) hb.size
theorem beat_flip (f g : Int) : beatR g f = beatR f g := by
  unfold beatR; rw [ok2_flip f g, (apt_bd g f).2.2]
theorem abs_le {n M : Int} (h0 : -M ≤ n) (h1 : n ≤ M) : 0 ≤ absB n ∧ absB n ≤ M := by unfold absB; split <;> omega
/-- What the law asks of the length of a beat. -/
theorem time_near {a : Int} (h0 : 0 < a) (h1 : a ≤ 20000000) : -1000001 ≤ nq 1000000 a ∧ nq 1000000 a ≤ 1000001 ∧ -a ≤ nq 1000000 a * a - 1000000 ∧ nq 1000000 a * a - 1000000 ≤ a := by
  have h := nq_near 1000000 a h0
  have hb := nq_bd 1000000 a (by omega)
  omega
theorem mean_two {f g : Int} (h : ok2 f g = true) : meanR [f, g] = nq (f + g) 2 ∧ meanC [f, g] = 0 := by
  have ha : allIn 10000 20000000 [f, g] = true := (all2 _ _ f g).trans h
  unfold meanR meanC
  rw [if_pos ⟨ha, by simp, by simp⟩, if_pos ha, if_neg (by simp), if_neg (by simp)]
  simp [lsum]
theorem mean_mid {f g : Int} (h : ok2 f g = true) : 0 ≤ nq (f + g) 2 ∧ nq (f + g) 2 ≤ 40000001 ∧ (f ≤ nq (f + g) 2 ∨ g ≤ nq (f + g) 2) ∧ (nq (f + g) 2 ≤ f ∨ nq (f + g) 2 ≤ g) := by
  obtain ⟨⟨a, b⟩, c, d⟩ := ok2_iff.1 h
  rw [nq_pp _ _ (by omega) (by omega)]
  omega
/-- What the law asks of moving by octaves. -/
structure RedIs (x base : Int) : Prop where
  code : codeOf (redOk x base) = 0
  low : 10000 ≤ base ∧ base ≤ 20000000
  mid : base ≤ redR x base ∧ redR x base < 2 * base
  ok : ok2 x (redR x base) = true
  by' : -20000000 ≤ redB x base ∧ redB x base ≤ 20000000
  near : -24 ≤ logV (redR x base) - logV x + 12000 * redB x base ∧ logV (redR x base) - logV x + 12000 * redB x base ≤ 0
theorem red_exists {f base : Int} (f0 : 0 < f) (b0 : 0 < base) (hf : f ≤ 20000000) (hb : base ≤ 20000000) : ∃ g b, IsRed f base g b ∧ -20000000 ≤ b ∧ b ≤ 20000000 := by
  obtain ⟨x, k, hh, hx⟩ : ∃ (x : Int) (k : Nat), Half f base x k ∧ x < 2 * base := by
    have key : ∀ (n : Nat) (x : Int) (k : Nat), x.toNat ≤ n → Half f base x k → ∃ (x : Int) (k : Nat), Half f base x k ∧ x < 2 * base := by
      intro n
      induction n with
      | zero => intro x k hn h; exact absurd h.2.2.2 (by omega)
      | succ n ih =>
        intro x k hn h
        by_cases hc : 2 * base ≤ x
        · exact ih (x / 2) (k + 1) (by omega) (half_next h b0 hc)
        · exact ⟨x, k, h, by omega⟩
    exact key f.toNat f 0 (Nat.le_refl _) (half_start f0)
  have key : ∀ (n : Nat) (y b : Int), (base - y).toNat ≤ n → Mid f base y b → ∃ g b, IsRed f base g b ∧ -20000000 ≤ b ∧ b ≤ 20000000 := by
    intro n
    induction n with
    | zero => intro y b hn h; exact ⟨y, b, mid_end h (by omega), h.2.2.1, h.2.2.2.1⟩
    | succ n ih =>
      intro y b hn h
      by_cases hc : y < base
      · exact ih (y * 2) (b - 1) (by have := h.1; omega) (mid_next h hb hc)
      · exact ⟨y, b, mid_end h hc, h.2.2.1, h.2.2.2.1⟩
  exact key (base - x).toNat x k (Nat.le_refl _) (mid_start hh hf hx)
theorem red_law {x base : Int} (h : redOk x base = true) : RedIs x base := by
  have h2 : ok2 x base = true := by unfold redOk at h; rw [Bool.and_eq_true] at h; exact h.1
  have h3 : okF (redG x base).1 = true := by unfold redOk at h; rw [Bool.and_eq_true] at h; exact h.2
  obtain ⟨⟨a, b⟩, c, d⟩ := ok2_iff.1 h2
  obtain ⟨g, n, hr, n0, n1⟩ := red_exists (show 0 < x by omega) (show 0 < base by omega) b d
  obtain ⟨e1, e2⟩ := red_is (show 0 ≤ x by omega) hr
  have r1 : redR x base = g := by unfold redR; rw [if_pos h]; exact e1
  have r2 : redB x base = n := by unfold redB; rw [if_pos h]; exact e2
  rw [e1] at h3
  have hg := okF_iff.1 h3
  refine ⟨by rw [h]; rfl, ⟨c, d⟩, ?_, ?_, ?_, ?_⟩
  · rw [r1]; exact ⟨hr.1, hr.2.1⟩
  · rw [r1]; exact ok2_iff.2 ⟨⟨a, b⟩, hg⟩
  · rw [r2]; exact ⟨n0, n1⟩
  · rw [r1, r2]; exact red_near a b c hr hg.2

theorem cellsFG (w : World) (f g : Int) (T : TypeId) (n : Nat) (hn : n = w.heap.size) : ∀ j, j < 2 → (w.alloc (.cells #[.int .i64 f, .int .i64 g] T)).cell? ⟨n, 0 + j, none⟩ = some (.int .i64 ([f, g].getD j 0)) := by
  subst hn
  exact cellF2 w f g T

set_option maxRecDepth 100000 in
set_option maxHeartbeats 8000000 in
theorem beats_walk (a0 a1 : Option Addr) (n0 c0 n1 c1 : Nat) (w : World) (hI0 : n0 ≤ 1048576 → BytesAt w w.heap.size (.slice a0 n0 c0)) (hI1 : n1 ≤ 1048576 → BytesAt w w.heap.size (.slice a1 n1 c1)) :
    Calls Try.prog 3 #[.slice a0 n0 c0, .slice a1 n1 c1] w fun e w' => e = .returned (.bool true) ∧ Below w.heap.size w w' := by
  by_cases h0 : 1048576 < n0
  · have HT := Lib.hid (show longB n0 = true by simp [longB, h0])
    clear hI0 hI1
    go_enter Try.func3, Try.ntmps3
    go_wp2_with fail
    refine (b10Long_any a0 n0 c0 _).mono ?_
    rintro e w1 ⟨rfl, rfl⟩
    rw [HT.out]
    go_wp2
    go_ret
    exact ⟨rfl, Below.refl _ _⟩
  · have HT := Lib.hid (show longB n0 = false by simp [longB, h0])
    by_cases h1 : 1048576 < n1
    · have HT1 := Lib.hid (show longB n1 = true by simp [longB, h1])
      clear hI0 hI1
      go_enter Try.func3, Try.ntmps3
      go_wp2_with fail
      refine (b10Long_any a0 n0 c0 _).mono ?_
      rintro e w1 ⟨rfl, rfl⟩
      rw [HT.out]
      go_wp2_with fail
      refine (b10Long_any a1 n1 c1 _).mono ?_
      rintro e w1 ⟨rfl, rfl⟩
      rw [HT1.out]
      go_wp2
      go_ret
      exact ⟨rfl, Below.refl _ _⟩
    · have HT1 := Lib.hid (show longB n1 = false by simp [longB, h1])
      have HI0 := Lib.hid (hI0 (by omega))
      have HI1 := Lib.hid (hI1 (by omega))
      clear hI0 hI1
      go_enter Try.func3, Try.ntmps3
      go_wp2_with fail
      refine (b10Long_any a0 n0 c0 _).mono ?_
      rintro e w1 ⟨rfl, rfl⟩
      rw [HT.out]
      go_wp2_with fail
      refine (b10Long_any a1 n1 c1 _).mono ?_
      rintro e w1 ⟨rfl, rfl⟩
      rw [HT1.out]
      go_wp2_with fail
      refine (drawBeat_any _ _ HI0.out).mono ?_
      rintro e w1 ⟨f, g, f0, f1, g0, g1, rfl, hb⟩
      have HB1 := Lib.hid hb
      clear hb
      go_wp2_with fail
      refine (implBeat_any f g _).mono ?_
      rintro e w2 ⟨rfl, hb⟩
      have HB2 := Lib.hid (below_of HB1.out hb HB1.out.size)
      clear hb
      go_wp2_with fail
      refine (implBeat_any g f _).mono ?_
      rintro e w3 ⟨rfl, hb⟩
      have HB3 := Lib.hid (below_of HB2.out hb HB2.out.size)
      clear hb
      rw [beat_flip f g, ok2_flip f g]
      rcases rf_cases (ok2 f g) with h2 | h2
      · have HF := Lib.hid (show beatR f g = aptV f g by unfold beatR; rw [if_pos h2])
        have HM := Lib.hid (mean_two h2)
        obtain ⟨v0, v1, v2, v3⟩ := mean_mid h2
        obtain ⟨⟨b0, b1⟩, b2, b3⟩ := ok2_iff.1 h2
        rw [HF.out, h2, show codeOf true = 0 from rfl]
        have HTC := Lib.hid (show timeC f g = if f = g then 6 else 0 by unfold timeC; rw [if_pos h2])
        have HTR := Lib.hid (show f ≠ g → timeR f g = nq 1000000 (aptV f g) from fun e => by unfold timeR; rw [if_pos ⟨h2, e⟩])
        have HTZ := Lib.hid (show f = g → timeR f g = 0 from fun e => by unfold timeR; rw [if_neg (fun h => h.2 e)])
        have HAP := Lib.hid (apt_bd f g)
        have c2 := apt_le (show 0 ≤ f by omega) b1 (show 0 ≤ g by omega) b3
        clear h2
        generalize aptV f g = a at *
        have hnn : (a != a) = false := by simp
        go_wp2_with fail
        refine (implBeatTime_any f g _).mono ?_
        rintro e w4 ⟨rfl, hb⟩
        have HB4 := Lib.hid (below_of HB3.out hb HB3.out.size)
        clear hb
        go_wp2_with fail
        refine (implMean_any [f, g] _ 0 2 2 _ (Lib.hid rfl) (by omega) (cellsFG _ _ _ _ _ rfl)).mono ?_
        rintro e w5 ⟨rfl, hb⟩
        have HB5 := Lib.hid (below_of (HB4.out.alloc HB4.out.size _) hb (by have := HB4.out.size; simp; omega))
        clear hb
        rw [HM.out.1, HM.out.2]
        generalize nq (f + g) 2 = m at *
        go_upto_region 11 with fail
        go_cut [11, 12, 110] from 22 (fun s11 s12 s110 wr => ∃ p q : Int, s11 = .int .i64 p ∧ s12 = .int .i64 q ∧ s110 = .bool false ∧ wr = w5)
        case first =>
          by_cases he : f = g
          · have e1 := Lib.hid (HTZ.out he)
            have e2 := Lib.hid (show timeC f g = 6 by rw [HTC.out, if_pos he])
            have hq : (f != g) = false := by simpa using he
            rw [e1.out, e2.out]
            clear he
            go_wp2
            all_goals (go_meet; case rel => exact ⟨_, _, rfl, rfl, by first | (go_simp; done) | (go_simp; omega), rfl⟩)
          · have e1 := Lib.hid (HTR.out he)
            have e2 := Lib.hid (show timeC f g = 0 by rw [HTC.out, if_neg he])
            have hq : (f != g) = true := by simpa using he
            have ha0 : 0 < a := by
              have h1 := HAP.out.1
              have h2 : a ≠ 0 := fun e => he (HAP.out.2.1.1 e)
              omega
            obtain ⟨t0, t1, t2, t3⟩ := time_near ha0 c2
            rw [e1.out, e2.out]
            clear he
            generalize nq 1000000 a = t at *
            have hab := abs_le t2 t3
            go_wp2_with fail
            refine (b10Abs_any (t * a - 1000000) _ (by omega) (by omega)).mono ?_
            rintro e w13 ⟨rfl, rfl⟩
            generalize absB (t * a - 1000000) = u at *
            have hu : decide (a < u) = false := decide_eq_false (by omega)
            go_wp2
            all_goals (go_meet; case rel => exact ⟨_, _, rfl, rfl, by first | (go_simp; done) | (go_simp; omega), rfl⟩)
        case rest =>
        obtain ⟨p, q, rfl, rfl, rfl, rfl⟩ := hcut
        have HB9 := HB5
        go_wp2_with fail
        refine (drawReduce_any _ _ (bytes_kept HB9.out HI1.out)).mono ?_
        rintro e w10 ⟨x, base, x0, x1, y0, y1, rfl, hb⟩
        have HB10 := Lib.hid (below_of HB9.out hb HB9.out.size)
        clear hb
        go_wp2_with fail
        refine (implReduce_any x base _).mono ?_
        rintro e w11 ⟨rfl, hb⟩
        have HB11 := Lib.hid (below_of HB10.out hb HB10.out.size)
        clear hb
        rcases rf_cases (redOk x base) with h5 | h5
        · have HR := Lib.hid (red_law h5)
          have hc5 := HR.out.code
          rw [hc5]
          clear hc5
          obtain ⟨l0, l1⟩ := HR.out.low
          obtain ⟨m0, m1⟩ := HR.out.mid
          obtain ⟨p0, p1⟩ := HR.out.by'
          obtain ⟨q0, q1⟩ := HR.out.near
          have HOK := Lib.hid HR.out.ok
          have HCE := Lib.hid (show centsR x (redR x base) = logV (redR x base) - logV x by unfold centsR; rw [if_pos HOK.out])
          have HCC := Lib.hid (show codeOf (ok2 x (redR x base)) = 0 by rw [HOK.out]; rfl)
          clear h5 HR
          generalize redR x base = y at *
          generalize redB x base = n at *
          go_wp2_with fail
          refine (implCentsBetween_any x y _).mono ?_
          rintro e w12 ⟨rfl, hb⟩
          have HB12 := Lib.hid (below_of HB11.out hb HB11.out.size)
          clear hb
          rw [HCE.out, HCC.out]
          generalize logV y - logV x = d at *
          have ha := abs_le (show -40 ≤ d + 12000 * n by omega) (show d + 12000 * n ≤ 40 by omega)
          go_wp2_with fail
          refine (b10Abs_any (d + 12000 * n) _ (by omega) (by omega)).mono ?_
          rintro e w13 ⟨rfl, rfl⟩
          generalize absB (d + 12000 * n) = u at *
          have hu : decide (u ≤ 40) = true := decide_eq_true ha.2
          go_wp2
          go_ret
          exact ⟨rfl, HB12.out⟩
        · have e1 := Lib.hid (show redR x base = 0 by unfold redR; rw [h5]; rfl)
          have e2 := Lib.hid (show redB x base = 0 by unfold redB; rw [h5]; rfl)
          rw [e1.out, e2.out, h5]
          rw [show codeOf false = 2 from rfl]
          clear h5
          go_wp2
          go_ret
          exact ⟨rfl, HB11.out⟩
      · have HF := Lib.hid (show beatR f g = 0 by unfold beatR; rw [h2]; rfl)
        rw [HF.out, h2, show codeOf false = 2 from rfl]
        clear h2
        have HB9 := HB3
        go_wp2_with fail
        refine (drawReduce_any _ _ (bytes_kept HB9.out HI1.out)).mono ?_
        rintro e w10 ⟨x, base, x0, x1, y0, y1, rfl, hb⟩
        have HB10 := Lib.hid (below_of HB9.out hb HB9.out.size)
        clear hb
        go_wp2_with fail
        refine (implReduce_any x base _).mono ?_
        rintro e w11 ⟨rfl, hb⟩
        have HB11 := Lib.hid (below_of HB10.out hb HB10.out.size)
        clear hb
        rcases rf_cases (redOk x base) with h5 | h5
        · have HR := Lib.hid (red_law h5)
          have hc5 := HR.out.code
          rw [hc5]
          clear hc5
          obtain ⟨l0, l1⟩ := HR.out.low
          obtain ⟨m0, m1⟩ := HR.out.mid
          obtain ⟨p0, p1⟩ := HR.out.by'
          obtain ⟨q0, q1⟩ := HR.out.near
          have HOK := Lib.hid HR.out.ok
          have HCE := Lib.hid (show centsR x (redR x base) = logV (redR x base) - logV x by unfold centsR; rw [if_pos HOK.out])
          have HCC := Lib.hid (show codeOf (ok2 x (redR x base)) = 0 by rw [HOK.out]; rfl)
          clear h5 HR
          generalize redR x base = y at *
          generalize redB x base = n at *
          go_wp2_with fail
          refine (implCentsBetween_any x y _).mono ?_
          rintro e w12 ⟨rfl, hb⟩
          have HB12 := Lib.hid (below_of HB11.out hb HB11.out.size)
          clear hb
          rw [HCE.out, HCC.out]
          generalize logV y - logV x = d at *
          have ha := abs_le (show -40 ≤ d + 12000 * n by omega) (show d + 12000 * n ≤ 40 by omega)
          go_wp2_with fail
          refine (b10Abs_any (d + 12000 * n) _ (by omega) (by omega)).mono ?_
          rintro e w13 ⟨rfl, rfl⟩
          generalize absB (d + 12000 * n) = u at *
          have hu : decide (u ≤ 40) = true := decide_eq_true ha.2
          go_wp2
          go_ret
          exact ⟨rfl, HB12.out⟩
        · have e1 := Lib.hid (show redR x base = 0 by unfold redR; rw [h5]; rfl)
          have e2 := Lib.hid (show redB x base = 0 by unfold redB; rw [h5]; rfl)
          rw [e1.out, e2.out, h5]
          rw [show codeOf false = 2 from rfl]
          clear h5
          go_wp2
          go_ret
          exact ⟨rfl, HB11.out⟩
end Go.Proofs.Ytpfpdhgdeaoemaa
