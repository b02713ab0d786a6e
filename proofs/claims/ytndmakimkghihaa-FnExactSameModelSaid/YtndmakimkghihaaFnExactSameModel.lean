/- The law FnExactSameModel answers true at every two models and changes nothing: the program's answer and the reference model's are equal. -/
import Derived.Test.YtndmakimkghihaaRows
import Derived.Test.YtndmakimkghihaaBase
import Derived.Test.YtndmakimkghihaaLaidOut
import Derived.Test.YtndmakimkghihaaModLaw
import Derived.Test.YtndmakimkghihaaSameM
import Derived.Deep.RegionHeld3
namespace Go.Proofs.Ytndmakimkghihaa.fnExactSameModel
open Go.ChangeShapes Go.WideShapes Go.ChangeAt Go.RowKit
open Go.ChangeMaps (open_string shut_string)
set_option linter.unusedVariables false

theorem own : ownKnob Try.prog.godebug = none := by kernel_rfl

theorem mheld {w5 W W2 : World} {b1 b2 : Nat} {x0 x1 x2 y0 y1 y2 : Value} (hz : b1 < w5.heap.size ∧ b2 < w5.heap.size) (h0 : w5.cell? ⟨b2, 0, none⟩ = some x0) (h1 : w5.cell? ⟨b2, 1, none⟩ = some x1) (h2 : w5.cell? ⟨b2, 2, none⟩ = some x2) (k0 : w5.cell? ⟨b1, 0, none⟩ = some y0) (k1 : w5.cell? ⟨b1, 1, none⟩ = some y1) (k2 : w5.cell? ⟨b1, 2, none⟩ = some y2)
    (hW : Below w5.heap.size w5 W) (hb : Below W.heap.size W W2) : W2.cell? ⟨b2, 0, none⟩ = some x0 ∧ W2.cell? ⟨b2, 1, none⟩ = some x1 ∧ W2.cell? ⟨b2, 2, none⟩ = some x2 ∧ W2.cell? ⟨b1, 0, none⟩ = some y0 ∧ W2.cell? ⟨b1, 1, none⟩ = some y1 ∧ W2.cell? ⟨b1, 2, none⟩ = some y2 ∧ Below w5.heap.size w5 W2 := by
  have h := below_of hW hb hW.size
  exact ⟨(below_cell h _ _ hz.2).trans h0, (below_cell h _ _ hz.2).trans h1, (below_cell h _ _ hz.2).trans h2, (below_cell h _ _ hz.1).trans k0, (below_cell h _ _ hz.1).trans k1, (below_cell h _ _ hz.1).trans k2, h⟩
set_option maxRecDepth 100000 in
set_option maxHeartbeats 4000000 in
theorem walk (v u : Value) (w : World) (hM : ModArg w v) (hM2 : ModArg w u) :
    Calls Try.prog 4 #[v, u] w fun e w' => e = .returned (.bool true) ∧ Below w.heap.size w w' := by
  obtain ⟨x0, x1, x2, n0, n1, n2, L, rfl, hf0, hn0, hsz, hn1, hf2, hn2, hmk⟩ := hM
  obtain ⟨y0, y1, y2, m0, m1, m2, L2, rfl, hg0, hm0, hsz2, hm1, hg2, hm2, hmk2⟩ := hM2
  have HF0 := Lib.hid hf0
  have HF2 := Lib.hid hf2
  have HG0 := Lib.hid hg0
  have HG2 := Lib.hid hg2
  have hba := ((Below.refl w.heap.size w).alloc (Nat.le_refl _) (.cells #[x0, x1, x2] 25)).alloc (by simp) (.cells #[y0, y1, y2] 25)
  have HSZ := Lib.hid (sz_kept hba hsz)
  have HSZ2 := Lib.hid hsz2
  have HBA := Lib.hid hba
  clear hf0 hf2 hg0 hg2 hsz hsz2 hba
  by_cases hbig : n0 + (n1 + sumL L n1) + n2 ≤ 1048576
  · have HL := Lib.hid (show leftN (n0 + (n1 + sumL L n1) + n2) 1048576 = 1048576 - ((n0 + (n1 + sumL L n1) + n2 : Nat) : Int) from leftN_yes (by omega))
    obtain ⟨T, hT⟩ : ∃ T, n0 + (n1 + sumL L n1) + n2 = T := ⟨_, rfl⟩
    obtain ⟨zs, ws, bs, hl0, hl1, hl2, I0, I1, I2, hlr⟩ := hmk hbig
    have HI0 := Lib.hid I0
    have HI1 := Lib.hid I1
    have HI2 := Lib.hid I2
    have HLR := Lib.hid hlr
    have hz0 : zs.length ≤ 1048576 := by omega
    have hz1 : ws.length ≤ 1048576 := by omega
    have hz2 : bs.length ≤ 1048576 := by omega
    clear I0 I1 I2 hmk hlr hl0 hl1 hl2
    by_cases hbig2 : T + (m0 + (m1 + sumL L2 m1) + m2) ≤ 1048576
    · have HL2 := Lib.hid (show leftN (m0 + (m1 + sumL L2 m1) + m2) (1048576 - (T : Int)) = 1048576 - (T : Int) - ((m0 + (m1 + sumL L2 m1) + m2 : Nat) : Int) from leftN_yes (by omega))
      obtain ⟨T2, hT2⟩ : ∃ T2, m0 + (m1 + sumL L2 m1) + m2 = T2 := ⟨_, rfl⟩
      obtain ⟨zt, wt, bt, hl0, hl1, hl2, I0, I1, I2, hlr⟩ := hmk2 (by omega)
      have HJ0 := Lib.hid I0
      have HJ1 := Lib.hid I1
      have HJ2 := Lib.hid I2
      have HLS := Lib.hid hlr
      have hy0 : zt.length ≤ 1048576 := by omega
      have hy1 : wt.length ≤ 1048576 := by omega
      have hy2 : bt.length ≤ 1048576 := by omega
      clear I0 I1 I2 hmk2 hlr hl0 hl1 hl2
      go_enter Try.func4, Try.ntmps4
      go_wp2_with fail
      refine (szMod_any x0 x1 x2 n0 n1 n2 L 1048576 _ HF0 hn0 HSZ hn1 HF2 hn2 (by omega) (by omega)).mono ?_
      rintro e w1 ⟨rfl, hb⟩
      rw [HL.out, hT]
      rw [hT2] at hbig2
      have b0 : w1.cell? ⟨w.heap.size, 0, none⟩ = some x0 := by rw [below_cell hb _ _ (by simp; omega)]; go_simp
      have b1 : w1.cell? ⟨w.heap.size, 1, none⟩ = some x1 := by rw [below_cell hb _ _ (by simp; omega)]; go_simp
      have b2 : w1.cell? ⟨w.heap.size, 2, none⟩ = some x2 := by rw [below_cell hb _ _ (by simp; omega)]; go_simp
      have c0 : w1.cell? ⟨w.heap.size + 1, 0, none⟩ = some y0 := by rw [below_cell hb _ _ (by simp)]; go_simp
      have c1 : w1.cell? ⟨w.heap.size + 1, 1, none⟩ = some y1 := by rw [below_cell hb _ _ (by simp)]; go_simp
      have c2 : w1.cell? ⟨w.heap.size + 1, 2, none⟩ = some y2 := by rw [below_cell hb _ _ (by simp)]; go_simp
      have HB1 := Lib.hid (below_of HBA.out hb HBA.out.size)
      have hh1 : w.heap.size < w1.heap.size ∧ w.heap.size + 1 < w1.heap.size := by have := hb.size; simp at this; omega
      have hT0 : (0 : Int) ≤ 1048576 - (T : Int) := by omega
      have hT1 : (1048576 : Int) - (T : Int) ≤ 1048576 := by omega
      have HSZ3 := Lib.hid (sz_kept HB1.out HSZ2.out)
      have HT0 := Lib.hid hT0
      have HT1 := Lib.hid hT1
      clear hb hbig
      go_wp2_with fail
      refine (szMod_any y0 y1 y2 m0 m1 m2 L2 (1048576 - (T : Int)) _ HG0 hm0 HSZ3 hm1 HG2 hm2 HT0.out HT1.out).mono ?_
      rintro e w2 ⟨rfl, hb⟩
      rw [HL2.out, hT2]
      have b0 := (below_cell hb _ _ hh1.1).trans b0
      have b1 := (below_cell hb _ _ hh1.1).trans b1
      have b2 := (below_cell hb _ _ hh1.1).trans b2
      have c0 := (below_cell hb _ _ hh1.2).trans c0
      have c1 := (below_cell hb _ _ hh1.2).trans c1
      have c2 := (below_cell hb _ _ hh1.2).trans c2
      have HB2 := Lib.hid (below_of HB1.out hb HB1.out.size)
      have hh2 : w.heap.size < w2.heap.size ∧ w.heap.size + 1 < w2.heap.size := ⟨Nat.lt_of_lt_of_le hh1.1 hb.size, Nat.lt_of_lt_of_le hh1.2 hb.size⟩
      have hlq : (0 : Int) ≤ 1048576 - (T : Int) - (T2 : Int) := by omega
      have A0 := Lib.hid (ints_kept HB2.out HI0.out)
      have A1 := Lib.hid (mrows_kept HB2.out HI1.out)
      have A2 := Lib.hid (ints_kept HB2.out HI2.out)
      have C0 := Lib.hid (ints_kept HB2.out HJ0.out)
      have C1 := Lib.hid (mrows_kept HB2.out HJ1.out)
      have C2 := Lib.hid (ints_kept HB2.out HJ2.out)
      have hzz : w.heap.size < w2.heap.size ∧ w.heap.size + 1 < w2.heap.size := hh2
      clear hb
      go_wp2_with fail
      go_region_held3 (fun w' => w'.cell? ⟨w.heap.size + 1, 0, none⟩ = some y0 ∧ w'.cell? ⟨w.heap.size + 1, 1, none⟩ = some y1 ∧ w'.cell? ⟨w.heap.size + 1, 2, none⟩ = some y2 ∧ w'.cell? ⟨w.heap.size, 0, none⟩ = some x0 ∧ w'.cell? ⟨w.heap.size, 1, none⟩ = some x1 ∧ w'.cell? ⟨w.heap.size, 2, none⟩ = some x2 ∧ Below w2.heap.size w2 w')
        (first | exact ⟨c0, c1, c2, b0, b1, b2, ⟨rfl, rfl, rfl, Nat.le_refl _, fun _ _ => rfl⟩⟩ | exact mheld (W := w2.drew) hzz c0 c1 c2 b0 b1 b2 ⟨rfl, rfl, rfl, Nat.le_refl _, fun _ _ => rfl⟩ hb6 | exact mheld (W := w6) hzz c0 c1 c2 b0 b1 b2 (below_of (w1 := w2.drew) ⟨rfl, rfl, rfl, Nat.le_refl _, fun _ _ => rfl⟩ hb6 (Nat.le_refl _)) hb7 | exact mheld (W := w7) hzz c0 c1 c2 b0 b1 b2 (below_of (below_of (w1 := w2.drew) ⟨rfl, rfl, rfl, Nat.le_refl _, fun _ _ => rfl⟩ hb6 (Nat.le_refl _)) hb7 (Nat.le_trans (show w2.heap.size ≤ w6.heap.size from hb6.size) (Nat.le_refl _))) hb8 | assumption)
        (first
          | (go_at_call_of 17 (Value.agg #[x0, x1, x2]); refine (toMod_any x0 x1 x2 zs ws bs w2.drew (ints_kept (w := w2) (w' := w2.drew) ⟨rfl, rfl, rfl, Nat.le_refl _, fun _ _ => rfl⟩ A0.out) (mrows_kept (w := w2) (w' := w2.drew) ⟨rfl, rfl, rfl, Nat.le_refl _, fun _ _ => rfl⟩ A1.out) (ints_kept (w := w2) (w' := w2.drew) ⟨rfl, rfl, rfl, Nat.le_refl _, fun _ _ => rfl⟩ A2.out)).mono ?_; rintro e w6 ⟨p0, p1, p2, rfl, o0, o1, o2, hb6⟩)
          | (go_at_call_of 17 (Value.agg #[y0, y1, y2]); refine (toMod_any y0 y1 y2 zt wt bt w6 (ints_kept hb6 (ints_kept (w := w2) (w' := w2.drew) ⟨rfl, rfl, rfl, Nat.le_refl _, fun _ _ => rfl⟩ C0.out)) (mrows_kept hb6 (mrows_kept (w := w2) (w' := w2.drew) ⟨rfl, rfl, rfl, Nat.le_refl _, fun _ _ => rfl⟩ C1.out)) (ints_kept hb6 (ints_kept (w := w2) (w' := w2.drew) ⟨rfl, rfl, rfl, Nat.le_refl _, fun _ _ => rfl⟩ C2.out))).mono ?_; rintro e w7 ⟨q0, q1, q2, rfl, r0, r1, r2, hb7⟩)
          | (go_at_call 20; refine (specSameM_any p0 p1 p2 q0 q1 q2 zs zt ws wt bs bt w7 (ints_kept hb7 (own_ints hz0 o0)) (mrows_kept hb7 (ownRows_rows hz1 HLR.out o1)) (ints_kept hb7 (own_ints hz2 o2)) (own_ints hy0 r0) (ownRows_rows hy1 HLS.out r1) (own_ints hy2 r2)).mono ?_; rintro e w8 ⟨rfl, hb8⟩))
      have h26 : Below w2.heap.size w2 w6 := below_of (w1 := w2.drew) ⟨rfl, rfl, rfl, Nat.le_refl _, fun _ _ => rfl⟩ hb6 (Nat.le_refl _)
      have h27 := below_of h26 hb7 h26.size
      have hb := below_of h27 hb8 h27.size
      have b0 := (below_cell hb _ _ hh2.1).trans b0
      have b1 := (below_cell hb _ _ hh2.1).trans b1
      have b2 := (below_cell hb _ _ hh2.1).trans b2
      have c0 := (below_cell hb _ _ hh2.2).trans c0
      have c1 := (below_cell hb _ _ hh2.2).trans c1
      have c2 := (below_cell hb _ _ hh2.2).trans c2
      have HB8 := Lib.hid (below_of HB2.out hb HB2.out.size)
      have hh8 : w.heap.size < w8.heap.size ∧ w.heap.size + 1 < w8.heap.size := ⟨Nat.lt_of_lt_of_le hh2.1 hb.size, Nat.lt_of_lt_of_le hh2.2 hb.size⟩
      clear hb hb6 hb7 hb8 h26 h27 o0 o1 o2 r0 r1 r2 A0 A1 A2 C0 C1 C2 hzz
      go_wp2_with fail
      refine (toMod_any x0 x1 x2 zs ws bs _ (ints_kept HB8.out HI0.out) (mrows_kept HB8.out HI1.out) (ints_kept HB8.out HI2.out)).mono ?_
      rintro e w9 ⟨s0, s1, s2, rfl, o0, o1, o2, hb⟩
      have R0 := Lib.hid (own_ints hz0 o0)
      have R1 := Lib.hid (ownRows_rows hz1 HLR.out o1)
      have R2 := Lib.hid (own_ints hz2 o2)
      have b0 := (below_cell hb _ _ hh8.1).trans b0
      have b1 := (below_cell hb _ _ hh8.1).trans b1
      have b2 := (below_cell hb _ _ hh8.1).trans b2
      have c0 := (below_cell hb _ _ hh8.2).trans c0
      have c1 := (below_cell hb _ _ hh8.2).trans c1
      have c2 := (below_cell hb _ _ hh8.2).trans c2
      have HB9 := Lib.hid (below_of HB8.out hb HB8.out.size)
      have hh9 : w.heap.size < w9.heap.size ∧ w.heap.size + 1 < w9.heap.size := ⟨Nat.lt_of_lt_of_le hh8.1 hb.size, Nat.lt_of_lt_of_le hh8.2 hb.size⟩
      clear hb o0 o1 o2
      obtain ⟨qa0, qc0, rfl⟩ := ints_form R0.out
      obtain ⟨qa1, qc1, rfl⟩ := mrows_form R1.out
      obtain ⟨qa2, qc2, rfl⟩ := ints_form R2.out
      have hbx := (Below.refl w9.heap.size w9).alloc (Nat.le_refl _) (.cells #[.slice qa0 zs.length qc0, .slice qa1 ws.length qc1, .slice qa2 bs.length qc2] 28)
      have HBX := Lib.hid hbx
      have d0 : (w9.alloc (.cells #[.slice qa0 zs.length qc0, .slice qa1 ws.length qc1, .slice qa2 bs.length qc2] 28)).cell? ⟨w.heap.size + 1, 0, none⟩ = some y0 := (below_cell hbx _ _ hh9.2).trans c0
      have d1 : (w9.alloc (.cells #[.slice qa0 zs.length qc0, .slice qa1 ws.length qc1, .slice qa2 bs.length qc2] 28)).cell? ⟨w.heap.size + 1, 1, none⟩ = some y1 := (below_cell hbx _ _ hh9.2).trans c1
      have d2 : (w9.alloc (.cells #[.slice qa0 zs.length qc0, .slice qa1 ws.length qc1, .slice qa2 bs.length qc2] 28)).cell? ⟨w.heap.size + 1, 2, none⟩ = some y2 := (below_cell hbx _ _ hh9.2).trans c2
      go_wp2_with fail
      refine (toMod_any y0 y1 y2 zt wt bt _ (ints_kept (below_of HB9.out HBX.out HB9.out.size) HJ0.out) (mrows_kept (below_of HB9.out HBX.out HB9.out.size) HJ1.out) (ints_kept (below_of HB9.out HBX.out HB9.out.size) HJ2.out)).mono ?_
      rintro e w10 ⟨t0, t1, t2, rfl, o0, o1, o2, hb⟩
      have S0 := Lib.hid (own_ints hy0 o0)
      have S1 := Lib.hid (ownRows_rows hy1 HLS.out o1)
      have S2 := Lib.hid (own_ints hy2 o2)
      have hbt := below_of HBX.out hb HBX.out.size
      have b0 := (below_cell hbt _ _ hh9.1).trans b0
      have b1 := (below_cell hbt _ _ hh9.1).trans b1
      have b2 := (below_cell hbt _ _ hh9.1).trans b2
      have c0 := (below_cell hbt _ _ hh9.2).trans c0
      have c1 := (below_cell hbt _ _ hh9.2).trans c1
      have c2 := (below_cell hbt _ _ hh9.2).trans c2
      have k0 : w10.cell? ⟨w9.heap.size, 0, none⟩ = some (.slice qa0 zs.length qc0) := by rw [below_cell hb _ _ (by simp)]; go_simp
      have k1 : w10.cell? ⟨w9.heap.size, 1, none⟩ = some (.slice qa1 ws.length qc1) := by rw [below_cell hb _ _ (by simp)]; go_simp
      have k2 : w10.cell? ⟨w9.heap.size, 2, none⟩ = some (.slice qa2 bs.length qc2) := by rw [below_cell hb _ _ (by simp)]; go_simp
      have HR0 := Lib.hid (ints_kept hbt R0.out)
      have HR1 := Lib.hid (mrows_kept hbt R1.out)
      have HR2 := Lib.hid (ints_kept hbt R2.out)
      have HB10 := Lib.hid (below_of HB9.out hbt HB9.out.size)
      have hh10 : (w.heap.size < w10.heap.size ∧ w.heap.size + 1 < w10.heap.size) ∧ w9.heap.size < w10.heap.size := ⟨⟨Nat.lt_of_lt_of_le hh9.1 hbt.size, Nat.lt_of_lt_of_le hh9.2 hbt.size⟩, by have := hb.size; simp at this; omega⟩
      clear hb hbt hbx d0 d1 d2 o0 o1 o2 R0 R1 R2
      obtain ⟨ra0, rc0, rfl⟩ := ints_form S0.out
      obtain ⟨ra1, rc1, rfl⟩ := mrows_form S1.out
      obtain ⟨ra2, rc2, rfl⟩ := ints_form S2.out
      have hbx := (Below.refl w10.heap.size w10).alloc (Nat.le_refl _) (.cells #[.slice ra0 zt.length rc0, .slice ra1 wt.length rc1, .slice ra2 bt.length rc2] 28)
      have HBX2 := Lib.hid hbx
      have l0 : (w10.alloc (.cells #[.slice ra0 zt.length rc0, .slice ra1 wt.length rc1, .slice ra2 bt.length rc2] 28)).cell? ⟨w9.heap.size, 0, none⟩ = some (.slice qa0 zs.length qc0) := (below_cell hbx _ _ hh10.2).trans k0
      have l1 : (w10.alloc (.cells #[.slice ra0 zt.length rc0, .slice ra1 wt.length rc1, .slice ra2 bt.length rc2] 28)).cell? ⟨w9.heap.size, 1, none⟩ = some (.slice qa1 ws.length qc1) := (below_cell hbx _ _ hh10.2).trans k1
      have l2 : (w10.alloc (.cells #[.slice ra0 zt.length rc0, .slice ra1 wt.length rc1, .slice ra2 bt.length rc2] 28)).cell? ⟨w9.heap.size, 2, none⟩ = some (.slice qa2 bs.length qc2) := (below_cell hbx _ _ hh10.2).trans k2
      clear hbx
      go_wp2_with fail
      refine (implSameM_any _ _ _ _ _ _ zs zt ws wt bs bt _ (ints_kept HBX2.out HR0.out) (mrows_kept HBX2.out HR1.out) (ints_kept HBX2.out HR2.out) (ints_kept HBX2.out S0.out) (mrows_kept HBX2.out S1.out) (ints_kept HBX2.out S2.out)).mono ?_
      rintro e w11 ⟨rfl, hb⟩
      have hbt := below_of HBX2.out hb HBX2.out.size
      have b0 := (below_cell hbt _ _ hh10.1.1).trans b0
      have b1 := (below_cell hbt _ _ hh10.1.1).trans b1
      have b2 := (below_cell hbt _ _ hh10.1.1).trans b2
      have c0 := (below_cell hbt _ _ hh10.1.2).trans c0
      have c1 := (below_cell hbt _ _ hh10.1.2).trans c1
      have c2 := (below_cell hbt _ _ hh10.1.2).trans c2
      have k0 := (below_cell hbt _ _ hh10.2).trans k0
      have k1 := (below_cell hbt _ _ hh10.2).trans k1
      have k2 := (below_cell hbt _ _ hh10.2).trans k2
      have m0' : w11.cell? ⟨w10.heap.size, 0, none⟩ = some (.slice ra0 zt.length rc0) := by rw [below_cell hb _ _ (by simp)]; go_simp
      have m1' : w11.cell? ⟨w10.heap.size, 1, none⟩ = some (.slice ra1 wt.length rc1) := by rw [below_cell hb _ _ (by simp)]; go_simp
      have m2' : w11.cell? ⟨w10.heap.size, 2, none⟩ = some (.slice ra2 bt.length rc2) := by rw [below_cell hb _ _ (by simp)]; go_simp
      have T0 := Lib.hid (ints_kept hbt HR0.out)
      have T1 := Lib.hid (mrows_kept hbt HR1.out)
      have T2' := Lib.hid (ints_kept hbt HR2.out)
      have U0 := Lib.hid (ints_kept hbt S0.out)
      have U1 := Lib.hid (mrows_kept hbt S1.out)
      have U2 := Lib.hid (ints_kept hbt S2.out)
      have HB11 := Lib.hid (below_of HB10.out hbt HB10.out.size)
      have hh11 : (w.heap.size < w11.heap.size ∧ w.heap.size + 1 < w11.heap.size) ∧ w9.heap.size < w11.heap.size ∧ w10.heap.size < w11.heap.size := ⟨⟨Nat.lt_of_lt_of_le hh10.1.1 hbt.size, Nat.lt_of_lt_of_le hh10.1.2 hbt.size⟩, Nat.lt_of_lt_of_le hh10.2 hbt.size, by have := hb.size; simp at this; omega⟩
      clear hb hbt l0 l1 l2 HR0 HR1 HR2 S0 S1 S2
      generalize sameM zs zt ws wt bs bt = g0
      have hg0' : (g0 != g0) = false := by simp
      have hzz : w9.heap.size < w11.heap.size ∧ w.heap.size < w11.heap.size := ⟨hh11.2.1, hh11.1.1⟩
      have V0 := Lib.hid (ints_kept HB11.out HI0.out)
      have V1 := Lib.hid (mrows_kept HB11.out HI1.out)
      have V2 := Lib.hid (ints_kept HB11.out HI2.out)
      go_wp2
      go_region_held3 (fun w' => w'.cell? ⟨w.heap.size, 0, none⟩ = some x0 ∧ w'.cell? ⟨w.heap.size, 1, none⟩ = some x1 ∧ w'.cell? ⟨w.heap.size, 2, none⟩ = some x2 ∧ w'.cell? ⟨w9.heap.size, 0, none⟩ = some (.slice qa0 zs.length qc0) ∧ w'.cell? ⟨w9.heap.size, 1, none⟩ = some (.slice qa1 ws.length qc1) ∧ w'.cell? ⟨w9.heap.size, 2, none⟩ = some (.slice qa2 bs.length qc2) ∧ Below w11.heap.size w11 w')
        (first | exact ⟨b0, b1, b2, k0, k1, k2, ⟨rfl, rfl, rfl, Nat.le_refl _, fun _ _ => rfl⟩⟩ | exact mheld (W := w11.drew) hzz b0 b1 b2 k0 k1 k2 ⟨rfl, rfl, rfl, Nat.le_refl _, fun _ _ => rfl⟩ hb12 | exact mheld (W := w12) hzz b0 b1 b2 k0 k1 k2 (below_of (w1 := w11.drew) ⟨rfl, rfl, rfl, Nat.le_refl _, fun _ _ => rfl⟩ hb12 (Nat.le_refl _)) hb13 | assumption)
        (first
          | (go_at_call 17; refine (toMod_any x0 x1 x2 zs ws bs w11.drew (ints_kept (w := w11) (w' := w11.drew) ⟨rfl, rfl, rfl, Nat.le_refl _, fun _ _ => rfl⟩ V0.out) (mrows_kept (w := w11) (w' := w11.drew) ⟨rfl, rfl, rfl, Nat.le_refl _, fun _ _ => rfl⟩ V1.out) (ints_kept (w := w11) (w' := w11.drew) ⟨rfl, rfl, rfl, Nat.le_refl _, fun _ _ => rfl⟩ V2.out)).mono ?_; rintro e w12 ⟨z0, z1, z2, rfl, o0, o1, o2, hb12⟩)
          | (go_at_call 19; refine (eqMod_any _ _ _ z0 z1 z2 zs ws bs w12 (ints_kept hb12 (ints_kept (w := w11) (w' := w11.drew) ⟨rfl, rfl, rfl, Nat.le_refl _, fun _ _ => rfl⟩ T0.out)) (mrows_kept hb12 (mrows_kept (w := w11) (w' := w11.drew) ⟨rfl, rfl, rfl, Nat.le_refl _, fun _ _ => rfl⟩ T1.out)) (ints_kept hb12 (ints_kept (w := w11) (w' := w11.drew) ⟨rfl, rfl, rfl, Nat.le_refl _, fun _ _ => rfl⟩ T2'.out)) (own_ints hz0 o0) (ownRows_rows hz1 HLR.out o1) (own_ints hz2 o2)).mono ?_; rintro e w13 ⟨rfl, hb13⟩))
      have h12 : Below w11.heap.size w11 w12 := below_of (w1 := w11.drew) ⟨rfl, rfl, rfl, Nat.le_refl _, fun _ _ => rfl⟩ hb12 (Nat.le_refl _)
      have hb := below_of h12 hb13 h12.size
      have c0 := (below_cell hb _ _ hh11.1.2).trans c0
      have c1 := (below_cell hb _ _ hh11.1.2).trans c1
      have c2 := (below_cell hb _ _ hh11.1.2).trans c2
      have m0' := (below_cell hb _ _ hh11.2.2).trans m0'
      have m1' := (below_cell hb _ _ hh11.2.2).trans m1'
      have m2' := (below_cell hb _ _ hh11.2.2).trans m2'
      have X0 := Lib.hid (ints_kept hb U0.out)
      have X1 := Lib.hid (mrows_kept hb U1.out)
      have X2 := Lib.hid (ints_kept hb U2.out)
      have HB13 := Lib.hid (below_of HB11.out hb HB11.out.size)
      have hzq : w10.heap.size < w13.heap.size ∧ w.heap.size + 1 < w13.heap.size := ⟨Nat.lt_of_lt_of_le hh11.2.2 hb.size, Nat.lt_of_lt_of_le hh11.1.2 hb.size⟩
      clear hb hb12 hb13 h12 o0 o1 o2 b0 b1 b2 k0 k1 k2 hzz V0 V1 V2
      have V0 := Lib.hid (ints_kept HB13.out HJ0.out)
      have V1 := Lib.hid (mrows_kept HB13.out HJ1.out)
      have V2 := Lib.hid (ints_kept HB13.out HJ2.out)
      go_wp2
      go_region_held3 (fun w' => w'.cell? ⟨w.heap.size + 1, 0, none⟩ = some y0 ∧ w'.cell? ⟨w.heap.size + 1, 1, none⟩ = some y1 ∧ w'.cell? ⟨w.heap.size + 1, 2, none⟩ = some y2 ∧ w'.cell? ⟨w10.heap.size, 0, none⟩ = some (.slice ra0 zt.length rc0) ∧ w'.cell? ⟨w10.heap.size, 1, none⟩ = some (.slice ra1 wt.length rc1) ∧ w'.cell? ⟨w10.heap.size, 2, none⟩ = some (.slice ra2 bt.length rc2) ∧ Below w13.heap.size w13 w')
        (first | exact ⟨c0, c1, c2, m0', m1', m2', ⟨rfl, rfl, rfl, Nat.le_refl _, fun _ _ => rfl⟩⟩ | exact mheld (W := w13.drew) hzq c0 c1 c2 m0' m1' m2' ⟨rfl, rfl, rfl, Nat.le_refl _, fun _ _ => rfl⟩ hb14 | exact mheld (W := w14) hzq c0 c1 c2 m0' m1' m2' (below_of (w1 := w13.drew) ⟨rfl, rfl, rfl, Nat.le_refl _, fun _ _ => rfl⟩ hb14 (Nat.le_refl _)) hb15 | assumption)
        (first
          | (go_at_call 17; refine (toMod_any y0 y1 y2 zt wt bt w13.drew (ints_kept (w := w13) (w' := w13.drew) ⟨rfl, rfl, rfl, Nat.le_refl _, fun _ _ => rfl⟩ V0.out) (mrows_kept (w := w13) (w' := w13.drew) ⟨rfl, rfl, rfl, Nat.le_refl _, fun _ _ => rfl⟩ V1.out) (ints_kept (w := w13) (w' := w13.drew) ⟨rfl, rfl, rfl, Nat.le_refl _, fun _ _ => rfl⟩ V2.out)).mono ?_; rintro e w14 ⟨z0, z1, z2, rfl, o0, o1, o2, hb14⟩)
          | (go_at_call 19; refine (eqMod_any _ _ _ z0 z1 z2 zt wt bt w14 (ints_kept hb14 (ints_kept (w := w13) (w' := w13.drew) ⟨rfl, rfl, rfl, Nat.le_refl _, fun _ _ => rfl⟩ X0.out)) (mrows_kept hb14 (mrows_kept (w := w13) (w' := w13.drew) ⟨rfl, rfl, rfl, Nat.le_refl _, fun _ _ => rfl⟩ X1.out)) (ints_kept hb14 (ints_kept (w := w13) (w' := w13.drew) ⟨rfl, rfl, rfl, Nat.le_refl _, fun _ _ => rfl⟩ X2.out)) (own_ints hy0 o0) (ownRows_rows hy1 HLS.out o1) (own_ints hy2 o2)).mono ?_; rintro e w15 ⟨rfl, hb15⟩))
      have h14 : Below w13.heap.size w13 w14 := below_of (w1 := w13.drew) ⟨rfl, rfl, rfl, Nat.le_refl _, fun _ _ => rfl⟩ hb14 (Nat.le_refl _)
      have hb := below_of h14 hb15 h14.size
      have HB15 := Lib.hid (below_of HB13.out hb HB13.out.size)
      clear hb hb14 hb15 h14 o0 o1 o2 c0 c1 c2 m0' m1' m2'
      go_wp2
      go_ret
      exact ⟨rfl, HB15.out⟩
    · have HL2 := Lib.hid (show leftN (m0 + (m1 + sumL L2 m1) + m2) (1048576 - (T : Int)) = -1 from leftN_no (by omega))
      clear hmk2 hbig2
      have HT0 := Lib.hid (show (0 : Int) ≤ 1048576 - (T : Int) by omega)
      have HT1 := Lib.hid (show (1048576 : Int) - (T : Int) ≤ 1048576 by omega)
      go_enter Try.func4, Try.ntmps4
      go_wp2_with fail
      refine (szMod_any x0 x1 x2 n0 n1 n2 L 1048576 _ HF0 hn0 HSZ hn1 HF2 hn2 (by omega) (by omega)).mono ?_
      rintro e w1 ⟨rfl, hb⟩
      rw [HL.out, hT]
      have c0 : w1.cell? ⟨w.heap.size + 1, 0, none⟩ = some y0 := by rw [below_cell hb _ _ (by simp)]; go_simp
      have c1 : w1.cell? ⟨w.heap.size + 1, 1, none⟩ = some y1 := by rw [below_cell hb _ _ (by simp)]; go_simp
      have c2 : w1.cell? ⟨w.heap.size + 1, 2, none⟩ = some y2 := by rw [below_cell hb _ _ (by simp)]; go_simp
      have HB1 := Lib.hid (below_of HBA.out hb HBA.out.size)
      have HSZ3 := Lib.hid (sz_kept HB1.out HSZ2.out)
      have hT0 : (0 : Int) ≤ 1048576 - (T : Int) := HT0.out
      clear hb hbig
      go_wp2_with fail
      refine (szMod_any y0 y1 y2 m0 m1 m2 L2 (1048576 - (T : Int)) _ HG0 hm0 HSZ3 hm1 HG2 hm2 HT0.out HT1.out).mono ?_
      rintro e w2 ⟨rfl, hb⟩
      rw [HL2.out]
      have HB2 := Lib.hid (below_of HB1.out hb HB1.out.size)
      clear hb
      go_wp2
      go_ret
      exact ⟨rfl, HB2.out⟩
  · have HL := Lib.hid (show leftN (n0 + (n1 + sumL L n1) + n2) 1048576 = -1 from leftN_no (by omega))
    clear hmk hmk2
    go_enter Try.func4, Try.ntmps4
    go_wp2_with fail
    refine (szMod_any x0 x1 x2 n0 n1 n2 L 1048576 _ HF0 hn0 HSZ hn1 HF2 hn2 (by omega) (by omega)).mono ?_
    rintro e w1 ⟨rfl, hb⟩
    rw [HL.out]
    have HB := Lib.hid (below_of HBA.out hb HBA.out.size)
    clear hb
    go_wp2
    go_ret
    exact ⟨rfl, HB.out⟩

set_option maxRecDepth 100000 in
theorem contract (H : Type) (enc : TypeId × Value → H) (W : World) (base : Nat) (args : Array Value) (ds gs : List (DataW H)) (before : List MemPlace)
    (hval : ∀ (j : Nat) t v, Try.f4.params[j]? = some t → args[j]? = some v → Value.okWide Try.prog W .any base t v)
    (hW : DataW.Whole enc Try.prog Try.f4.params.toList Rows.fnExactSameModelSpec.vars false W args.toList ds gs before) :
    Calls Try.prog 4 args W fun e W' => ∃ v, e = .returned v ∧ Rows.fnExactSameModelSpec.post enc Try.prog Try.f4 false true false false W args v W' := by
  have hW' := hW
  obtain ⟨p, q, hA0, hV, rfl, hfz, hnd⟩ := hW
  have hA : DataW.TrodAll enc Try.prog W 0 (fun _ => true) true Try.f4.params.toList args.toList ds p := hA0
  rw [Try.params4] at hA hval
  obtain ⟨v0, vs0, d0, ds0, p0, q0, hargs, rfl, rfl, h0, r0⟩ := trodAll_cons hA
  obtain ⟨v1, vs1, d1, ds1, p1, q1, hargs1, rfl, rfl, h1, r1⟩ := trodAll_cons r0
  subst hargs1
  obtain ⟨rfl, rfl, rfl⟩ := trodAll_nil r1
  obtain rfl : args = #[v0, v1] := by cases args; simp_all
  obtain ⟨rfl, rfl⟩ := trodVars_none hV
  simp only [List.append_nil] at hW'
  have hlt0 : ∀ x ∈ p0, x.block < W.heap.size := fun x hx => hW'.lt x (by simp [hx])
  have kept0 := fun (W2 : World) (hb : Below W.heap.size W W2) => Below.trod laidOut (by kernel_rfl) (of_decide_eq_true (by kernel_rfl)) h0 hb hlt0
  have hI0 := model_arg (hval 0 25 v0 rfl rfl) h0 hlt0
  have hlt1 : ∀ x ∈ p1, x.block < W.heap.size := fun x hx => hW'.lt x (by simp [hx])
  have kept1 := fun (W2 : World) (hb : Below W.heap.size W W2) => Below.trod laidOut (by kernel_rfl) (of_decide_eq_true (by kernel_rfl)) h1 hb hlt1
  have hI1 := model_arg (hval 1 25 v1 rfl rfl) h1 hlt1
  clear hA0
  refine (walk v0 v1 W hI0 hI1).mono fun e W' ⟨he, hg⟩ => ?_
  subst he
  refine ⟨_, rfl, post_at (pa := p0 ++ p1) (pv := []) hW' (by simp) hg (fun _ _ => (trodAll_cons_mk (shut_bool Try.underlying4 _) trodAll_mk0)) ?_ rfl⟩
  have hk := (trodAll_cons_mk (kept0 W' hg) (trodAll_cons_mk (kept1 W' hg) trodAll_mk0))
  simp only [List.append_nil] at hk
  exact hk

set_option maxRecDepth 100000 in
theorem lifted (os : Os) (started : os.Started) (H : Type) (enc : TypeId × Value → H) :
    ReturnsInHanded {} Try.checked os 4 .any (Rows.fnExactSameModelSpec.pre6 enc Try.prog Try.f4 Rows.fnExactSameModelRow.domain false) (Rows.fnExactSameModelSpec.post enc Try.prog Try.f4 false true false false) := by
  refine returnsInHanded_of_change (C := Try.checked) own started (by kernel_rfl) Try.func4
    (ChangeSpec.witness6 (enc := enc) (C := Try.checked) false ⟨#[], #[.agg #[.slice none 0 0, .slice none 0 0, .slice none 0 0], .agg #[.slice none 0 0, .slice none 0 0, .slice none 0 0]], []⟩ 8 (by kernel_rfl) (by kernel_rfl) (by kernel_rfl) (by kernel_rfl)) ?_
  intro W base args ds gs before hval0 hW hcnd _
  have hval : ∀ (j : Nat) t v, Try.f4.params[j]? = some t → args[j]? = some v → Value.okWide Try.prog W .any base t v := hval0
  exact contract H enc W base args ds gs before hval hW

theorem over : Rows.fnExactSameModelRow.holds Try.pinned (OpenSpec.ofChange Rows.fnExactSameModelSpec) :=
  OpenClaim.holds_of_wide 4 Try.f4 rfl rfl rfl rfl rfl rfl rfl ⟨rfl, rfl, rfl, rfl, rfl⟩ rfl rfl rfl rfl rfl (by kernel_rfl) Try.func4 (by kernel_rfl)
    (of_decide_eq_true (by kernel_rfl)) (by unfold Func.isWrapper; first | (rw [if_pos (by decide +kernel)]; kernel_rfl) | (rw [if_neg (by decide +kernel)]; exact ⟨rfl, rfl⟩))
    (fun os started H enc _ => lifted os started H enc)
end Go.Proofs.Ytndmakimkghihaa.fnExactSameModel

namespace Go.Proofs.Ytndmakimkghihaa
/-- The given statement. -/
theorem fnExactSameModel_holds : Rows.FnExactSameModelSaid := fnExactSameModel.over
#print axioms fnExactSameModel_holds
end Go.Proofs.Ytndmakimkghihaa
