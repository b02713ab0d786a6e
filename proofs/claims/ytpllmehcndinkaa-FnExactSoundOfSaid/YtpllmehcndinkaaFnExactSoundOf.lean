/- The program's SoundOf answers as the reference model's, for every model and profile, and changes neither. -/
import Derived.Test.YtpllmehcndinkaaRows
import Derived.Test.YtpllmehcndinkaaG1
import Derived.Test.YtpllmehcndinkaaModX
import Derived.Test.YtpllmehcndinkaaG2
import Derived.Test.YtpllmehcndinkaaSofI
import Derived.Test.YtpllmehcndinkaaRingRes
import Derived.Test.YtpllmehcndinkaaAnsO
import Derived.Deep.RegionHeld3
import Derived.Deep.Cut
namespace Go.Proofs.Ytpllmehcndinkaa.fnExactSoundOf
open Go.ChangeShapes Go.WideShapes Go.ChangeAt Go.RowKit
open Go.ChangeMaps (open_string shut_string)
set_option linter.unusedVariables false

theorem own : ownKnob Try.prog.godebug = none := by kernel_rfl

set_option maxRecDepth 100000 in
set_option maxHeartbeats 8000000 in
theorem walk (v0 : Value) (s1 : ByteArray) (p1 : Option Addr) (len1 cap1 : Nat) (w1 : s1.size ≤ 9223372036854775807 ∧ len1 ≤ 9223372036854775807) (w : World) (hI0 : ModArgX w v0) (hI1 : len1 ≤ 1048576 → ∃ zs : List Rg, zs.length = len1 ∧ RingsAt w (.slice p1 len1 cap1) zs) :
    Calls Try.prog 5 #[v0, .agg #[.string s1, .slice p1 len1 cap1]] w fun e w' => e = .returned (.bool true) ∧ Below w.heap.size w w' := by
  obtain ⟨x0a, x0b, x0c, N0, rfl, hsz0, hmk0⟩ := hI0
  have HSZ0 := Lib.hid hsz0
  clear hsz0
  obtain ⟨hs1, hlen1⟩ := w1
  have HV1 := Lib.hid (show ∃ a' c', Value.slice p1 len1 cap1 = .slice a' len1 c' from ⟨_, _, rfl⟩)
  generalize Value.slice p1 len1 cap1 = v1 at *
  by_cases hbig0 : (N0) ≤ 1048576
  · obtain ⟨T1, hT1⟩ : ∃ T, (N0) = T := ⟨_, rfl⟩
    have HL0 := Lib.hid (show leftN N0 (1048576) = 1048576 - (T1 : Int) by rw [leftN_yes (by omega)]; omega)
    have hTb1 : T1 ≤ 1048576 := by omega
    obtain ⟨mz0, mw0, mb0, hmn0, hma0⟩ := hmk0 (by omega)
    have HZ0 := Lib.hid hma0
    have hmt0 : mz0.length + lenS mw0 mw0.length + mb0.length ≤ 1048576 ∧ mw0.length ≤ 1048576 ∧ mz0.length ≤ 1048576 ∧ mb0.length ≤ 1048576 ∧ lenS mw0 mw0.length ≤ 1048576 := by omega
    have HML0 := Lib.hid hmt0
    clear hmn0 hma0 hmk0
    by_cases hbig1 : T1 + (s1.size + len1) ≤ 1048576
    · obtain ⟨T2, hT2⟩ : ∃ T, T1 + (s1.size + len1) = T := ⟨_, rfl⟩
      have HL1 := Lib.hid (show leftP s1.size len1 (1048576 - (T1 : Int)) = 1048576 - (T2 : Int) by rw [leftP_yes (by omega)]; omega)
      have hTb2 : T2 ≤ 1048576 := by omega
      obtain ⟨zs1, hz1, hzs1⟩ := hI1 (by omega)
      have HZ1 := Lib.hid hzs1
      have HNA1 := Lib.hid hz1
      have HZL1 := Lib.hid (show zs1.length ≤ 1048576 by omega)
      clear hzs1 hz1 hI1
      have hTl1 : len1 ≤ 1048576 := by omega
      clear hT1 hbig0 hT2 hbig1
      obtain ⟨qa, qb, qc, qe, qf, c1, hsp, him⟩ : ∃ (qa qb qc qe qf c1 : Int), (∀ y0a y0b y0c v1 w, ModAt w y0a y0b y0c mz0 mw0 mb0 → RingsW w v1 zs1 → Calls Try.prog 27 #[.agg #[y0a, y0b, y0c], .agg #[.string s1, v1]] w (fun e w' => e = .returned (.tuple #[.agg #[.int .i64 qa, .int .i64 qb, .int .i64 qc, .int .i64 qe, .int .i64 qf], .int .i64 c1]) ∧ Below w.heap.size w w')) ∧ (∀ y0a y0b y0c v1 w, ModAt w y0a y0b y0c mz0 mw0 mb0 → RingsW w v1 zs1 → Calls Try.prog 28 #[.agg #[y0a, y0b, y0c], .agg #[.string s1, v1]] w (fun e w' => e = .returned (.tuple #[.agg #[.int .i64 qa, .int .i64 qb, .int .i64 qc, .int .i64 qe, .int .i64 qf], .int .i64 c1]) ∧ Below w.heap.size w w')) := by
        obtain ⟨qa, qb, qc, qe, qf, hQ⟩ := sofV_form mz0 mw0 mb0 s1 zs1
        refine ⟨qa, qb, qc, qe, qf, sofC mz0 mw0 mb0 s1 zs1, ?_, ?_⟩
        · rw [← hQ]; exact fun y0 y1 y2 v w h h1 => specSO_any y0 y1 y2 v mz0 mw0 mb0 s1 zs1 w h.1 h.2.1 h.2.2 h1.1 hs1
        · rw [← hQ]; exact fun y0 y1 y2 v w h h1 => implSO_any y0 y1 y2 v mz0 mw0 mb0 s1 zs1 w h.1 h.2.1 h.2.2 h1 hs1
      have HSP := Lib.hid hsp
      have HIM := Lib.hid him
      clear hsp him
      have hccc1 : (c1 != c1) = false := by simp
      go_enter Try.func5, Try.ntmps5
      have f1 : ((w.alloc (.cells #[x0a, x0b, x0c] 34)).alloc (.cells #[.string s1, v1] 37)).cell? ⟨w.heap.size, 0, none⟩ = some (x0a) := by go_simp
      have f2 : ((w.alloc (.cells #[x0a, x0b, x0c] 34)).alloc (.cells #[.string s1, v1] 37)).cell? ⟨w.heap.size, 1, none⟩ = some (x0b) := by go_simp
      have f3 : ((w.alloc (.cells #[x0a, x0b, x0c] 34)).alloc (.cells #[.string s1, v1] 37)).cell? ⟨w.heap.size, 2, none⟩ = some (x0c) := by go_simp
      have l4 : w.heap.size < ((w.alloc (.cells #[x0a, x0b, x0c] 34)).alloc (.cells #[.string s1, v1] 37)).heap.size := by simp <;> omega
      have f5 : ((w.alloc (.cells #[x0a, x0b, x0c] 34)).alloc (.cells #[.string s1, v1] 37)).cell? ⟨w.heap.size + 1, 0, none⟩ = some (.string s1) := by go_simp
      have f6 : ((w.alloc (.cells #[x0a, x0b, x0c] 34)).alloc (.cells #[.string s1, v1] 37)).cell? ⟨w.heap.size + 1, 1, none⟩ = some (v1) := by go_simp
      have l7 : w.heap.size + 1 < ((w.alloc (.cells #[x0a, x0b, x0c] 34)).alloc (.cells #[.string s1, v1] 37)).heap.size := by simp <;> omega
      have S8 : w.heap.size + 2 ≤ ((w.alloc (.cells #[x0a, x0b, x0c] 34)).alloc (.cells #[.string s1, v1] 37)).heap.size := by simp <;> omega
      have HB9 := Lib.hid (((below_al w (.cells #[x0a, x0b, x0c] 34)).alloc (by simp <;> omega) (.cells #[.string s1, v1] 37)))
      go_wp2_with fail
      generalize ((w.alloc (.cells #[x0a, x0b, x0c] 34)).alloc (.cells #[.string s1, v1] 37)) = wb at *
      refine (szModX_any x0a x0b x0c N0 (1048576) _ (szM_kept HB9.out HSZ0.out) (by omega) (by omega)).mono ?_
      rintro e w_1 ⟨rfl, hb⟩
      rw [HL0.out]
      have S10 : wb.heap.size ≤ w_1.heap.size := (hb).size
      have f11 : w_1.cell? ⟨w.heap.size, 0, none⟩ = some (x0a) := (below_cell hb _ _ l4).trans f1
      have f12 : w_1.cell? ⟨w.heap.size, 1, none⟩ = some (x0b) := (below_cell hb _ _ l4).trans f2
      have f13 : w_1.cell? ⟨w.heap.size, 2, none⟩ = some (x0c) := (below_cell hb _ _ l4).trans f3
      have f14 : w_1.cell? ⟨w.heap.size + 1, 0, none⟩ = some (.string s1) := (below_cell hb _ _ l7).trans f5
      have f15 : w_1.cell? ⟨w.heap.size + 1, 1, none⟩ = some (v1) := (below_cell hb _ _ l7).trans f6
      have l16 : w.heap.size < w_1.heap.size := Nat.lt_of_lt_of_le l4 (hb).size
      have l17 : w.heap.size + 1 < w_1.heap.size := Nat.lt_of_lt_of_le l7 (hb).size
      clear f1 f2 f3 f5 f6 l4 l7
      have HB18 := Lib.hid (below_of HB9.out hb HB9.out.size)
      clear hb 
      go_wp2_with fail
      refine (szProf_v s1 v1 len1 (1048576 - (T1 : Int)) _ HV1 hs1 hlen1 (by omega) (by omega)).mono ?_
      rintro e w_2 ⟨rfl, hb⟩
      rw [HL1.out]
      have S19 : w_1.heap.size ≤ w_2.heap.size := (hb).size
      have f20 : w_2.cell? ⟨w.heap.size, 0, none⟩ = some (x0a) := (below_cell hb _ _ l16).trans f11
      have f21 : w_2.cell? ⟨w.heap.size, 1, none⟩ = some (x0b) := (below_cell hb _ _ l16).trans f12
      have f22 : w_2.cell? ⟨w.heap.size, 2, none⟩ = some (x0c) := (below_cell hb _ _ l16).trans f13
      have f23 : w_2.cell? ⟨w.heap.size + 1, 0, none⟩ = some (.string s1) := (below_cell hb _ _ l17).trans f14
      have f24 : w_2.cell? ⟨w.heap.size + 1, 1, none⟩ = some (v1) := (below_cell hb _ _ l17).trans f15
      have l25 : w.heap.size < w_2.heap.size := Nat.lt_of_lt_of_le l16 (hb).size
      have l26 : w.heap.size + 1 < w_2.heap.size := Nat.lt_of_lt_of_le l17 (hb).size
      clear f11 f12 f13 f14 f15 l16 l17
      have HB27 := Lib.hid (below_of HB18.out hb HB18.out.size)
      clear hb 
      go_wp2_with fail
      have HSK := Lib.hid (fun W (hW : Below w_2.heap.size w_2 W) => show W.cell? ⟨w.heap.size, 0, none⟩ = some (x0a) ∧ W.cell? ⟨w.heap.size, 1, none⟩ = some (x0b) ∧ W.cell? ⟨w.heap.size, 2, none⟩ = some (x0c) ∧ W.cell? ⟨w.heap.size + 1, 0, none⟩ = some (.string s1) ∧ W.cell? ⟨w.heap.size + 1, 1, none⟩ = some (v1) ∧ Below w_2.heap.size w_2 W from ⟨(below_cell hW _ _ l25).trans f20, (below_cell hW _ _ l25).trans f21, (below_cell hW _ _ l25).trans f22, (below_cell hW _ _ l26).trans f23, (below_cell hW _ _ l26).trans f24, hW⟩)
      have HN := Lib.hid (fun (w' w2 : World) (h : w'.cell? ⟨w.heap.size, 0, none⟩ = some (x0a) ∧ w'.cell? ⟨w.heap.size, 1, none⟩ = some (x0b) ∧ w'.cell? ⟨w.heap.size, 2, none⟩ = some (x0c) ∧ w'.cell? ⟨w.heap.size + 1, 0, none⟩ = some (.string s1) ∧ w'.cell? ⟨w.heap.size + 1, 1, none⟩ = some (v1) ∧ Below w_2.heap.size w_2 w') (hb : Below w'.heap.size w' w2) => HSK.out w2 (below_of h.2.2.2.2.2 hb h.2.2.2.2.2.size))
      have HLE := Lib.hid (fun (w' : World) (h : w'.cell? ⟨w.heap.size, 0, none⟩ = some (x0a) ∧ w'.cell? ⟨w.heap.size, 1, none⟩ = some (x0b) ∧ w'.cell? ⟨w.heap.size, 2, none⟩ = some (x0c) ∧ w'.cell? ⟨w.heap.size + 1, 0, none⟩ = some (.string s1) ∧ w'.cell? ⟨w.heap.size + 1, 1, none⟩ = some (v1) ∧ Below w_2.heap.size w_2 w') => show w_2.heap.size ≤ w'.heap.size from h.2.2.2.2.2.size)
      have HT := Lib.hid (fun (w' : World) (b : Nat) (x0 x1 x2 x3 x4 : Value) (h : w'.cell? ⟨w.heap.size, 0, none⟩ = some (x0a) ∧ w'.cell? ⟨w.heap.size, 1, none⟩ = some (x0b) ∧ w'.cell? ⟨w.heap.size, 2, none⟩ = some (x0c) ∧ w'.cell? ⟨w.heap.size + 1, 0, none⟩ = some (.string s1) ∧ w'.cell? ⟨w.heap.size + 1, 1, none⟩ = some (v1) ∧ Below w_2.heap.size w_2 w') (hb : w_2.heap.size ≤ b) => HSK.out (((((w'.setCell ⟨b, 0, none⟩ x0).setCell ⟨b, 1, none⟩ x1).setCell ⟨b, 2, none⟩ x2).setCell ⟨b, 3, none⟩ x3).setCell ⟨b, 4, none⟩ x4) (((((h.2.2.2.2.2.setCell hb _).setCell hb _).setCell hb _).setCell hb _).setCell hb _))
      have HI0 := Lib.hid (modAt_kept HB27.out HZ0.out)
      have HQ0 := Lib.hid (fun (w' : World) (h : w'.cell? ⟨w.heap.size, 0, none⟩ = some (x0a) ∧ w'.cell? ⟨w.heap.size, 1, none⟩ = some (x0b) ∧ w'.cell? ⟨w.heap.size, 2, none⟩ = some (x0c) ∧ w'.cell? ⟨w.heap.size + 1, 0, none⟩ = some (.string s1) ∧ w'.cell? ⟨w.heap.size + 1, 1, none⟩ = some (v1) ∧ Below w_2.heap.size w_2 w') => modAt_kept h.2.2.2.2.2 HI0.out)
      have HI1 := Lib.hid (rings_kept HB27.out HZ1.out)
      have HQ1 := Lib.hid (fun (w' : World) (h : w'.cell? ⟨w.heap.size, 0, none⟩ = some (x0a) ∧ w'.cell? ⟨w.heap.size, 1, none⟩ = some (x0b) ∧ w'.cell? ⟨w.heap.size, 2, none⟩ = some (x0c) ∧ w'.cell? ⟨w.heap.size + 1, 0, none⟩ = some (.string s1) ∧ w'.cell? ⟨w.heap.size + 1, 1, none⟩ = some (v1) ∧ Below w_2.heap.size w_2 w') => rings_kept h.2.2.2.2.2 HI1.out)
      have HS0 := Lib.hid (HSK.out w_2.drew ⟨rfl, rfl, rfl, Nat.le_refl _, fun _ _ => rfl⟩)
      go_cut [6, 7] from 12 (fun sp sq wr => AnsO w_2 wr qa qb qc qe qf c1 sp sq)
      case first =>
        go_region_held3 (fun w' => w'.cell? ⟨w.heap.size, 0, none⟩ = some (x0a) ∧ w'.cell? ⟨w.heap.size, 1, none⟩ = some (x0b) ∧ w'.cell? ⟨w.heap.size, 2, none⟩ = some (x0c) ∧ w'.cell? ⟨w.heap.size + 1, 0, none⟩ = some (.string s1) ∧ w'.cell? ⟨w.heap.size + 1, 1, none⟩ = some (v1) ∧ Below w_2.heap.size w_2 w')
          (first | with_reducible exact HT.out _ _ _ _ _ _ _ (by assumption) (by first | exact Nat.le_refl _ | assumption | exact boxO_ge hbx) | with_reducible exact HN.out _ _ (by assumption) (below_al _ _) | with_reducible exact hkF | with_reducible exact hk1 | with_reducible exact hk0 | with_reducible exact HS0.out | exact HS0.out)
          (first
            | (go_at_call_of 21 (Value.agg #[x0a, x0b, x0c]); refine (toModX_any x0a x0b x0c mz0 mw0 mb0 _ (HQ0.out _ (by assumption)).1 (HQ0.out _ (by assumption)).2.1 (HQ0.out _ (by assumption)).2.2).mono ?_; rintro e wR28_0 ⟨vx0a, vx0b, vx0c, rfl, ho0, hbq0⟩; have hr0_0 : ModAt wR28_0 vx0a vx0b vx0c mz0 mw0 mb0 := (modOwn_parts HML0.out.2.2.1 HML0.out.2.1 (lenS_row HML0.out.2.2.2.2) HML0.out.2.2.2.1 ho0); have hk0 := HN.out _ _ (by assumption) hbq0; have hs0 := HLE.out _ hk0; (first | (with_reducible (have hbx := boxO_al0 (W := w_2) hbq0)) | (with_reducible (have hbx := boxO_al (W := w_2) (by assumption) hbq0)) | (with_reducible (have hbx := boxO_next (W := w_2) hbx hbq0)) | skip))
            | (go_at_call_of 22 (Value.agg #[.string s1, v1]); refine (toProf_any s1 v1 zs1 _ (HQ1.out _ (by assumption))).mono ?_; rintro e wR28_1 ⟨vx1, rfl, ho1, hbq1⟩; have hr1_1 : RingsW wR28_1 vx1 zs1 := (rvW HZL1.out (rv_of_ownAt ho1)); have hr0_1 : ModAt wR28_1 vx0a vx0b vx0c mz0 mw0 mb0 := (by first | exact modAt_kept hbq1 hr0_0 | exact modAt_kept hbq1 (modAt_kept (below_al _ _) hr0_0)); have hk1 := HN.out _ _ (by assumption) hbq1; have hs1 := HLE.out _ hk1; (first | (with_reducible (have hbx := boxO_al0 (W := w_2) hbq1)) | (with_reducible (have hbx := boxO_al (W := w_2) (by assumption) hbq1)) | (with_reducible (have hbx := boxO_next (W := w_2) hbx hbq1)) | skip))
            | (go_at_call 27; refine (HSP.out vx0a vx0b vx0c vx1 _ (by first | exact hr0_1 | exact modAt_kept (below_al _ _) hr0_1) (by first | exact hr1_1 | exact ringsW_kept (below_al _ _) hr1_1)).mono ?_; rintro e wR28_f ⟨rfl, hbf⟩; have hkF := HN.out _ _ (by assumption) hbf; have hsF := HLE.out _ hkF; (first | (with_reducible (have hbx := boxO_al0 (W := w_2) hbf)) | (with_reducible (have hbx := boxO_al (W := w_2) (by assumption) hbf)) | (with_reducible (have hbx := boxO_next (W := w_2) hbx hbf)) | skip); (first | (have hb0 := hbx.1; obtain ⟨⟨y0, y1, y2, y3, y4⟩, g0, g1, g2, g3, g4⟩ := hb0) | skip)))
        all_goals
          go_wp2_with fail
          go_meet
          case rel => first | with_reducible exact ansO_new hkF.2.2.2.2.2 | with_reducible exact ansO_old hkF.2.2.2.2.2 hbx | fail "no end"
      obtain ⟨bW, rfl, rfl, ⟨kk0_W, kk1_W, kk2_W, kk3_W, kk4_W⟩, S29, hl_W, hb⟩ := hcut
      obtain ⟨w_3, rfl⟩ : ∃ x, x = wc := ⟨_, rfl⟩
      have S35 : w_2.heap.size ≤ w_3.heap.size := (hb).size
      have f36 : w_3.cell? ⟨w.heap.size, 0, none⟩ = some (x0a) := (below_cell hb _ _ l25).trans f20
      have f37 : w_3.cell? ⟨w.heap.size, 1, none⟩ = some (x0b) := (below_cell hb _ _ l25).trans f21
      have f38 : w_3.cell? ⟨w.heap.size, 2, none⟩ = some (x0c) := (below_cell hb _ _ l25).trans f22
      have f39 : w_3.cell? ⟨w.heap.size + 1, 0, none⟩ = some (.string s1) := (below_cell hb _ _ l26).trans f23
      have f40 : w_3.cell? ⟨w.heap.size + 1, 1, none⟩ = some (v1) := (below_cell hb _ _ l26).trans f24
      have l41 : w.heap.size < w_3.heap.size := Nat.lt_of_lt_of_le l25 (hb).size
      have l42 : w.heap.size + 1 < w_3.heap.size := Nat.lt_of_lt_of_le l26 (hb).size
      clear f20 f21 f22 f23 f24 l25 l26
      have HB43 := Lib.hid (below_of HB27.out hb HB27.out.size)
      clear hb HSK HN HLE HT HS0 HI0 HQ0 HI1 HQ1 
      go_wp2_with fail
      refine (toModX_any x0a x0b x0c mz0 mw0 mb0 _ (modAt_kept HB43.out HZ0.out).1 (modAt_kept HB43.out HZ0.out).2.1 (modAt_kept HB43.out HZ0.out).2.2).mono ?_
      rintro e w_4 ⟨vx0a, vx0b, vx0c, rfl, ho, hb⟩
      have hF := modOwn_form ho
      obtain ⟨⟨aX0a, cX0a, rfl⟩, ⟨aX0b, cX0b, rfl⟩, ⟨aX0c, cX0c, rfl⟩⟩ := hF
      have HX0R := Lib.hid ho
      have S44 : w_3.heap.size ≤ w_4.heap.size := (hb).size
      have f45 : w_4.cell? ⟨w.heap.size, 0, none⟩ = some (x0a) := (below_cell hb _ _ l41).trans f36
      have f46 : w_4.cell? ⟨w.heap.size, 1, none⟩ = some (x0b) := (below_cell hb _ _ l41).trans f37
      have f47 : w_4.cell? ⟨w.heap.size, 2, none⟩ = some (x0c) := (below_cell hb _ _ l41).trans f38
      have f48 : w_4.cell? ⟨w.heap.size + 1, 0, none⟩ = some (.string s1) := (below_cell hb _ _ l42).trans f39
      have f49 : w_4.cell? ⟨w.heap.size + 1, 1, none⟩ = some (v1) := (below_cell hb _ _ l42).trans f40
      have f50 : w_4.cell? ⟨bW, 0, none⟩ = some (.int .i64 qa) := (below_cell hb _ _ hl_W).trans kk0_W
      have f51 : w_4.cell? ⟨bW, 1, none⟩ = some (.int .i64 qb) := (below_cell hb _ _ hl_W).trans kk1_W
      have f52 : w_4.cell? ⟨bW, 2, none⟩ = some (.int .i64 qc) := (below_cell hb _ _ hl_W).trans kk2_W
      have f53 : w_4.cell? ⟨bW, 3, none⟩ = some (.int .i64 qe) := (below_cell hb _ _ hl_W).trans kk3_W
      have f54 : w_4.cell? ⟨bW, 4, none⟩ = some (.int .i64 qf) := (below_cell hb _ _ hl_W).trans kk4_W
      have l55 : w.heap.size < w_4.heap.size := Nat.lt_of_lt_of_le l41 (hb).size
      have l56 : w.heap.size + 1 < w_4.heap.size := Nat.lt_of_lt_of_le l42 (hb).size
      have l57 : bW < w_4.heap.size := Nat.lt_of_lt_of_le hl_W (hb).size
      clear f36 f37 f38 f39 f40 kk0_W kk1_W kk2_W kk3_W kk4_W l41 l42 hl_W
      have HB58 := Lib.hid (below_of HB43.out hb HB43.out.size)
      clear hb ho
      have f59 : (w_4.alloc (.cells #[.slice aX0a mz0.length cX0a, .slice aX0b mw0.length cX0b, .slice aX0c mb0.length cX0c] 25)).cell? ⟨w.heap.size, 0, none⟩ = some (x0a) := (below_cell (below_al w_4 (.cells #[.slice aX0a mz0.length cX0a, .slice aX0b mw0.length cX0b, .slice aX0c mb0.length cX0c] 25)) _ _ l55).trans f45
      have f60 : (w_4.alloc (.cells #[.slice aX0a mz0.length cX0a, .slice aX0b mw0.length cX0b, .slice aX0c mb0.length cX0c] 25)).cell? ⟨w.heap.size, 1, none⟩ = some (x0b) := (below_cell (below_al w_4 (.cells #[.slice aX0a mz0.length cX0a, .slice aX0b mw0.length cX0b, .slice aX0c mb0.length cX0c] 25)) _ _ l55).trans f46
      have f61 : (w_4.alloc (.cells #[.slice aX0a mz0.length cX0a, .slice aX0b mw0.length cX0b, .slice aX0c mb0.length cX0c] 25)).cell? ⟨w.heap.size, 2, none⟩ = some (x0c) := (below_cell (below_al w_4 (.cells #[.slice aX0a mz0.length cX0a, .slice aX0b mw0.length cX0b, .slice aX0c mb0.length cX0c] 25)) _ _ l55).trans f47
      have f62 : (w_4.alloc (.cells #[.slice aX0a mz0.length cX0a, .slice aX0b mw0.length cX0b, .slice aX0c mb0.length cX0c] 25)).cell? ⟨w.heap.size + 1, 0, none⟩ = some (.string s1) := (below_cell (below_al w_4 (.cells #[.slice aX0a mz0.length cX0a, .slice aX0b mw0.length cX0b, .slice aX0c mb0.length cX0c] 25)) _ _ l56).trans f48
      have f63 : (w_4.alloc (.cells #[.slice aX0a mz0.length cX0a, .slice aX0b mw0.length cX0b, .slice aX0c mb0.length cX0c] 25)).cell? ⟨w.heap.size + 1, 1, none⟩ = some (v1) := (below_cell (below_al w_4 (.cells #[.slice aX0a mz0.length cX0a, .slice aX0b mw0.length cX0b, .slice aX0c mb0.length cX0c] 25)) _ _ l56).trans f49
      have f64 : (w_4.alloc (.cells #[.slice aX0a mz0.length cX0a, .slice aX0b mw0.length cX0b, .slice aX0c mb0.length cX0c] 25)).cell? ⟨bW, 0, none⟩ = some (.int .i64 qa) := (below_cell (below_al w_4 (.cells #[.slice aX0a mz0.length cX0a, .slice aX0b mw0.length cX0b, .slice aX0c mb0.length cX0c] 25)) _ _ l57).trans f50
      have f65 : (w_4.alloc (.cells #[.slice aX0a mz0.length cX0a, .slice aX0b mw0.length cX0b, .slice aX0c mb0.length cX0c] 25)).cell? ⟨bW, 1, none⟩ = some (.int .i64 qb) := (below_cell (below_al w_4 (.cells #[.slice aX0a mz0.length cX0a, .slice aX0b mw0.length cX0b, .slice aX0c mb0.length cX0c] 25)) _ _ l57).trans f51
      have f66 : (w_4.alloc (.cells #[.slice aX0a mz0.length cX0a, .slice aX0b mw0.length cX0b, .slice aX0c mb0.length cX0c] 25)).cell? ⟨bW, 2, none⟩ = some (.int .i64 qc) := (below_cell (below_al w_4 (.cells #[.slice aX0a mz0.length cX0a, .slice aX0b mw0.length cX0b, .slice aX0c mb0.length cX0c] 25)) _ _ l57).trans f52
      have f67 : (w_4.alloc (.cells #[.slice aX0a mz0.length cX0a, .slice aX0b mw0.length cX0b, .slice aX0c mb0.length cX0c] 25)).cell? ⟨bW, 3, none⟩ = some (.int .i64 qe) := (below_cell (below_al w_4 (.cells #[.slice aX0a mz0.length cX0a, .slice aX0b mw0.length cX0b, .slice aX0c mb0.length cX0c] 25)) _ _ l57).trans f53
      have f68 : (w_4.alloc (.cells #[.slice aX0a mz0.length cX0a, .slice aX0b mw0.length cX0b, .slice aX0c mb0.length cX0c] 25)).cell? ⟨bW, 4, none⟩ = some (.int .i64 qf) := (below_cell (below_al w_4 (.cells #[.slice aX0a mz0.length cX0a, .slice aX0b mw0.length cX0b, .slice aX0c mb0.length cX0c] 25)) _ _ l57).trans f54
      have l69 : w.heap.size < (w_4.alloc (.cells #[.slice aX0a mz0.length cX0a, .slice aX0b mw0.length cX0b, .slice aX0c mb0.length cX0c] 25)).heap.size := Nat.lt_of_lt_of_le l55 (below_al w_4 (.cells #[.slice aX0a mz0.length cX0a, .slice aX0b mw0.length cX0b, .slice aX0c mb0.length cX0c] 25)).size
      have l70 : w.heap.size + 1 < (w_4.alloc (.cells #[.slice aX0a mz0.length cX0a, .slice aX0b mw0.length cX0b, .slice aX0c mb0.length cX0c] 25)).heap.size := Nat.lt_of_lt_of_le l56 (below_al w_4 (.cells #[.slice aX0a mz0.length cX0a, .slice aX0b mw0.length cX0b, .slice aX0c mb0.length cX0c] 25)).size
      have l71 : bW < (w_4.alloc (.cells #[.slice aX0a mz0.length cX0a, .slice aX0b mw0.length cX0b, .slice aX0c mb0.length cX0c] 25)).heap.size := Nat.lt_of_lt_of_le l57 (below_al w_4 (.cells #[.slice aX0a mz0.length cX0a, .slice aX0b mw0.length cX0b, .slice aX0c mb0.length cX0c] 25)).size
      clear f45 f46 f47 f48 f49 f50 f51 f52 f53 f54 l55 l56 l57
      have f72 : (w_4.alloc (.cells #[.slice aX0a mz0.length cX0a, .slice aX0b mw0.length cX0b, .slice aX0c mb0.length cX0c] 25)).cell? ⟨w_4.heap.size, 0, none⟩ = some (.slice aX0a mz0.length cX0a) := by go_simp
      have f73 : (w_4.alloc (.cells #[.slice aX0a mz0.length cX0a, .slice aX0b mw0.length cX0b, .slice aX0c mb0.length cX0c] 25)).cell? ⟨w_4.heap.size, 1, none⟩ = some (.slice aX0b mw0.length cX0b) := by go_simp
      have f74 : (w_4.alloc (.cells #[.slice aX0a mz0.length cX0a, .slice aX0b mw0.length cX0b, .slice aX0c mb0.length cX0c] 25)).cell? ⟨w_4.heap.size, 2, none⟩ = some (.slice aX0c mb0.length cX0c) := by go_simp
      have l75 : w_4.heap.size < (w_4.alloc (.cells #[.slice aX0a mz0.length cX0a, .slice aX0b mw0.length cX0b, .slice aX0c mb0.length cX0c] 25)).heap.size := alloc_lt2 _ _
      have S76 : w_4.heap.size < (w_4.alloc (.cells #[.slice aX0a mz0.length cX0a, .slice aX0b mw0.length cX0b, .slice aX0c mb0.length cX0c] 25)).heap.size := alloc_lt2 _ _
      have HB77 := Lib.hid (below_of HB58.out (below_al w_4 (.cells #[.slice aX0a mz0.length cX0a, .slice aX0b mw0.length cX0b, .slice aX0c mb0.length cX0c] 25)) HB58.out.size)
      have HR78 := Lib.hid (modOwn_kept (below_al w_4 (.cells #[.slice aX0a mz0.length cX0a, .slice aX0b mw0.length cX0b, .slice aX0c mb0.length cX0c] 25)) HX0R.out)
      clear HX0R
      go_wp2_with fail
      generalize (w_4.alloc (.cells #[.slice aX0a mz0.length cX0a, .slice aX0b mw0.length cX0b, .slice aX0c mb0.length cX0c] 25)) = wb79 at *
      refine (toProf_any s1 v1 zs1 _ (rings_kept HB77.out HZ1.out)).mono ?_
      rintro e w_5 ⟨vx1, rfl, ho, hb⟩
      have HXR0 := rv_of_ownAt ho
      obtain ⟨aX1, cX1, rfl⟩ := rv_form HXR0
      rw [HNA1.out] at HXR0 ⊢
      have HX1I := Lib.hid (rv_in HXR0)
      have HX1R := Lib.hid HXR0
      have S80 : wb79.heap.size ≤ w_5.heap.size := (hb).size
      have f81 : w_5.cell? ⟨w.heap.size, 0, none⟩ = some (x0a) := (below_cell hb _ _ l69).trans f59
      have f82 : w_5.cell? ⟨w.heap.size, 1, none⟩ = some (x0b) := (below_cell hb _ _ l69).trans f60
      have f83 : w_5.cell? ⟨w.heap.size, 2, none⟩ = some (x0c) := (below_cell hb _ _ l69).trans f61
      have f84 : w_5.cell? ⟨w.heap.size + 1, 0, none⟩ = some (.string s1) := (below_cell hb _ _ l70).trans f62
      have f85 : w_5.cell? ⟨w.heap.size + 1, 1, none⟩ = some (v1) := (below_cell hb _ _ l70).trans f63
      have f86 : w_5.cell? ⟨bW, 0, none⟩ = some (.int .i64 qa) := (below_cell hb _ _ l71).trans f64
      have f87 : w_5.cell? ⟨bW, 1, none⟩ = some (.int .i64 qb) := (below_cell hb _ _ l71).trans f65
      have f88 : w_5.cell? ⟨bW, 2, none⟩ = some (.int .i64 qc) := (below_cell hb _ _ l71).trans f66
      have f89 : w_5.cell? ⟨bW, 3, none⟩ = some (.int .i64 qe) := (below_cell hb _ _ l71).trans f67
      have f90 : w_5.cell? ⟨bW, 4, none⟩ = some (.int .i64 qf) := (below_cell hb _ _ l71).trans f68
      have f91 : w_5.cell? ⟨w_4.heap.size, 0, none⟩ = some (.slice aX0a mz0.length cX0a) := (below_cell hb _ _ l75).trans f72
      have f92 : w_5.cell? ⟨w_4.heap.size, 1, none⟩ = some (.slice aX0b mw0.length cX0b) := (below_cell hb _ _ l75).trans f73
      have f93 : w_5.cell? ⟨w_4.heap.size, 2, none⟩ = some (.slice aX0c mb0.length cX0c) := (below_cell hb _ _ l75).trans f74
      have l94 : w.heap.size < w_5.heap.size := Nat.lt_of_lt_of_le l69 (hb).size
      have l95 : w.heap.size + 1 < w_5.heap.size := Nat.lt_of_lt_of_le l70 (hb).size
      have l96 : bW < w_5.heap.size := Nat.lt_of_lt_of_le l71 (hb).size
      have l97 : w_4.heap.size < w_5.heap.size := Nat.lt_of_lt_of_le l75 (hb).size
      clear f59 f60 f61 f62 f63 f64 f65 f66 f67 f68 f72 f73 f74 l69 l70 l71 l75
      have HB98 := Lib.hid (below_of HB77.out hb HB77.out.size)
      have HR99 := Lib.hid (modOwn_kept hb HR78.out)
      clear HR78
      clear hb ho HXR0
      have f100 : (w_5.alloc (.cells #[.string s1, .slice aX1 len1 cX1] 45)).cell? ⟨w.heap.size, 0, none⟩ = some (x0a) := (below_cell (below_al w_5 (.cells #[.string s1, .slice aX1 len1 cX1] 45)) _ _ l94).trans f81
      have f101 : (w_5.alloc (.cells #[.string s1, .slice aX1 len1 cX1] 45)).cell? ⟨w.heap.size, 1, none⟩ = some (x0b) := (below_cell (below_al w_5 (.cells #[.string s1, .slice aX1 len1 cX1] 45)) _ _ l94).trans f82
      have f102 : (w_5.alloc (.cells #[.string s1, .slice aX1 len1 cX1] 45)).cell? ⟨w.heap.size, 2, none⟩ = some (x0c) := (below_cell (below_al w_5 (.cells #[.string s1, .slice aX1 len1 cX1] 45)) _ _ l94).trans f83
      have f103 : (w_5.alloc (.cells #[.string s1, .slice aX1 len1 cX1] 45)).cell? ⟨w.heap.size + 1, 0, none⟩ = some (.string s1) := (below_cell (below_al w_5 (.cells #[.string s1, .slice aX1 len1 cX1] 45)) _ _ l95).trans f84
      have f104 : (w_5.alloc (.cells #[.string s1, .slice aX1 len1 cX1] 45)).cell? ⟨w.heap.size + 1, 1, none⟩ = some (v1) := (below_cell (below_al w_5 (.cells #[.string s1, .slice aX1 len1 cX1] 45)) _ _ l95).trans f85
      have f105 : (w_5.alloc (.cells #[.string s1, .slice aX1 len1 cX1] 45)).cell? ⟨bW, 0, none⟩ = some (.int .i64 qa) := (below_cell (below_al w_5 (.cells #[.string s1, .slice aX1 len1 cX1] 45)) _ _ l96).trans f86
      have f106 : (w_5.alloc (.cells #[.string s1, .slice aX1 len1 cX1] 45)).cell? ⟨bW, 1, none⟩ = some (.int .i64 qb) := (below_cell (below_al w_5 (.cells #[.string s1, .slice aX1 len1 cX1] 45)) _ _ l96).trans f87
      have f107 : (w_5.alloc (.cells #[.string s1, .slice aX1 len1 cX1] 45)).cell? ⟨bW, 2, none⟩ = some (.int .i64 qc) := (below_cell (below_al w_5 (.cells #[.string s1, .slice aX1 len1 cX1] 45)) _ _ l96).trans f88
      have f108 : (w_5.alloc (.cells #[.string s1, .slice aX1 len1 cX1] 45)).cell? ⟨bW, 3, none⟩ = some (.int .i64 qe) := (below_cell (below_al w_5 (.cells #[.string s1, .slice aX1 len1 cX1] 45)) _ _ l96).trans f89
      have f109 : (w_5.alloc (.cells #[.string s1, .slice aX1 len1 cX1] 45)).cell? ⟨bW, 4, none⟩ = some (.int .i64 qf) := (below_cell (below_al w_5 (.cells #[.string s1, .slice aX1 len1 cX1] 45)) _ _ l96).trans f90
      have f110 : (w_5.alloc (.cells #[.string s1, .slice aX1 len1 cX1] 45)).cell? ⟨w_4.heap.size, 0, none⟩ = some (.slice aX0a mz0.length cX0a) := (below_cell (below_al w_5 (.cells #[.string s1, .slice aX1 len1 cX1] 45)) _ _ l97).trans f91
      have f111 : (w_5.alloc (.cells #[.string s1, .slice aX1 len1 cX1] 45)).cell? ⟨w_4.heap.size, 1, none⟩ = some (.slice aX0b mw0.length cX0b) := (below_cell (below_al w_5 (.cells #[.string s1, .slice aX1 len1 cX1] 45)) _ _ l97).trans f92
      have f112 : (w_5.alloc (.cells #[.string s1, .slice aX1 len1 cX1] 45)).cell? ⟨w_4.heap.size, 2, none⟩ = some (.slice aX0c mb0.length cX0c) := (below_cell (below_al w_5 (.cells #[.string s1, .slice aX1 len1 cX1] 45)) _ _ l97).trans f93
      have l113 : w.heap.size < (w_5.alloc (.cells #[.string s1, .slice aX1 len1 cX1] 45)).heap.size := Nat.lt_of_lt_of_le l94 (below_al w_5 (.cells #[.string s1, .slice aX1 len1 cX1] 45)).size
      have l114 : w.heap.size + 1 < (w_5.alloc (.cells #[.string s1, .slice aX1 len1 cX1] 45)).heap.size := Nat.lt_of_lt_of_le l95 (below_al w_5 (.cells #[.string s1, .slice aX1 len1 cX1] 45)).size
      have l115 : bW < (w_5.alloc (.cells #[.string s1, .slice aX1 len1 cX1] 45)).heap.size := Nat.lt_of_lt_of_le l96 (below_al w_5 (.cells #[.string s1, .slice aX1 len1 cX1] 45)).size
      have l116 : w_4.heap.size < (w_5.alloc (.cells #[.string s1, .slice aX1 len1 cX1] 45)).heap.size := Nat.lt_of_lt_of_le l97 (below_al w_5 (.cells #[.string s1, .slice aX1 len1 cX1] 45)).size
      clear f81 f82 f83 f84 f85 f86 f87 f88 f89 f90 f91 f92 f93 l94 l95 l96 l97
      have f117 : (w_5.alloc (.cells #[.string s1, .slice aX1 len1 cX1] 45)).cell? ⟨w_5.heap.size, 0, none⟩ = some (.string s1) := by go_simp
      have f118 : (w_5.alloc (.cells #[.string s1, .slice aX1 len1 cX1] 45)).cell? ⟨w_5.heap.size, 1, none⟩ = some (.slice aX1 len1 cX1) := by go_simp
      have l119 : w_5.heap.size < (w_5.alloc (.cells #[.string s1, .slice aX1 len1 cX1] 45)).heap.size := alloc_lt2 _ _
      have S120 : w_5.heap.size < (w_5.alloc (.cells #[.string s1, .slice aX1 len1 cX1] 45)).heap.size := alloc_lt2 _ _
      have HB121 := Lib.hid (below_of HB98.out (below_al w_5 (.cells #[.string s1, .slice aX1 len1 cX1] 45)) HB98.out.size)
      have HR122 := Lib.hid (modOwn_kept (below_al w_5 (.cells #[.string s1, .slice aX1 len1 cX1] 45)) HR99.out)
      clear HR99
      have HR123 := Lib.hid (rv_kept (below_al w_5 (.cells #[.string s1, .slice aX1 len1 cX1] 45)) HX1R.out)
      clear HX1R
      go_wp2_with fail
      generalize (w_5.alloc (.cells #[.string s1, .slice aX1 len1 cX1] 45)) = wb124 at *
      refine (HIM.out _ _ _ _ _ (modOwn_parts HML0.out.2.2.1 HML0.out.2.1 (lenS_row HML0.out.2.2.2.2) HML0.out.2.2.2.1 HR122.out) (rvW HZL1.out HR123.out)).mono ?_
      rintro e w_6 ⟨rfl, hb⟩
      have S125 : wb124.heap.size ≤ w_6.heap.size := (hb).size
      have f126 : w_6.cell? ⟨w.heap.size, 0, none⟩ = some (x0a) := (below_cell hb _ _ l113).trans f100
      have f127 : w_6.cell? ⟨w.heap.size, 1, none⟩ = some (x0b) := (below_cell hb _ _ l113).trans f101
      have f128 : w_6.cell? ⟨w.heap.size, 2, none⟩ = some (x0c) := (below_cell hb _ _ l113).trans f102
      have f129 : w_6.cell? ⟨w.heap.size + 1, 0, none⟩ = some (.string s1) := (below_cell hb _ _ l114).trans f103
      have f130 : w_6.cell? ⟨w.heap.size + 1, 1, none⟩ = some (v1) := (below_cell hb _ _ l114).trans f104
      have f131 : w_6.cell? ⟨bW, 0, none⟩ = some (.int .i64 qa) := (below_cell hb _ _ l115).trans f105
      have f132 : w_6.cell? ⟨bW, 1, none⟩ = some (.int .i64 qb) := (below_cell hb _ _ l115).trans f106
      have f133 : w_6.cell? ⟨bW, 2, none⟩ = some (.int .i64 qc) := (below_cell hb _ _ l115).trans f107
      have f134 : w_6.cell? ⟨bW, 3, none⟩ = some (.int .i64 qe) := (below_cell hb _ _ l115).trans f108
      have f135 : w_6.cell? ⟨bW, 4, none⟩ = some (.int .i64 qf) := (below_cell hb _ _ l115).trans f109
      have f136 : w_6.cell? ⟨w_4.heap.size, 0, none⟩ = some (.slice aX0a mz0.length cX0a) := (below_cell hb _ _ l116).trans f110
      have f137 : w_6.cell? ⟨w_4.heap.size, 1, none⟩ = some (.slice aX0b mw0.length cX0b) := (below_cell hb _ _ l116).trans f111
      have f138 : w_6.cell? ⟨w_4.heap.size, 2, none⟩ = some (.slice aX0c mb0.length cX0c) := (below_cell hb _ _ l116).trans f112
      have f139 : w_6.cell? ⟨w_5.heap.size, 0, none⟩ = some (.string s1) := (below_cell hb _ _ l119).trans f117
      have f140 : w_6.cell? ⟨w_5.heap.size, 1, none⟩ = some (.slice aX1 len1 cX1) := (below_cell hb _ _ l119).trans f118
      have l141 : w.heap.size < w_6.heap.size := Nat.lt_of_lt_of_le l113 (hb).size
      have l142 : w.heap.size + 1 < w_6.heap.size := Nat.lt_of_lt_of_le l114 (hb).size
      have l143 : bW < w_6.heap.size := Nat.lt_of_lt_of_le l115 (hb).size
      have l144 : w_4.heap.size < w_6.heap.size := Nat.lt_of_lt_of_le l116 (hb).size
      have l145 : w_5.heap.size < w_6.heap.size := Nat.lt_of_lt_of_le l119 (hb).size
      clear f100 f101 f102 f103 f104 f105 f106 f107 f108 f109 f110 f111 f112 f117 f118 l113 l114 l115 l116 l119
      have HB146 := Lib.hid (below_of HB121.out hb HB121.out.size)
      have HR147 := Lib.hid (modOwn_kept hb HR122.out)
      clear HR122
      have HR148 := Lib.hid (rv_kept hb HR123.out)
      clear HR123
      clear hb 
      have f149 : (w_6.alloc (.cells #[.int .i64 qa, .int .i64 qb, .int .i64 qc, .int .i64 qe, .int .i64 qf] 51)).cell? ⟨w.heap.size, 0, none⟩ = some (x0a) := (below_cell (below_al w_6 (.cells #[.int .i64 qa, .int .i64 qb, .int .i64 qc, .int .i64 qe, .int .i64 qf] 51)) _ _ l141).trans f126
      have f150 : (w_6.alloc (.cells #[.int .i64 qa, .int .i64 qb, .int .i64 qc, .int .i64 qe, .int .i64 qf] 51)).cell? ⟨w.heap.size, 1, none⟩ = some (x0b) := (below_cell (below_al w_6 (.cells #[.int .i64 qa, .int .i64 qb, .int .i64 qc, .int .i64 qe, .int .i64 qf] 51)) _ _ l141).trans f127
      have f151 : (w_6.alloc (.cells #[.int .i64 qa, .int .i64 qb, .int .i64 qc, .int .i64 qe, .int .i64 qf] 51)).cell? ⟨w.heap.size, 2, none⟩ = some (x0c) := (below_cell (below_al w_6 (.cells #[.int .i64 qa, .int .i64 qb, .int .i64 qc, .int .i64 qe, .int .i64 qf] 51)) _ _ l141).trans f128
      have f152 : (w_6.alloc (.cells #[.int .i64 qa, .int .i64 qb, .int .i64 qc, .int .i64 qe, .int .i64 qf] 51)).cell? ⟨w.heap.size + 1, 0, none⟩ = some (.string s1) := (below_cell (below_al w_6 (.cells #[.int .i64 qa, .int .i64 qb, .int .i64 qc, .int .i64 qe, .int .i64 qf] 51)) _ _ l142).trans f129
      have f153 : (w_6.alloc (.cells #[.int .i64 qa, .int .i64 qb, .int .i64 qc, .int .i64 qe, .int .i64 qf] 51)).cell? ⟨w.heap.size + 1, 1, none⟩ = some (v1) := (below_cell (below_al w_6 (.cells #[.int .i64 qa, .int .i64 qb, .int .i64 qc, .int .i64 qe, .int .i64 qf] 51)) _ _ l142).trans f130
      have f154 : (w_6.alloc (.cells #[.int .i64 qa, .int .i64 qb, .int .i64 qc, .int .i64 qe, .int .i64 qf] 51)).cell? ⟨bW, 0, none⟩ = some (.int .i64 qa) := (below_cell (below_al w_6 (.cells #[.int .i64 qa, .int .i64 qb, .int .i64 qc, .int .i64 qe, .int .i64 qf] 51)) _ _ l143).trans f131
      have f155 : (w_6.alloc (.cells #[.int .i64 qa, .int .i64 qb, .int .i64 qc, .int .i64 qe, .int .i64 qf] 51)).cell? ⟨bW, 1, none⟩ = some (.int .i64 qb) := (below_cell (below_al w_6 (.cells #[.int .i64 qa, .int .i64 qb, .int .i64 qc, .int .i64 qe, .int .i64 qf] 51)) _ _ l143).trans f132
      have f156 : (w_6.alloc (.cells #[.int .i64 qa, .int .i64 qb, .int .i64 qc, .int .i64 qe, .int .i64 qf] 51)).cell? ⟨bW, 2, none⟩ = some (.int .i64 qc) := (below_cell (below_al w_6 (.cells #[.int .i64 qa, .int .i64 qb, .int .i64 qc, .int .i64 qe, .int .i64 qf] 51)) _ _ l143).trans f133
      have f157 : (w_6.alloc (.cells #[.int .i64 qa, .int .i64 qb, .int .i64 qc, .int .i64 qe, .int .i64 qf] 51)).cell? ⟨bW, 3, none⟩ = some (.int .i64 qe) := (below_cell (below_al w_6 (.cells #[.int .i64 qa, .int .i64 qb, .int .i64 qc, .int .i64 qe, .int .i64 qf] 51)) _ _ l143).trans f134
      have f158 : (w_6.alloc (.cells #[.int .i64 qa, .int .i64 qb, .int .i64 qc, .int .i64 qe, .int .i64 qf] 51)).cell? ⟨bW, 4, none⟩ = some (.int .i64 qf) := (below_cell (below_al w_6 (.cells #[.int .i64 qa, .int .i64 qb, .int .i64 qc, .int .i64 qe, .int .i64 qf] 51)) _ _ l143).trans f135
      have f159 : (w_6.alloc (.cells #[.int .i64 qa, .int .i64 qb, .int .i64 qc, .int .i64 qe, .int .i64 qf] 51)).cell? ⟨w_4.heap.size, 0, none⟩ = some (.slice aX0a mz0.length cX0a) := (below_cell (below_al w_6 (.cells #[.int .i64 qa, .int .i64 qb, .int .i64 qc, .int .i64 qe, .int .i64 qf] 51)) _ _ l144).trans f136
      have f160 : (w_6.alloc (.cells #[.int .i64 qa, .int .i64 qb, .int .i64 qc, .int .i64 qe, .int .i64 qf] 51)).cell? ⟨w_4.heap.size, 1, none⟩ = some (.slice aX0b mw0.length cX0b) := (below_cell (below_al w_6 (.cells #[.int .i64 qa, .int .i64 qb, .int .i64 qc, .int .i64 qe, .int .i64 qf] 51)) _ _ l144).trans f137
      have f161 : (w_6.alloc (.cells #[.int .i64 qa, .int .i64 qb, .int .i64 qc, .int .i64 qe, .int .i64 qf] 51)).cell? ⟨w_4.heap.size, 2, none⟩ = some (.slice aX0c mb0.length cX0c) := (below_cell (below_al w_6 (.cells #[.int .i64 qa, .int .i64 qb, .int .i64 qc, .int .i64 qe, .int .i64 qf] 51)) _ _ l144).trans f138
      have f162 : (w_6.alloc (.cells #[.int .i64 qa, .int .i64 qb, .int .i64 qc, .int .i64 qe, .int .i64 qf] 51)).cell? ⟨w_5.heap.size, 0, none⟩ = some (.string s1) := (below_cell (below_al w_6 (.cells #[.int .i64 qa, .int .i64 qb, .int .i64 qc, .int .i64 qe, .int .i64 qf] 51)) _ _ l145).trans f139
      have f163 : (w_6.alloc (.cells #[.int .i64 qa, .int .i64 qb, .int .i64 qc, .int .i64 qe, .int .i64 qf] 51)).cell? ⟨w_5.heap.size, 1, none⟩ = some (.slice aX1 len1 cX1) := (below_cell (below_al w_6 (.cells #[.int .i64 qa, .int .i64 qb, .int .i64 qc, .int .i64 qe, .int .i64 qf] 51)) _ _ l145).trans f140
      have l164 : w.heap.size < (w_6.alloc (.cells #[.int .i64 qa, .int .i64 qb, .int .i64 qc, .int .i64 qe, .int .i64 qf] 51)).heap.size := Nat.lt_of_lt_of_le l141 (below_al w_6 (.cells #[.int .i64 qa, .int .i64 qb, .int .i64 qc, .int .i64 qe, .int .i64 qf] 51)).size
      have l165 : w.heap.size + 1 < (w_6.alloc (.cells #[.int .i64 qa, .int .i64 qb, .int .i64 qc, .int .i64 qe, .int .i64 qf] 51)).heap.size := Nat.lt_of_lt_of_le l142 (below_al w_6 (.cells #[.int .i64 qa, .int .i64 qb, .int .i64 qc, .int .i64 qe, .int .i64 qf] 51)).size
      have l166 : bW < (w_6.alloc (.cells #[.int .i64 qa, .int .i64 qb, .int .i64 qc, .int .i64 qe, .int .i64 qf] 51)).heap.size := Nat.lt_of_lt_of_le l143 (below_al w_6 (.cells #[.int .i64 qa, .int .i64 qb, .int .i64 qc, .int .i64 qe, .int .i64 qf] 51)).size
      have l167 : w_4.heap.size < (w_6.alloc (.cells #[.int .i64 qa, .int .i64 qb, .int .i64 qc, .int .i64 qe, .int .i64 qf] 51)).heap.size := Nat.lt_of_lt_of_le l144 (below_al w_6 (.cells #[.int .i64 qa, .int .i64 qb, .int .i64 qc, .int .i64 qe, .int .i64 qf] 51)).size
      have l168 : w_5.heap.size < (w_6.alloc (.cells #[.int .i64 qa, .int .i64 qb, .int .i64 qc, .int .i64 qe, .int .i64 qf] 51)).heap.size := Nat.lt_of_lt_of_le l145 (below_al w_6 (.cells #[.int .i64 qa, .int .i64 qb, .int .i64 qc, .int .i64 qe, .int .i64 qf] 51)).size
      clear f126 f127 f128 f129 f130 f131 f132 f133 f134 f135 f136 f137 f138 f139 f140 l141 l142 l143 l144 l145
      have f169 : (w_6.alloc (.cells #[.int .i64 qa, .int .i64 qb, .int .i64 qc, .int .i64 qe, .int .i64 qf] 51)).cell? ⟨w_6.heap.size, 0, none⟩ = some (.int .i64 qa) := by go_simp
      have f170 : (w_6.alloc (.cells #[.int .i64 qa, .int .i64 qb, .int .i64 qc, .int .i64 qe, .int .i64 qf] 51)).cell? ⟨w_6.heap.size, 1, none⟩ = some (.int .i64 qb) := by go_simp
      have f171 : (w_6.alloc (.cells #[.int .i64 qa, .int .i64 qb, .int .i64 qc, .int .i64 qe, .int .i64 qf] 51)).cell? ⟨w_6.heap.size, 2, none⟩ = some (.int .i64 qc) := by go_simp
      have f172 : (w_6.alloc (.cells #[.int .i64 qa, .int .i64 qb, .int .i64 qc, .int .i64 qe, .int .i64 qf] 51)).cell? ⟨w_6.heap.size, 3, none⟩ = some (.int .i64 qe) := by go_simp
      have f173 : (w_6.alloc (.cells #[.int .i64 qa, .int .i64 qb, .int .i64 qc, .int .i64 qe, .int .i64 qf] 51)).cell? ⟨w_6.heap.size, 4, none⟩ = some (.int .i64 qf) := by go_simp
      have l174 : w_6.heap.size < (w_6.alloc (.cells #[.int .i64 qa, .int .i64 qb, .int .i64 qc, .int .i64 qe, .int .i64 qf] 51)).heap.size := alloc_lt2 _ _
      have S175 : w_6.heap.size < (w_6.alloc (.cells #[.int .i64 qa, .int .i64 qb, .int .i64 qc, .int .i64 qe, .int .i64 qf] 51)).heap.size := alloc_lt2 _ _
      have HB176 := Lib.hid (below_of HB146.out (below_al w_6 (.cells #[.int .i64 qa, .int .i64 qb, .int .i64 qc, .int .i64 qe, .int .i64 qf] 51)) HB146.out.size)
      have HR177 := Lib.hid (modOwn_kept (below_al w_6 (.cells #[.int .i64 qa, .int .i64 qb, .int .i64 qc, .int .i64 qe, .int .i64 qf] 51)) HR147.out)
      clear HR147
      have HR178 := Lib.hid (rv_kept (below_al w_6 (.cells #[.int .i64 qa, .int .i64 qb, .int .i64 qc, .int .i64 qe, .int .i64 qf] 51)) HR148.out)
      clear HR148
      go_wp2_with fail
      generalize (w_6.alloc (.cells #[.int .i64 qa, .int .i64 qb, .int .i64 qc, .int .i64 qe, .int .i64 qf] 51)) = wb179 at *
      refine (eqSound_any qa qb qc qe qf _).mono ?_
      rintro e w_7 ⟨rfl, hb⟩
      have S180 : wb179.heap.size ≤ w_7.heap.size := (hb).size
      have f181 : w_7.cell? ⟨w.heap.size, 0, none⟩ = some (x0a) := (below_cell hb _ _ l164).trans f149
      have f182 : w_7.cell? ⟨w.heap.size, 1, none⟩ = some (x0b) := (below_cell hb _ _ l164).trans f150
      have f183 : w_7.cell? ⟨w.heap.size, 2, none⟩ = some (x0c) := (below_cell hb _ _ l164).trans f151
      have f184 : w_7.cell? ⟨w.heap.size + 1, 0, none⟩ = some (.string s1) := (below_cell hb _ _ l165).trans f152
      have f185 : w_7.cell? ⟨w.heap.size + 1, 1, none⟩ = some (v1) := (below_cell hb _ _ l165).trans f153
      have f186 : w_7.cell? ⟨bW, 0, none⟩ = some (.int .i64 qa) := (below_cell hb _ _ l166).trans f154
      have f187 : w_7.cell? ⟨bW, 1, none⟩ = some (.int .i64 qb) := (below_cell hb _ _ l166).trans f155
      have f188 : w_7.cell? ⟨bW, 2, none⟩ = some (.int .i64 qc) := (below_cell hb _ _ l166).trans f156
      have f189 : w_7.cell? ⟨bW, 3, none⟩ = some (.int .i64 qe) := (below_cell hb _ _ l166).trans f157
      have f190 : w_7.cell? ⟨bW, 4, none⟩ = some (.int .i64 qf) := (below_cell hb _ _ l166).trans f158
      have f191 : w_7.cell? ⟨w_4.heap.size, 0, none⟩ = some (.slice aX0a mz0.length cX0a) := (below_cell hb _ _ l167).trans f159
      have f192 : w_7.cell? ⟨w_4.heap.size, 1, none⟩ = some (.slice aX0b mw0.length cX0b) := (below_cell hb _ _ l167).trans f160
      have f193 : w_7.cell? ⟨w_4.heap.size, 2, none⟩ = some (.slice aX0c mb0.length cX0c) := (below_cell hb _ _ l167).trans f161
      have f194 : w_7.cell? ⟨w_5.heap.size, 0, none⟩ = some (.string s1) := (below_cell hb _ _ l168).trans f162
      have f195 : w_7.cell? ⟨w_5.heap.size, 1, none⟩ = some (.slice aX1 len1 cX1) := (below_cell hb _ _ l168).trans f163
      have f196 : w_7.cell? ⟨w_6.heap.size, 0, none⟩ = some (.int .i64 qa) := (below_cell hb _ _ l174).trans f169
      have f197 : w_7.cell? ⟨w_6.heap.size, 1, none⟩ = some (.int .i64 qb) := (below_cell hb _ _ l174).trans f170
      have f198 : w_7.cell? ⟨w_6.heap.size, 2, none⟩ = some (.int .i64 qc) := (below_cell hb _ _ l174).trans f171
      have f199 : w_7.cell? ⟨w_6.heap.size, 3, none⟩ = some (.int .i64 qe) := (below_cell hb _ _ l174).trans f172
      have f200 : w_7.cell? ⟨w_6.heap.size, 4, none⟩ = some (.int .i64 qf) := (below_cell hb _ _ l174).trans f173
      have l201 : w.heap.size < w_7.heap.size := Nat.lt_of_lt_of_le l164 (hb).size
      have l202 : w.heap.size + 1 < w_7.heap.size := Nat.lt_of_lt_of_le l165 (hb).size
      have l203 : bW < w_7.heap.size := Nat.lt_of_lt_of_le l166 (hb).size
      have l204 : w_4.heap.size < w_7.heap.size := Nat.lt_of_lt_of_le l167 (hb).size
      have l205 : w_5.heap.size < w_7.heap.size := Nat.lt_of_lt_of_le l168 (hb).size
      have l206 : w_6.heap.size < w_7.heap.size := Nat.lt_of_lt_of_le l174 (hb).size
      clear f149 f150 f151 f152 f153 f154 f155 f156 f157 f158 f159 f160 f161 f162 f163 f169 f170 f171 f172 f173 l164 l165 l166 l167 l168 l174
      have HB207 := Lib.hid (below_of HB176.out hb HB176.out.size)
      have HR208 := Lib.hid (modOwn_kept hb HR177.out)
      clear HR177
      have HR209 := Lib.hid (rv_kept hb HR178.out)
      clear HR178
      clear hb 
      go_wp2
      have hbd : Below w_7.heap.size w_7 w_7.drew := ⟨rfl, rfl, rfl, Nat.le_refl _, fun _ _ => rfl⟩
      have HIv := Lib.hid (modAt_kept HB207.out HZ0.out)
      have HXr := Lib.hid (modOwn_parts HML0.out.2.2.1 HML0.out.2.1 (lenS_row HML0.out.2.2.2.2) HML0.out.2.2.2.1 HR208.out)
      have HSK := Lib.hid (fun W (hW : Below w_7.heap.size w_7 W) => show W.cell? ⟨w.heap.size, 0, none⟩ = some (x0a) ∧ W.cell? ⟨w.heap.size, 1, none⟩ = some (x0b) ∧ W.cell? ⟨w.heap.size, 2, none⟩ = some (x0c) ∧ W.cell? ⟨w_4.heap.size, 0, none⟩ = some (.slice aX0a mz0.length cX0a) ∧ W.cell? ⟨w_4.heap.size, 1, none⟩ = some (.slice aX0b mw0.length cX0b) ∧ W.cell? ⟨w_4.heap.size, 2, none⟩ = some (.slice aX0c mb0.length cX0c) ∧ Below w_7.heap.size w_7 W from ⟨(below_cell hW _ _ l201).trans f181, (below_cell hW _ _ l201).trans f182, (below_cell hW _ _ l201).trans f183, (below_cell hW _ _ l204).trans f191, (below_cell hW _ _ l204).trans f192, (below_cell hW _ _ l204).trans f193, hW⟩)
      go_region_held3 (fun W => W.cell? ⟨w.heap.size, 0, none⟩ = some (x0a) ∧ W.cell? ⟨w.heap.size, 1, none⟩ = some (x0b) ∧ W.cell? ⟨w.heap.size, 2, none⟩ = some (x0c) ∧ W.cell? ⟨w_4.heap.size, 0, none⟩ = some (.slice aX0a mz0.length cX0a) ∧ W.cell? ⟨w_4.heap.size, 1, none⟩ = some (.slice aX0b mw0.length cX0b) ∧ W.cell? ⟨w_4.heap.size, 2, none⟩ = some (.slice aX0c mb0.length cX0c) ∧ Below w_7.heap.size w_7 W)
        (first | exact HSK.out _ hbd | exact HSK.out _ hbr0 | exact HSK.out _ hbrf | assumption)
        (first
          | (go_at_call 21; refine (toModX_any x0a x0b x0c mz0 mw0 mb0 _ (modAt_kept hbd HIv.out).1 (modAt_kept hbd HIv.out).2.1 (modAt_kept hbd HIv.out).2.2).mono ?_; rintro e wq1000 ⟨v7a, v7b, v7c, rfl, ho7, hbq0⟩; have hbr0 := below_of hbd hbq0 hbd.size)
          | (go_at_call 13; refine (eqMod_any _ _ _ v7a v7b v7c mz0 mw0 mb0 _ (modAt_kept hbr0 HXr.out).1 (modAt_kept hbr0 HXr.out).2.1 (modAt_kept hbr0 HXr.out).2.2 (modOwn_parts HML0.out.2.2.1 HML0.out.2.1 (lenS_row HML0.out.2.2.2.2) HML0.out.2.2.2.1 ho7).1 (modOwn_parts HML0.out.2.2.1 HML0.out.2.1 (lenS_row HML0.out.2.2.2.2) HML0.out.2.2.2.1 ho7).2.1 (modOwn_parts HML0.out.2.2.1 HML0.out.2.1 (lenS_row HML0.out.2.2.2.2) HML0.out.2.2.2.1 ho7).2.2).mono ?_; rintro e wq2000 ⟨rfl, hbf⟩; have hbrf := below_of hbr0 hbf hbr0.size))
      have hb := hbrf
      have S210 : w_7.heap.size ≤ wq2000.heap.size := (hb).size
      have f211 : wq2000.cell? ⟨w.heap.size, 0, none⟩ = some (x0a) := (below_cell hb _ _ l201).trans f181
      have f212 : wq2000.cell? ⟨w.heap.size, 1, none⟩ = some (x0b) := (below_cell hb _ _ l201).trans f182
      have f213 : wq2000.cell? ⟨w.heap.size, 2, none⟩ = some (x0c) := (below_cell hb _ _ l201).trans f183
      have f214 : wq2000.cell? ⟨w.heap.size + 1, 0, none⟩ = some (.string s1) := (below_cell hb _ _ l202).trans f184
      have f215 : wq2000.cell? ⟨w.heap.size + 1, 1, none⟩ = some (v1) := (below_cell hb _ _ l202).trans f185
      have f216 : wq2000.cell? ⟨bW, 0, none⟩ = some (.int .i64 qa) := (below_cell hb _ _ l203).trans f186
      have f217 : wq2000.cell? ⟨bW, 1, none⟩ = some (.int .i64 qb) := (below_cell hb _ _ l203).trans f187
      have f218 : wq2000.cell? ⟨bW, 2, none⟩ = some (.int .i64 qc) := (below_cell hb _ _ l203).trans f188
      have f219 : wq2000.cell? ⟨bW, 3, none⟩ = some (.int .i64 qe) := (below_cell hb _ _ l203).trans f189
      have f220 : wq2000.cell? ⟨bW, 4, none⟩ = some (.int .i64 qf) := (below_cell hb _ _ l203).trans f190
      have f221 : wq2000.cell? ⟨w_4.heap.size, 0, none⟩ = some (.slice aX0a mz0.length cX0a) := (below_cell hb _ _ l204).trans f191
      have f222 : wq2000.cell? ⟨w_4.heap.size, 1, none⟩ = some (.slice aX0b mw0.length cX0b) := (below_cell hb _ _ l204).trans f192
      have f223 : wq2000.cell? ⟨w_4.heap.size, 2, none⟩ = some (.slice aX0c mb0.length cX0c) := (below_cell hb _ _ l204).trans f193
      have f224 : wq2000.cell? ⟨w_5.heap.size, 0, none⟩ = some (.string s1) := (below_cell hb _ _ l205).trans f194
      have f225 : wq2000.cell? ⟨w_5.heap.size, 1, none⟩ = some (.slice aX1 len1 cX1) := (below_cell hb _ _ l205).trans f195
      have f226 : wq2000.cell? ⟨w_6.heap.size, 0, none⟩ = some (.int .i64 qa) := (below_cell hb _ _ l206).trans f196
      have f227 : wq2000.cell? ⟨w_6.heap.size, 1, none⟩ = some (.int .i64 qb) := (below_cell hb _ _ l206).trans f197
      have f228 : wq2000.cell? ⟨w_6.heap.size, 2, none⟩ = some (.int .i64 qc) := (below_cell hb _ _ l206).trans f198
      have f229 : wq2000.cell? ⟨w_6.heap.size, 3, none⟩ = some (.int .i64 qe) := (below_cell hb _ _ l206).trans f199
      have f230 : wq2000.cell? ⟨w_6.heap.size, 4, none⟩ = some (.int .i64 qf) := (below_cell hb _ _ l206).trans f200
      have l231 : w.heap.size < wq2000.heap.size := Nat.lt_of_lt_of_le l201 (hb).size
      have l232 : w.heap.size + 1 < wq2000.heap.size := Nat.lt_of_lt_of_le l202 (hb).size
      have l233 : bW < wq2000.heap.size := Nat.lt_of_lt_of_le l203 (hb).size
      have l234 : w_4.heap.size < wq2000.heap.size := Nat.lt_of_lt_of_le l204 (hb).size
      have l235 : w_5.heap.size < wq2000.heap.size := Nat.lt_of_lt_of_le l205 (hb).size
      have l236 : w_6.heap.size < wq2000.heap.size := Nat.lt_of_lt_of_le l206 (hb).size
      clear f181 f182 f183 f184 f185 f186 f187 f188 f189 f190 f191 f192 f193 f194 f195 f196 f197 f198 f199 f200 l201 l202 l203 l204 l205 l206
      have HB237 := Lib.hid (below_of HB207.out hb HB207.out.size)
      have HR238 := Lib.hid (modOwn_kept hb HR208.out)
      clear HR208
      have HR239 := Lib.hid (rv_kept hb HR209.out)
      clear HR209
      clear hb hbd hbr0 hbrf hbq0 hbf ho7 HIv HXr HSK
      go_wp2
      have hbd : Below wq2000.heap.size wq2000 wq2000.drew := ⟨rfl, rfl, rfl, Nat.le_refl _, fun _ _ => rfl⟩
      have HIv := Lib.hid (rings_kept HB237.out HZ1.out)
      have HXr := Lib.hid (rv_rings HZL1.out HR239.out)
      have HSK := Lib.hid (fun W (hW : Below wq2000.heap.size wq2000 W) => show W.cell? ⟨w.heap.size + 1, 0, none⟩ = some (.string s1) ∧ W.cell? ⟨w.heap.size + 1, 1, none⟩ = some (v1) ∧ W.cell? ⟨w_5.heap.size, 0, none⟩ = some (.string s1) ∧ W.cell? ⟨w_5.heap.size, 1, none⟩ = some (.slice aX1 len1 cX1) ∧ Below wq2000.heap.size wq2000 W from ⟨(below_cell hW _ _ l232).trans f214, (below_cell hW _ _ l232).trans f215, (below_cell hW _ _ l235).trans f224, (below_cell hW _ _ l235).trans f225, hW⟩)
      go_region_held3 (fun W => W.cell? ⟨w.heap.size + 1, 0, none⟩ = some (.string s1) ∧ W.cell? ⟨w.heap.size + 1, 1, none⟩ = some (v1) ∧ W.cell? ⟨w_5.heap.size, 0, none⟩ = some (.string s1) ∧ W.cell? ⟨w_5.heap.size, 1, none⟩ = some (.slice aX1 len1 cX1) ∧ Below wq2000.heap.size wq2000 W)
        (first | exact HSK.out _ hbd | exact HSK.out _ hbr0 | exact HSK.out _ hbrf | assumption)
        (first
          | (go_at_call 22; refine (toProf_any s1 v1 zs1 _ (rings_kept hbd HIv.out)).mono ?_; rintro e wq1001 ⟨v7, rfl, ho7, hbq0⟩; have hbr0 := below_of hbd hbq0 hbd.size)
          | (go_at_call 24; refine (eqProf_any s1 _ v7 zs1 _ (rings_kept hbr0 HXr.out) (ownRAt_rings HZL1.out ho7)).mono ?_; rintro e wq2001 ⟨rfl, hbf⟩; have hbrf := below_of hbr0 hbf hbr0.size))
      have hb := hbrf
      have S240 : wq2000.heap.size ≤ wq2001.heap.size := (hb).size
      have f241 : wq2001.cell? ⟨w.heap.size, 0, none⟩ = some (x0a) := (below_cell hb _ _ l231).trans f211
      have f242 : wq2001.cell? ⟨w.heap.size, 1, none⟩ = some (x0b) := (below_cell hb _ _ l231).trans f212
      have f243 : wq2001.cell? ⟨w.heap.size, 2, none⟩ = some (x0c) := (below_cell hb _ _ l231).trans f213
      have f244 : wq2001.cell? ⟨w.heap.size + 1, 0, none⟩ = some (.string s1) := (below_cell hb _ _ l232).trans f214
      have f245 : wq2001.cell? ⟨w.heap.size + 1, 1, none⟩ = some (v1) := (below_cell hb _ _ l232).trans f215
      have f246 : wq2001.cell? ⟨bW, 0, none⟩ = some (.int .i64 qa) := (below_cell hb _ _ l233).trans f216
      have f247 : wq2001.cell? ⟨bW, 1, none⟩ = some (.int .i64 qb) := (below_cell hb _ _ l233).trans f217
      have f248 : wq2001.cell? ⟨bW, 2, none⟩ = some (.int .i64 qc) := (below_cell hb _ _ l233).trans f218
      have f249 : wq2001.cell? ⟨bW, 3, none⟩ = some (.int .i64 qe) := (below_cell hb _ _ l233).trans f219
      have f250 : wq2001.cell? ⟨bW, 4, none⟩ = some (.int .i64 qf) := (below_cell hb _ _ l233).trans f220
      have f251 : wq2001.cell? ⟨w_4.heap.size, 0, none⟩ = some (.slice aX0a mz0.length cX0a) := (below_cell hb _ _ l234).trans f221
      have f252 : wq2001.cell? ⟨w_4.heap.size, 1, none⟩ = some (.slice aX0b mw0.length cX0b) := (below_cell hb _ _ l234).trans f222
      have f253 : wq2001.cell? ⟨w_4.heap.size, 2, none⟩ = some (.slice aX0c mb0.length cX0c) := (below_cell hb _ _ l234).trans f223
      have f254 : wq2001.cell? ⟨w_5.heap.size, 0, none⟩ = some (.string s1) := (below_cell hb _ _ l235).trans f224
      have f255 : wq2001.cell? ⟨w_5.heap.size, 1, none⟩ = some (.slice aX1 len1 cX1) := (below_cell hb _ _ l235).trans f225
      have f256 : wq2001.cell? ⟨w_6.heap.size, 0, none⟩ = some (.int .i64 qa) := (below_cell hb _ _ l236).trans f226
      have f257 : wq2001.cell? ⟨w_6.heap.size, 1, none⟩ = some (.int .i64 qb) := (below_cell hb _ _ l236).trans f227
      have f258 : wq2001.cell? ⟨w_6.heap.size, 2, none⟩ = some (.int .i64 qc) := (below_cell hb _ _ l236).trans f228
      have f259 : wq2001.cell? ⟨w_6.heap.size, 3, none⟩ = some (.int .i64 qe) := (below_cell hb _ _ l236).trans f229
      have f260 : wq2001.cell? ⟨w_6.heap.size, 4, none⟩ = some (.int .i64 qf) := (below_cell hb _ _ l236).trans f230
      have l261 : w.heap.size < wq2001.heap.size := Nat.lt_of_lt_of_le l231 (hb).size
      have l262 : w.heap.size + 1 < wq2001.heap.size := Nat.lt_of_lt_of_le l232 (hb).size
      have l263 : bW < wq2001.heap.size := Nat.lt_of_lt_of_le l233 (hb).size
      have l264 : w_4.heap.size < wq2001.heap.size := Nat.lt_of_lt_of_le l234 (hb).size
      have l265 : w_5.heap.size < wq2001.heap.size := Nat.lt_of_lt_of_le l235 (hb).size
      have l266 : w_6.heap.size < wq2001.heap.size := Nat.lt_of_lt_of_le l236 (hb).size
      clear f211 f212 f213 f214 f215 f216 f217 f218 f219 f220 f221 f222 f223 f224 f225 f226 f227 f228 f229 f230 l231 l232 l233 l234 l235 l236
      have HB267 := Lib.hid (below_of HB237.out hb HB237.out.size)
      have HR268 := Lib.hid (modOwn_kept hb HR238.out)
      clear HR238
      have HR269 := Lib.hid (rv_kept hb HR239.out)
      clear HR239
      clear hb hbd hbr0 hbrf hbq0 hbf ho7 HIv HXr HSK
      go_wp2
      go_ret
      exact ⟨rfl, HB267.out⟩
    · have HL1 := Lib.hid (show leftP s1.size len1 (1048576 - (T1 : Int)) = -1 by exact leftP_no (by omega))
      clear hI1
      go_enter Try.func5, Try.ntmps5
      have f270 : ((w.alloc (.cells #[x0a, x0b, x0c] 34)).alloc (.cells #[.string s1, v1] 37)).cell? ⟨w.heap.size + 1, 0, none⟩ = some (.string s1) := by go_simp
      have f271 : ((w.alloc (.cells #[x0a, x0b, x0c] 34)).alloc (.cells #[.string s1, v1] 37)).cell? ⟨w.heap.size + 1, 1, none⟩ = some (v1) := by go_simp
      have l272 : w.heap.size + 1 < ((w.alloc (.cells #[x0a, x0b, x0c] 34)).alloc (.cells #[.string s1, v1] 37)).heap.size := by simp <;> omega
      have HB273 := Lib.hid (((below_al w (.cells #[x0a, x0b, x0c] 34)).alloc (by simp <;> omega) (.cells #[.string s1, v1] 37)))
      go_wp2_with fail
      generalize ((w.alloc (.cells #[x0a, x0b, x0c] 34)).alloc (.cells #[.string s1, v1] 37)) = wb at *
      refine (szModX_any x0a x0b x0c N0 (1048576) _ (szM_kept HB273.out HSZ0.out) (by omega) (by omega)).mono ?_
      rintro e w_8 ⟨rfl, hb⟩
      rw [HL0.out]
      have S274 : wb.heap.size ≤ w_8.heap.size := (hb).size
      have f275 : w_8.cell? ⟨w.heap.size + 1, 0, none⟩ = some (.string s1) := (below_cell hb _ _ l272).trans f270
      have f276 : w_8.cell? ⟨w.heap.size + 1, 1, none⟩ = some (v1) := (below_cell hb _ _ l272).trans f271
      have l277 : w.heap.size + 1 < w_8.heap.size := Nat.lt_of_lt_of_le l272 (hb).size
      clear f270 f271 l272
      have HB278 := Lib.hid (below_of HB273.out hb HB273.out.size)
      clear hb 
      go_wp2_with fail
      refine (szProf_v s1 v1 len1 (1048576 - (T1 : Int)) _ HV1 hs1 hlen1 (by omega) (by omega)).mono ?_
      rintro e w_9 ⟨rfl, hb⟩
      rw [HL1.out]
      have S279 : w_8.heap.size ≤ w_9.heap.size := (hb).size
      have f280 : w_9.cell? ⟨w.heap.size + 1, 0, none⟩ = some (.string s1) := (below_cell hb _ _ l277).trans f275
      have f281 : w_9.cell? ⟨w.heap.size + 1, 1, none⟩ = some (v1) := (below_cell hb _ _ l277).trans f276
      have l282 : w.heap.size + 1 < w_9.heap.size := Nat.lt_of_lt_of_le l277 (hb).size
      clear f275 f276 l277
      have HB283 := Lib.hid (below_of HB278.out hb HB278.out.size)
      clear hb 
      go_wp2
      go_ret
      exact ⟨rfl, HB283.out⟩
  · have HL0 := Lib.hid (show leftN N0 (1048576) = -1 by exact leftN_no (by omega))
    clear hmk0 hI1
    go_enter Try.func5, Try.ntmps5
    have HB284 := Lib.hid (((below_al w (.cells #[x0a, x0b, x0c] 34)).alloc (by simp <;> omega) (.cells #[.string s1, v1] 37)))
    go_wp2_with fail
    generalize ((w.alloc (.cells #[x0a, x0b, x0c] 34)).alloc (.cells #[.string s1, v1] 37)) = wb at *
    refine (szModX_any x0a x0b x0c N0 (1048576) _ (szM_kept HB284.out HSZ0.out) (by omega) (by omega)).mono ?_
    rintro e w_10 ⟨rfl, hb⟩
    rw [HL0.out]
    have S285 : wb.heap.size ≤ w_10.heap.size := (hb).size
    have HB286 := Lib.hid (below_of HB284.out hb HB284.out.size)
    clear hb 
    go_wp2
    go_ret
    exact ⟨rfl, HB286.out⟩

set_option maxRecDepth 100000 in
theorem contract (H : Type) (enc : TypeId × Value → H) (W : World) (base : Nat) (args : Array Value) (ds gs : List (DataW H)) (before : List MemPlace)
    (hval : ∀ (j : Nat) t v, Try.f5.params[j]? = some t → args[j]? = some v → Value.okWide Try.prog W .any base t v)
    (hW : DataW.Whole enc Try.prog Try.f5.params.toList Rows.fnExactSoundOfSpec.vars false W args.toList ds gs before) :
    Calls Try.prog 5 args W fun e W' => ∃ v, e = .returned v ∧ Rows.fnExactSoundOfSpec.post enc Try.prog Try.f5 false true false false W args v W' := by
  have hW' := hW
  obtain ⟨p, q, hA0, hV, rfl, hfz, hnd⟩ := hW
  have hA : DataW.TrodAll enc Try.prog W 0 (fun _ => true) true Try.f5.params.toList args.toList ds p := hA0
  rw [Try.params5] at hA hval
  obtain ⟨v0, vs0, d0, ds0, p0, q0, hargs, rfl, rfl, h0, r0⟩ := trodAll_cons hA
  obtain ⟨v1, vs1, d1, ds1, p1, q1, hargs1, rfl, rfl, h1, r1⟩ := trodAll_cons r0
  subst hargs1
  obtain ⟨rfl, rfl, rfl⟩ := trodAll_nil r1
  obtain rfl : args = #[v0, v1] := by cases args; simp_all
  obtain ⟨rfl, rfl⟩ := trodVars_none hV
  simp only [List.append_nil] at hW'
  have hlt0 : ∀ x ∈ p0, x.block < W.heap.size := fun x hx => hW'.lt x (by simp [hx])
  have kept0 := fun (W2 : World) (hb : Below W.heap.size W W2) => Below.trod laidOut (by kernel_rfl) (of_decide_eq_true (by kernel_rfl)) h0 hb hlt0
  have hI0 := modelx_arg (hval 0 34 v0 rfl rfl) h0 hlt0
  have hlt1 : ∀ x ∈ p1, x.block < W.heap.size := fun x hx => hW'.lt x (by simp [hx])
  have kept1 := fun (W2 : World) (hb : Below W.heap.size W W2) => Below.trod laidOut (by kernel_rfl) (of_decide_eq_true (by kernel_rfl)) h1 hb hlt1
  obtain ⟨s1, a1, len1, cap1, rfl, w1, hI1⟩ := prof_arg (hval 1 37 v1 rfl rfl) h1 hlt1
  clear hA0
  refine (walk v0 s1 a1 len1 cap1 w1 W hI0 hI1).mono fun e W' ⟨he, hg⟩ => ?_
  subst he
  refine ⟨_, rfl, post_at (pa := p0 ++ p1) (pv := []) hW' (by simp) hg (fun _ _ => (trodAll_cons_mk (shut_bool Try.underlying4 _) trodAll_mk0)) ?_ rfl⟩
  have hk := (trodAll_cons_mk (kept0 W' hg) (trodAll_cons_mk (kept1 W' hg) trodAll_mk0))
  simp only [List.append_nil] at hk
  exact hk

set_option maxRecDepth 100000 in
theorem lifted (os : Os) (started : os.Started) (H : Type) (enc : TypeId × Value → H) :
    ReturnsInHanded {} Try.checked os 5 .any (Rows.fnExactSoundOfSpec.pre6 enc Try.prog Try.f5 Rows.fnExactSoundOfRow.domain false) (Rows.fnExactSoundOfSpec.post enc Try.prog Try.f5 false true false false) := by
  refine returnsInHanded_of_change (C := Try.checked) own started (by kernel_rfl) Try.func5
    (ChangeSpec.witness6 (enc := enc) (C := Try.checked) false ⟨#[], #[.agg #[.slice none 0 0, .slice none 0 0, .slice none 0 0], .agg #[.string ⟨#[]⟩, .slice none 0 0]], []⟩ 8 (by kernel_rfl) (by kernel_rfl) (by kernel_rfl) (by kernel_rfl)) ?_
  intro W base args ds gs before hval0 hW hcnd _
  have hval : ∀ (j : Nat) t v, Try.f5.params[j]? = some t → args[j]? = some v → Value.okWide Try.prog W .any base t v := hval0
  exact contract H enc W base args ds gs before hval hW

theorem over : Rows.fnExactSoundOfRow.holds Try.pinned (OpenSpec.ofChange Rows.fnExactSoundOfSpec) :=
  OpenClaim.holds_of_wide 5 Try.f5 rfl rfl rfl rfl rfl rfl rfl ⟨rfl, rfl, rfl, rfl, rfl⟩ rfl rfl rfl rfl rfl (by kernel_rfl) Try.func5 (by kernel_rfl)
    (of_decide_eq_true (by kernel_rfl)) (by unfold Func.isWrapper; first | (rw [if_pos (by decide +kernel)]; kernel_rfl) | (rw [if_neg (by decide +kernel)]; exact ⟨rfl, rfl⟩))
    (fun os started H enc _ => lifted os started H enc)
end Go.Proofs.Ytpllmehcndinkaa.fnExactSoundOf

namespace Go.Proofs.Ytpllmehcndinkaa
/-- The given statement. -/
theorem fnExactSoundOf_holds : Rows.FnExactSoundOfSaid := fnExactSoundOf.over
#print axioms fnExactSoundOf_holds
end Go.Proofs.Ytpllmehcndinkaa
