/- The program's Sensitivity answers as the reference model's, for every model, profile and zone; it changes none of them, and its answer is memory of its own. -/
import Derived.Test.YtpllmehcndinkaaRows
import Derived.Test.YtpllmehcndinkaaG1
import Derived.Test.YtpllmehcndinkaaModX
import Derived.Test.YtpllmehcndinkaaG2
import Derived.Test.YtpllmehcndinkaaSenI
import Derived.Test.YtpllmehcndinkaaRingRes
import Derived.Test.YtpllmehcndinkaaIntRes
import Derived.Deep.RegionHeld3
namespace Go.Proofs.Ytpllmehcndinkaa.fnExactSensitivity
open Go.ChangeShapes Go.WideShapes Go.ChangeAt Go.RowKit
open Go.ChangeMaps (open_string shut_string)
set_option linter.unusedVariables false

theorem own : ownKnob Try.prog.godebug = none := by kernel_rfl

set_option maxRecDepth 100000 in
set_option maxHeartbeats 8000000 in
theorem walk (v0 : Value) (s1 : ByteArray) (p1 : Option Addr) (len1 cap1 : Nat) (a2 : Int) (w1 : s1.size ≤ 9223372036854775807 ∧ len1 ≤ 9223372036854775807) (w2 : (Lit.int .i64 a2).wf = true) (w : World) (hI0 : ModArgX w v0) (hI1 : len1 ≤ 1048576 → ∃ zs : List Rg, zs.length = len1 ∧ RingsAt w (.slice p1 len1 cap1) zs) :
    Calls Try.prog 6 #[v0, .agg #[.string s1, .slice p1 len1 cap1], .int .i64 a2] w fun e w' => e = .returned (.bool true) ∧ Below w.heap.size w w' := by
  obtain ⟨x0a, x0b, x0c, N0, rfl, hsz0, hmk0⟩ := hI0
  have HSZ0 := Lib.hid hsz0
  clear hsz0
  obtain ⟨hs1, hlen1⟩ := w1
  have bd2 := wf_bd w2
  clear w2
  have HV1 := Lib.hid (show ∃ a' c', Value.slice p1 len1 cap1 = .slice a' len1 c' from ⟨_, _, rfl⟩)
  generalize Value.slice p1 len1 cap1 = v1 at *
  by_cases hbig0 : (N0) ≤ 1048576
  · obtain ⟨T1, hT1⟩ : ∃ T, (N0) = T := ⟨_, rfl⟩
    have HL0 := Lib.hid (show leftN N0 (1048576) = 1048576 - (T1 : Int) by rw [leftN_yes (by omega)]; omega)
    have hTb1 : T1 ≤ 1048576 := by omega
    obtain ⟨mz0, mw0, mb0, hmn0, hma0⟩ := hmk0 (by omega)
    have HZ0 := Lib.hid hma0
    have hmt0 : mz0.length + lenS mw0 mw0.length + mb0.length ≤ 1048576 ∧ mw0.length ≤ 1048576 ∧ mz0.length ≤ 1048576 ∧ mb0.length ≤ 1048576 ∧ lenS mw0 mw0.length ≤ 1048576 := by omega
    have HML0 := Lib.hid hmt0
    clear hmn0 hma0 hmk0
    by_cases hbig1 : T1 + (s1.size + len1) ≤ 1048576
    · obtain ⟨T2, hT2⟩ : ∃ T, T1 + (s1.size + len1) = T := ⟨_, rfl⟩
      have HL1 := Lib.hid (show leftP s1.size len1 (1048576 - (T1 : Int)) = 1048576 - (T2 : Int) by rw [leftP_yes (by omega)]; omega)
      have hTb2 : T2 ≤ 1048576 := by omega
      obtain ⟨zs1, hz1, hzs1⟩ := hI1 (by omega)
      have HZ1 := Lib.hid hzs1
      have HNA1 := Lib.hid hz1
      have HZL1 := Lib.hid (show zs1.length ≤ 1048576 by omega)
      clear hzs1 hz1 hI1
      have hTl1 : len1 ≤ 1048576 := by omega
      clear hT1 hbig0 hT2 hbig1
      obtain ⟨L1, c1, hl1, hsp, him⟩ : ∃ (L1 : List Int) (c1 : Int), L1.length ≤ 64 ∧ (∀ y0a y0b y0c v1 w, ModAt w y0a y0b y0c mz0 mw0 mb0 → RingsW w v1 zs1 → Calls Try.prog 30 #[.agg #[y0a, y0b, y0c], .agg #[.string s1, v1], .int .i64 a2] w (IntU L1 c1 w)) ∧ (∀ y0a y0b y0c v1 w, ModAt w y0a y0b y0c mz0 mw0 mb0 → RingsW w v1 zs1 → Calls Try.prog 31 #[.agg #[y0a, y0b, y0c], .agg #[.string s1, v1], .int .i64 a2] w (IntU L1 c1 w)) :=
        ⟨senL mz0 mw0 mb0 s1 zs1 a2, senC mz0 mw0 mb0 s1 zs1 a2, senL_len mz0 mw0 mb0 s1 zs1 a2, fun y0 y1 y2 v w h h1 => specSen_any y0 y1 y2 v mz0 mw0 mb0 s1 zs1 a2 w h.1 h.2.1 h.2.2 h1.1 hs1 bd2, fun y0 y1 y2 v w h h1 => implSen_any y0 y1 y2 v mz0 mw0 mb0 s1 zs1 a2 w h.1 h.2.1 h.2.2 h1 hs1 bd2⟩
      have HSP := Lib.hid hsp
      have HIM := Lib.hid him
      clear hsp him
      obtain ⟨n1, hn1⟩ : ∃ n1, L1.length = n1 := ⟨_, rfl⟩
      have HN1 := Lib.hid hn1
      have HLL := Lib.hid (show L1.length ≤ 1048576 by omega)
      rw [hn1] at hl1
      have hll : n1 ≤ 1048576 := by omega
      clear hn1
      have hq3 : ((1 + (n1 : Int)) != (1 + (n1 : Int))) = false := by simp
      have hpos : ¬ (1 + (n1 : Int)) < 0 := by omega
      have hpos2 : ¬ (1 + (mz0.length : Int) + (lenS mw0 mw0.length : Nat) + (mb0.length : Int) + 3 * (len1 : Int)) < 0 := by omega
      have hccc1 : (c1 != c1) = false := by simp
      go_enter Try.func6, Try.ntmps6
      have f1 : ((w.alloc (.cells #[x0a, x0b, x0c] 34)).alloc (.cells #[.string s1, v1] 37)).cell? ⟨w.heap.size, 0, none⟩ = some (x0a) := by go_simp
      have f2 : ((w.alloc (.cells #[x0a, x0b, x0c] 34)).alloc (.cells #[.string s1, v1] 37)).cell? ⟨w.heap.size, 1, none⟩ = some (x0b) := by go_simp
      have f3 : ((w.alloc (.cells #[x0a, x0b, x0c] 34)).alloc (.cells #[.string s1, v1] 37)).cell? ⟨w.heap.size, 2, none⟩ = some (x0c) := by go_simp
      have l4 : w.heap.size < ((w.alloc (.cells #[x0a, x0b, x0c] 34)).alloc (.cells #[.string s1, v1] 37)).heap.size := by simp <;> omega
      have f5 : ((w.alloc (.cells #[x0a, x0b, x0c] 34)).alloc (.cells #[.string s1, v1] 37)).cell? ⟨w.heap.size + 1, 0, none⟩ = some (.string s1) := by go_simp
      have f6 : ((w.alloc (.cells #[x0a, x0b, x0c] 34)).alloc (.cells #[.string s1, v1] 37)).cell? ⟨w.heap.size + 1, 1, none⟩ = some (v1) := by go_simp
      have l7 : w.heap.size + 1 < ((w.alloc (.cells #[x0a, x0b, x0c] 34)).alloc (.cells #[.string s1, v1] 37)).heap.size := by simp <;> omega
      have S8 : w.heap.size + 2 ≤ ((w.alloc (.cells #[x0a, x0b, x0c] 34)).alloc (.cells #[.string s1, v1] 37)).heap.size := by simp <;> omega
      have HB9 := Lib.hid (((below_al w (.cells #[x0a, x0b, x0c] 34)).alloc (by simp <;> omega) (.cells #[.string s1, v1] 37)))
      go_wp2_with fail
      generalize ((w.alloc (.cells #[x0a, x0b, x0c] 34)).alloc (.cells #[.string s1, v1] 37)) = wb at *
      refine (szModX_any x0a x0b x0c N0 (1048576) _ (szM_kept HB9.out HSZ0.out) (by omega) (by omega)).mono ?_
      rintro e w_1 ⟨rfl, hb⟩
      rw [HL0.out]
      have S10 : wb.heap.size ≤ w_1.heap.size := (hb).size
      have f11 : w_1.cell? ⟨w.heap.size, 0, none⟩ = some (x0a) := (below_cell hb _ _ l4).trans f1
      have f12 : w_1.cell? ⟨w.heap.size, 1, none⟩ = some (x0b) := (below_cell hb _ _ l4).trans f2
      have f13 : w_1.cell? ⟨w.heap.size, 2, none⟩ = some (x0c) := (below_cell hb _ _ l4).trans f3
      have f14 : w_1.cell? ⟨w.heap.size + 1, 0, none⟩ = some (.string s1) := (below_cell hb _ _ l7).trans f5
      have f15 : w_1.cell? ⟨w.heap.size + 1, 1, none⟩ = some (v1) := (below_cell hb _ _ l7).trans f6
      have l16 : w.heap.size < w_1.heap.size := Nat.lt_of_lt_of_le l4 (hb).size
      have l17 : w.heap.size + 1 < w_1.heap.size := Nat.lt_of_lt_of_le l7 (hb).size
      clear f1 f2 f3 f5 f6 l4 l7
      have HB18 := Lib.hid (below_of HB9.out hb HB9.out.size)
      clear hb 
      go_wp2_with fail
      refine (szProf_v s1 v1 len1 (1048576 - (T1 : Int)) _ HV1 hs1 hlen1 (by omega) (by omega)).mono ?_
      rintro e w_2 ⟨rfl, hb⟩
      rw [HL1.out]
      have S19 : w_1.heap.size ≤ w_2.heap.size := (hb).size
      have f20 : w_2.cell? ⟨w.heap.size, 0, none⟩ = some (x0a) := (below_cell hb _ _ l16).trans f11
      have f21 : w_2.cell? ⟨w.heap.size, 1, none⟩ = some (x0b) := (below_cell hb _ _ l16).trans f12
      have f22 : w_2.cell? ⟨w.heap.size, 2, none⟩ = some (x0c) := (below_cell hb _ _ l16).trans f13
      have f23 : w_2.cell? ⟨w.heap.size + 1, 0, none⟩ = some (.string s1) := (below_cell hb _ _ l17).trans f14
      have f24 : w_2.cell? ⟨w.heap.size + 1, 1, none⟩ = some (v1) := (below_cell hb _ _ l17).trans f15
      have l25 : w.heap.size < w_2.heap.size := Nat.lt_of_lt_of_le l16 (hb).size
      have l26 : w.heap.size + 1 < w_2.heap.size := Nat.lt_of_lt_of_le l17 (hb).size
      clear f11 f12 f13 f14 f15 l16 l17
      have HB27 := Lib.hid (below_of HB18.out hb HB18.out.size)
      clear hb 
      go_wp2_with fail
      have hbd : Below w_2.heap.size w_2 w_2.drew := ⟨rfl, rfl, rfl, Nat.le_refl _, fun _ _ => rfl⟩
      have HI0 := Lib.hid (modAt_kept HB27.out HZ0.out)
      have HI1 := Lib.hid (rings_kept HB27.out HZ1.out)
      have HSK := Lib.hid (fun W (hW : Below w_2.heap.size w_2 W) => show W.cell? ⟨w.heap.size, 0, none⟩ = some (x0a) ∧ W.cell? ⟨w.heap.size, 1, none⟩ = some (x0b) ∧ W.cell? ⟨w.heap.size, 2, none⟩ = some (x0c) ∧ W.cell? ⟨w.heap.size + 1, 0, none⟩ = some (.string s1) ∧ W.cell? ⟨w.heap.size + 1, 1, none⟩ = some (v1) ∧ Below w_2.heap.size w_2 W from ⟨(below_cell hW _ _ l25).trans f20, (below_cell hW _ _ l25).trans f21, (below_cell hW _ _ l25).trans f22, (below_cell hW _ _ l26).trans f23, (below_cell hW _ _ l26).trans f24, hW⟩)
      go_region_held3 (fun W => W.cell? ⟨w.heap.size, 0, none⟩ = some (x0a) ∧ W.cell? ⟨w.heap.size, 1, none⟩ = some (x0b) ∧ W.cell? ⟨w.heap.size, 2, none⟩ = some (x0c) ∧ W.cell? ⟨w.heap.size + 1, 0, none⟩ = some (.string s1) ∧ W.cell? ⟨w.heap.size + 1, 1, none⟩ = some (v1) ∧ Below w_2.heap.size w_2 W)
        (first | exact HSK.out _ hbd | exact HSK.out _ hbr0 | exact HSK.out _ hbr1 | exact HSK.out _ hbrf | assumption)
        (first
          | (go_at_call_of 21 (Value.agg #[x0a, x0b, x0c]); refine (toModX_any x0a x0b x0c mz0 mw0 mb0 _ (modAt_kept hbd HI0.out).1 (modAt_kept hbd HI0.out).2.1 (modAt_kept hbd HI0.out).2.2).mono ?_; rintro e wR28_0 ⟨vx0a, vx0b, vx0c, rfl, ho0, hbq0⟩; have hbr0 := below_of hbd hbq0 hbd.size)
          | (go_at_call_of 22 (Value.agg #[.string s1, v1]); refine (toProf_any s1 v1 zs1 _ (rings_kept hbr0 HI1.out)).mono ?_; rintro e wR28_1 ⟨vx1, rfl, ho1, hbq1⟩; have hbr1 := below_of hbr0 hbq1 hbr0.size)
          | (go_at_call 30; refine (HSP.out vx0a vx0b vx0c vx1 _ (modAt_kept hbq1 (modOwn_parts HML0.out.2.2.1 HML0.out.2.1 (lenS_row HML0.out.2.2.2.2) HML0.out.2.2.2.1 ho0)) (rvW HZL1.out (rv_of_ownAt ho1))).mono ?_; rintro e wR28_f ⟨vw, rfl, hv, hbf⟩; have hbrf := below_of hbr1 hbf hbr1.size))
      have hb := hbrf
      have S29 : w_2.heap.size ≤ wR28_0.heap.size := hbq0.size
      have S30 : wR28_0.heap.size ≤ wR28_1.heap.size := hbq1.size
      have S31 : wR28_1.heap.size ≤ wR28_f.heap.size := hbf.size
      obtain ⟨aW, cW, rfl⟩ := iv_form hv
      rw [HN1.out] at hv ⊢
      have HWI := Lib.hid (iv_in hv)
      have HWR := Lib.hid hv
      clear hv
      have S32 : w_2.heap.size ≤ wR28_f.heap.size := (hb).size
      have f33 : wR28_f.cell? ⟨w.heap.size, 0, none⟩ = some (x0a) := (below_cell hb _ _ l25).trans f20
      have f34 : wR28_f.cell? ⟨w.heap.size, 1, none⟩ = some (x0b) := (below_cell hb _ _ l25).trans f21
      have f35 : wR28_f.cell? ⟨w.heap.size, 2, none⟩ = some (x0c) := (below_cell hb _ _ l25).trans f22
      have f36 : wR28_f.cell? ⟨w.heap.size + 1, 0, none⟩ = some (.string s1) := (below_cell hb _ _ l26).trans f23
      have f37 : wR28_f.cell? ⟨w.heap.size + 1, 1, none⟩ = some (v1) := (below_cell hb _ _ l26).trans f24
      have l38 : w.heap.size < wR28_f.heap.size := Nat.lt_of_lt_of_le l25 (hb).size
      have l39 : w.heap.size + 1 < wR28_f.heap.size := Nat.lt_of_lt_of_le l26 (hb).size
      clear f20 f21 f22 f23 f24 l25 l26
      have HB40 := Lib.hid (below_of HB27.out hb HB27.out.size)
      clear hb hbd hbrf hbf HSK hbq0 hbr0 hbq1 hbr1 ho0 HI0 ho1 HI1
      go_wp2_with fail
      refine (toModX_any x0a x0b x0c mz0 mw0 mb0 _ (modAt_kept HB40.out HZ0.out).1 (modAt_kept HB40.out HZ0.out).2.1 (modAt_kept HB40.out HZ0.out).2.2).mono ?_
      rintro e w_3 ⟨vx0a, vx0b, vx0c, rfl, ho, hb⟩
      have hF := modOwn_form ho
      obtain ⟨⟨aX0a, cX0a, rfl⟩, ⟨aX0b, cX0b, rfl⟩, ⟨aX0c, cX0c, rfl⟩⟩ := hF
      have HX0R := Lib.hid ho
      have S41 : wR28_f.heap.size ≤ w_3.heap.size := (hb).size
      have f42 : w_3.cell? ⟨w.heap.size, 0, none⟩ = some (x0a) := (below_cell hb _ _ l38).trans f33
      have f43 : w_3.cell? ⟨w.heap.size, 1, none⟩ = some (x0b) := (below_cell hb _ _ l38).trans f34
      have f44 : w_3.cell? ⟨w.heap.size, 2, none⟩ = some (x0c) := (below_cell hb _ _ l38).trans f35
      have f45 : w_3.cell? ⟨w.heap.size + 1, 0, none⟩ = some (.string s1) := (below_cell hb _ _ l39).trans f36
      have f46 : w_3.cell? ⟨w.heap.size + 1, 1, none⟩ = some (v1) := (below_cell hb _ _ l39).trans f37
      have l47 : w.heap.size < w_3.heap.size := Nat.lt_of_lt_of_le l38 (hb).size
      have l48 : w.heap.size + 1 < w_3.heap.size := Nat.lt_of_lt_of_le l39 (hb).size
      clear f33 f34 f35 f36 f37 l38 l39
      have HB49 := Lib.hid (below_of HB40.out hb HB40.out.size)
      have HR50 := Lib.hid (iv_kept hb HWR.out)
      clear HWR
      clear hb ho
      have f51 : (w_3.alloc (.cells #[.slice aX0a mz0.length cX0a, .slice aX0b mw0.length cX0b, .slice aX0c mb0.length cX0c] 25)).cell? ⟨w.heap.size, 0, none⟩ = some (x0a) := (below_cell (below_al w_3 (.cells #[.slice aX0a mz0.length cX0a, .slice aX0b mw0.length cX0b, .slice aX0c mb0.length cX0c] 25)) _ _ l47).trans f42
      have f52 : (w_3.alloc (.cells #[.slice aX0a mz0.length cX0a, .slice aX0b mw0.length cX0b, .slice aX0c mb0.length cX0c] 25)).cell? ⟨w.heap.size, 1, none⟩ = some (x0b) := (below_cell (below_al w_3 (.cells #[.slice aX0a mz0.length cX0a, .slice aX0b mw0.length cX0b, .slice aX0c mb0.length cX0c] 25)) _ _ l47).trans f43
      have f53 : (w_3.alloc (.cells #[.slice aX0a mz0.length cX0a, .slice aX0b mw0.length cX0b, .slice aX0c mb0.length cX0c] 25)).cell? ⟨w.heap.size, 2, none⟩ = some (x0c) := (below_cell (below_al w_3 (.cells #[.slice aX0a mz0.length cX0a, .slice aX0b mw0.length cX0b, .slice aX0c mb0.length cX0c] 25)) _ _ l47).trans f44
      have f54 : (w_3.alloc (.cells #[.slice aX0a mz0.length cX0a, .slice aX0b mw0.length cX0b, .slice aX0c mb0.length cX0c] 25)).cell? ⟨w.heap.size + 1, 0, none⟩ = some (.string s1) := (below_cell (below_al w_3 (.cells #[.slice aX0a mz0.length cX0a, .slice aX0b mw0.length cX0b, .slice aX0c mb0.length cX0c] 25)) _ _ l48).trans f45
      have f55 : (w_3.alloc (.cells #[.slice aX0a mz0.length cX0a, .slice aX0b mw0.length cX0b, .slice aX0c mb0.length cX0c] 25)).cell? ⟨w.heap.size + 1, 1, none⟩ = some (v1) := (below_cell (below_al w_3 (.cells #[.slice aX0a mz0.length cX0a, .slice aX0b mw0.length cX0b, .slice aX0c mb0.length cX0c] 25)) _ _ l48).trans f46
      have l56 : w.heap.size < (w_3.alloc (.cells #[.slice aX0a mz0.length cX0a, .slice aX0b mw0.length cX0b, .slice aX0c mb0.length cX0c] 25)).heap.size := Nat.lt_of_lt_of_le l47 (below_al w_3 (.cells #[.slice aX0a mz0.length cX0a, .slice aX0b mw0.length cX0b, .slice aX0c mb0.length cX0c] 25)).size
      have l57 : w.heap.size + 1 < (w_3.alloc (.cells #[.slice aX0a mz0.length cX0a, .slice aX0b mw0.length cX0b, .slice aX0c mb0.length cX0c] 25)).heap.size := Nat.lt_of_lt_of_le l48 (below_al w_3 (.cells #[.slice aX0a mz0.length cX0a, .slice aX0b mw0.length cX0b, .slice aX0c mb0.length cX0c] 25)).size
      clear f42 f43 f44 f45 f46 l47 l48
      have f58 : (w_3.alloc (.cells #[.slice aX0a mz0.length cX0a, .slice aX0b mw0.length cX0b, .slice aX0c mb0.length cX0c] 25)).cell? ⟨w_3.heap.size, 0, none⟩ = some (.slice aX0a mz0.length cX0a) := by go_simp
      have f59 : (w_3.alloc (.cells #[.slice aX0a mz0.length cX0a, .slice aX0b mw0.length cX0b, .slice aX0c mb0.length cX0c] 25)).cell? ⟨w_3.heap.size, 1, none⟩ = some (.slice aX0b mw0.length cX0b) := by go_simp
      have f60 : (w_3.alloc (.cells #[.slice aX0a mz0.length cX0a, .slice aX0b mw0.length cX0b, .slice aX0c mb0.length cX0c] 25)).cell? ⟨w_3.heap.size, 2, none⟩ = some (.slice aX0c mb0.length cX0c) := by go_simp
      have l61 : w_3.heap.size < (w_3.alloc (.cells #[.slice aX0a mz0.length cX0a, .slice aX0b mw0.length cX0b, .slice aX0c mb0.length cX0c] 25)).heap.size := alloc_lt2 _ _
      have S62 : w_3.heap.size < (w_3.alloc (.cells #[.slice aX0a mz0.length cX0a, .slice aX0b mw0.length cX0b, .slice aX0c mb0.length cX0c] 25)).heap.size := alloc_lt2 _ _
      have HB63 := Lib.hid (below_of HB49.out (below_al w_3 (.cells #[.slice aX0a mz0.length cX0a, .slice aX0b mw0.length cX0b, .slice aX0c mb0.length cX0c] 25)) HB49.out.size)
      have HR64 := Lib.hid (iv_kept (below_al w_3 (.cells #[.slice aX0a mz0.length cX0a, .slice aX0b mw0.length cX0b, .slice aX0c mb0.length cX0c] 25)) HR50.out)
      clear HR50
      have HR65 := Lib.hid (modOwn_kept (below_al w_3 (.cells #[.slice aX0a mz0.length cX0a, .slice aX0b mw0.length cX0b, .slice aX0c mb0.length cX0c] 25)) HX0R.out)
      clear HX0R
      go_wp2_with fail
      generalize (w_3.alloc (.cells #[.slice aX0a mz0.length cX0a, .slice aX0b mw0.length cX0b, .slice aX0c mb0.length cX0c] 25)) = wb66 at *
      refine (toProf_any s1 v1 zs1 _ (rings_kept HB63.out HZ1.out)).mono ?_
      rintro e w_4 ⟨vx1, rfl, ho, hb⟩
      have HXR0 := rv_of_ownAt ho
      obtain ⟨aX1, cX1, rfl⟩ := rv_form HXR0
      rw [HNA1.out] at HXR0 ⊢
      have HX1I := Lib.hid (rv_in HXR0)
      have HX1R := Lib.hid HXR0
      have S67 : wb66.heap.size ≤ w_4.heap.size := (hb).size
      have f68 : w_4.cell? ⟨w.heap.size, 0, none⟩ = some (x0a) := (below_cell hb _ _ l56).trans f51
      have f69 : w_4.cell? ⟨w.heap.size, 1, none⟩ = some (x0b) := (below_cell hb _ _ l56).trans f52
      have f70 : w_4.cell? ⟨w.heap.size, 2, none⟩ = some (x0c) := (below_cell hb _ _ l56).trans f53
      have f71 : w_4.cell? ⟨w.heap.size + 1, 0, none⟩ = some (.string s1) := (below_cell hb _ _ l57).trans f54
      have f72 : w_4.cell? ⟨w.heap.size + 1, 1, none⟩ = some (v1) := (below_cell hb _ _ l57).trans f55
      have f73 : w_4.cell? ⟨w_3.heap.size, 0, none⟩ = some (.slice aX0a mz0.length cX0a) := (below_cell hb _ _ l61).trans f58
      have f74 : w_4.cell? ⟨w_3.heap.size, 1, none⟩ = some (.slice aX0b mw0.length cX0b) := (below_cell hb _ _ l61).trans f59
      have f75 : w_4.cell? ⟨w_3.heap.size, 2, none⟩ = some (.slice aX0c mb0.length cX0c) := (below_cell hb _ _ l61).trans f60
      have l76 : w.heap.size < w_4.heap.size := Nat.lt_of_lt_of_le l56 (hb).size
      have l77 : w.heap.size + 1 < w_4.heap.size := Nat.lt_of_lt_of_le l57 (hb).size
      have l78 : w_3.heap.size < w_4.heap.size := Nat.lt_of_lt_of_le l61 (hb).size
      clear f51 f52 f53 f54 f55 f58 f59 f60 l56 l57 l61
      have HB79 := Lib.hid (below_of HB63.out hb HB63.out.size)
      have HR80 := Lib.hid (iv_kept hb HR64.out)
      clear HR64
      have HR81 := Lib.hid (modOwn_kept hb HR65.out)
      clear HR65
      clear hb ho HXR0
      have f82 : (w_4.alloc (.cells #[.string s1, .slice aX1 len1 cX1] 45)).cell? ⟨w.heap.size, 0, none⟩ = some (x0a) := (below_cell (below_al w_4 (.cells #[.string s1, .slice aX1 len1 cX1] 45)) _ _ l76).trans f68
      have f83 : (w_4.alloc (.cells #[.string s1, .slice aX1 len1 cX1] 45)).cell? ⟨w.heap.size, 1, none⟩ = some (x0b) := (below_cell (below_al w_4 (.cells #[.string s1, .slice aX1 len1 cX1] 45)) _ _ l76).trans f69
      have f84 : (w_4.alloc (.cells #[.string s1, .slice aX1 len1 cX1] 45)).cell? ⟨w.heap.size, 2, none⟩ = some (x0c) := (below_cell (below_al w_4 (.cells #[.string s1, .slice aX1 len1 cX1] 45)) _ _ l76).trans f70
      have f85 : (w_4.alloc (.cells #[.string s1, .slice aX1 len1 cX1] 45)).cell? ⟨w.heap.size + 1, 0, none⟩ = some (.string s1) := (below_cell (below_al w_4 (.cells #[.string s1, .slice aX1 len1 cX1] 45)) _ _ l77).trans f71
      have f86 : (w_4.alloc (.cells #[.string s1, .slice aX1 len1 cX1] 45)).cell? ⟨w.heap.size + 1, 1, none⟩ = some (v1) := (below_cell (below_al w_4 (.cells #[.string s1, .slice aX1 len1 cX1] 45)) _ _ l77).trans f72
      have f87 : (w_4.alloc (.cells #[.string s1, .slice aX1 len1 cX1] 45)).cell? ⟨w_3.heap.size, 0, none⟩ = some (.slice aX0a mz0.length cX0a) := (below_cell (below_al w_4 (.cells #[.string s1, .slice aX1 len1 cX1] 45)) _ _ l78).trans f73
      have f88 : (w_4.alloc (.cells #[.string s1, .slice aX1 len1 cX1] 45)).cell? ⟨w_3.heap.size, 1, none⟩ = some (.slice aX0b mw0.length cX0b) := (below_cell (below_al w_4 (.cells #[.string s1, .slice aX1 len1 cX1] 45)) _ _ l78).trans f74
      have f89 : (w_4.alloc (.cells #[.string s1, .slice aX1 len1 cX1] 45)).cell? ⟨w_3.heap.size, 2, none⟩ = some (.slice aX0c mb0.length cX0c) := (below_cell (below_al w_4 (.cells #[.string s1, .slice aX1 len1 cX1] 45)) _ _ l78).trans f75
      have l90 : w.heap.size < (w_4.alloc (.cells #[.string s1, .slice aX1 len1 cX1] 45)).heap.size := Nat.lt_of_lt_of_le l76 (below_al w_4 (.cells #[.string s1, .slice aX1 len1 cX1] 45)).size
      have l91 : w.heap.size + 1 < (w_4.alloc (.cells #[.string s1, .slice aX1 len1 cX1] 45)).heap.size := Nat.lt_of_lt_of_le l77 (below_al w_4 (.cells #[.string s1, .slice aX1 len1 cX1] 45)).size
      have l92 : w_3.heap.size < (w_4.alloc (.cells #[.string s1, .slice aX1 len1 cX1] 45)).heap.size := Nat.lt_of_lt_of_le l78 (below_al w_4 (.cells #[.string s1, .slice aX1 len1 cX1] 45)).size
      clear f68 f69 f70 f71 f72 f73 f74 f75 l76 l77 l78
      have f93 : (w_4.alloc (.cells #[.string s1, .slice aX1 len1 cX1] 45)).cell? ⟨w_4.heap.size, 0, none⟩ = some (.string s1) := by go_simp
      have f94 : (w_4.alloc (.cells #[.string s1, .slice aX1 len1 cX1] 45)).cell? ⟨w_4.heap.size, 1, none⟩ = some (.slice aX1 len1 cX1) := by go_simp
      have l95 : w_4.heap.size < (w_4.alloc (.cells #[.string s1, .slice aX1 len1 cX1] 45)).heap.size := alloc_lt2 _ _
      have S96 : w_4.heap.size < (w_4.alloc (.cells #[.string s1, .slice aX1 len1 cX1] 45)).heap.size := alloc_lt2 _ _
      have HB97 := Lib.hid (below_of HB79.out (below_al w_4 (.cells #[.string s1, .slice aX1 len1 cX1] 45)) HB79.out.size)
      have HR98 := Lib.hid (iv_kept (below_al w_4 (.cells #[.string s1, .slice aX1 len1 cX1] 45)) HR80.out)
      clear HR80
      have HR99 := Lib.hid (modOwn_kept (below_al w_4 (.cells #[.string s1, .slice aX1 len1 cX1] 45)) HR81.out)
      clear HR81
      have HR100 := Lib.hid (rv_kept (below_al w_4 (.cells #[.string s1, .slice aX1 len1 cX1] 45)) HX1R.out)
      clear HX1R
      go_wp2_with fail
      generalize (w_4.alloc (.cells #[.string s1, .slice aX1 len1 cX1] 45)) = wb101 at *
      refine (HIM.out _ _ _ _ _ (modOwn_parts HML0.out.2.2.1 HML0.out.2.1 (lenS_row HML0.out.2.2.2.2) HML0.out.2.2.2.1 HR99.out) (rvW HZL1.out HR100.out)).mono ?_
      rintro e w_5 ⟨vg, rfl, hv, hb⟩
      obtain ⟨aG, cG, rfl⟩ := iv_form hv
      rw [HN1.out] at hv ⊢
      have HGI := Lib.hid (iv_in hv)
      have HGR := Lib.hid hv
      clear hv
      have S102 : wb101.heap.size ≤ w_5.heap.size := (hb).size
      have f103 : w_5.cell? ⟨w.heap.size, 0, none⟩ = some (x0a) := (below_cell hb _ _ l90).trans f82
      have f104 : w_5.cell? ⟨w.heap.size, 1, none⟩ = some (x0b) := (below_cell hb _ _ l90).trans f83
      have f105 : w_5.cell? ⟨w.heap.size, 2, none⟩ = some (x0c) := (below_cell hb _ _ l90).trans f84
      have f106 : w_5.cell? ⟨w.heap.size + 1, 0, none⟩ = some (.string s1) := (below_cell hb _ _ l91).trans f85
      have f107 : w_5.cell? ⟨w.heap.size + 1, 1, none⟩ = some (v1) := (below_cell hb _ _ l91).trans f86
      have f108 : w_5.cell? ⟨w_3.heap.size, 0, none⟩ = some (.slice aX0a mz0.length cX0a) := (below_cell hb _ _ l92).trans f87
      have f109 : w_5.cell? ⟨w_3.heap.size, 1, none⟩ = some (.slice aX0b mw0.length cX0b) := (below_cell hb _ _ l92).trans f88
      have f110 : w_5.cell? ⟨w_3.heap.size, 2, none⟩ = some (.slice aX0c mb0.length cX0c) := (below_cell hb _ _ l92).trans f89
      have f111 : w_5.cell? ⟨w_4.heap.size, 0, none⟩ = some (.string s1) := (below_cell hb _ _ l95).trans f93
      have f112 : w_5.cell? ⟨w_4.heap.size, 1, none⟩ = some (.slice aX1 len1 cX1) := (below_cell hb _ _ l95).trans f94
      have l113 : w.heap.size < w_5.heap.size := Nat.lt_of_lt_of_le l90 (hb).size
      have l114 : w.heap.size + 1 < w_5.heap.size := Nat.lt_of_lt_of_le l91 (hb).size
      have l115 : w_3.heap.size < w_5.heap.size := Nat.lt_of_lt_of_le l92 (hb).size
      have l116 : w_4.heap.size < w_5.heap.size := Nat.lt_of_lt_of_le l95 (hb).size
      clear f82 f83 f84 f85 f86 f87 f88 f89 f93 f94 l90 l91 l92 l95
      have HB117 := Lib.hid (below_of HB97.out hb HB97.out.size)
      have HR118 := Lib.hid (iv_kept hb HR98.out)
      clear HR98
      have HR119 := Lib.hid (modOwn_kept hb HR99.out)
      clear HR99
      have HR120 := Lib.hid (rv_kept hb HR100.out)
      clear HR100
      clear hb 
      go_wp2_with fail
      refine (eqInts_at L1 _ _ _ (iv_ints HLL.out HGR.out) (iv_ints HLL.out HR118.out)).mono ?_
      rintro e w_6 ⟨rfl, hb⟩
      have S121 : w_5.heap.size ≤ w_6.heap.size := (hb).size
      have f122 : w_6.cell? ⟨w.heap.size, 0, none⟩ = some (x0a) := (below_cell hb _ _ l113).trans f103
      have f123 : w_6.cell? ⟨w.heap.size, 1, none⟩ = some (x0b) := (below_cell hb _ _ l113).trans f104
      have f124 : w_6.cell? ⟨w.heap.size, 2, none⟩ = some (x0c) := (below_cell hb _ _ l113).trans f105
      have f125 : w_6.cell? ⟨w.heap.size + 1, 0, none⟩ = some (.string s1) := (below_cell hb _ _ l114).trans f106
      have f126 : w_6.cell? ⟨w.heap.size + 1, 1, none⟩ = some (v1) := (below_cell hb _ _ l114).trans f107
      have f127 : w_6.cell? ⟨w_3.heap.size, 0, none⟩ = some (.slice aX0a mz0.length cX0a) := (below_cell hb _ _ l115).trans f108
      have f128 : w_6.cell? ⟨w_3.heap.size, 1, none⟩ = some (.slice aX0b mw0.length cX0b) := (below_cell hb _ _ l115).trans f109
      have f129 : w_6.cell? ⟨w_3.heap.size, 2, none⟩ = some (.slice aX0c mb0.length cX0c) := (below_cell hb _ _ l115).trans f110
      have f130 : w_6.cell? ⟨w_4.heap.size, 0, none⟩ = some (.string s1) := (below_cell hb _ _ l116).trans f111
      have f131 : w_6.cell? ⟨w_4.heap.size, 1, none⟩ = some (.slice aX1 len1 cX1) := (below_cell hb _ _ l116).trans f112
      have l132 : w.heap.size < w_6.heap.size := Nat.lt_of_lt_of_le l113 (hb).size
      have l133 : w.heap.size + 1 < w_6.heap.size := Nat.lt_of_lt_of_le l114 (hb).size
      have l134 : w_3.heap.size < w_6.heap.size := Nat.lt_of_lt_of_le l115 (hb).size
      have l135 : w_4.heap.size < w_6.heap.size := Nat.lt_of_lt_of_le l116 (hb).size
      clear f103 f104 f105 f106 f107 f108 f109 f110 f111 f112 l113 l114 l115 l116
      have HB136 := Lib.hid (below_of HB117.out hb HB117.out.size)
      have HR137 := Lib.hid (iv_kept hb HR118.out)
      clear HR118
      have HR138 := Lib.hid (modOwn_kept hb HR119.out)
      clear HR119
      have HR139 := Lib.hid (rv_kept hb HR120.out)
      clear HR120
      have HR140 := Lib.hid (iv_kept hb HGR.out)
      clear HGR
      clear hb 
      go_wp2
      have hbd : Below w_6.heap.size w_6 w_6.drew := ⟨rfl, rfl, rfl, Nat.le_refl _, fun _ _ => rfl⟩
      have HIv := Lib.hid (modAt_kept HB136.out HZ0.out)
      have HXr := Lib.hid (modOwn_parts HML0.out.2.2.1 HML0.out.2.1 (lenS_row HML0.out.2.2.2.2) HML0.out.2.2.2.1 HR138.out)
      have HSK := Lib.hid (fun W (hW : Below w_6.heap.size w_6 W) => show W.cell? ⟨w.heap.size, 0, none⟩ = some (x0a) ∧ W.cell? ⟨w.heap.size, 1, none⟩ = some (x0b) ∧ W.cell? ⟨w.heap.size, 2, none⟩ = some (x0c) ∧ W.cell? ⟨w_3.heap.size, 0, none⟩ = some (.slice aX0a mz0.length cX0a) ∧ W.cell? ⟨w_3.heap.size, 1, none⟩ = some (.slice aX0b mw0.length cX0b) ∧ W.cell? ⟨w_3.heap.size, 2, none⟩ = some (.slice aX0c mb0.length cX0c) ∧ Below w_6.heap.size w_6 W from ⟨(below_cell hW _ _ l132).trans f122, (below_cell hW _ _ l132).trans f123, (below_cell hW _ _ l132).trans f124, (below_cell hW _ _ l134).trans f127, (below_cell hW _ _ l134).trans f128, (below_cell hW _ _ l134).trans f129, hW⟩)
      go_region_held3 (fun W => W.cell? ⟨w.heap.size, 0, none⟩ = some (x0a) ∧ W.cell? ⟨w.heap.size, 1, none⟩ = some (x0b) ∧ W.cell? ⟨w.heap.size, 2, none⟩ = some (x0c) ∧ W.cell? ⟨w_3.heap.size, 0, none⟩ = some (.slice aX0a mz0.length cX0a) ∧ W.cell? ⟨w_3.heap.size, 1, none⟩ = some (.slice aX0b mw0.length cX0b) ∧ W.cell? ⟨w_3.heap.size, 2, none⟩ = some (.slice aX0c mb0.length cX0c) ∧ Below w_6.heap.size w_6 W)
        (first | exact HSK.out _ hbd | exact HSK.out _ hbr0 | exact HSK.out _ hbrf | assumption)
        (first
          | (go_at_call 21; refine (toModX_any x0a x0b x0c mz0 mw0 mb0 _ (modAt_kept hbd HIv.out).1 (modAt_kept hbd HIv.out).2.1 (modAt_kept hbd HIv.out).2.2).mono ?_; rintro e wq1000 ⟨v7a, v7b, v7c, rfl, ho7, hbq0⟩; have hbr0 := below_of hbd hbq0 hbd.size)
          | (go_at_call 13; refine (eqMod_any _ _ _ v7a v7b v7c mz0 mw0 mb0 _ (modAt_kept hbr0 HXr.out).1 (modAt_kept hbr0 HXr.out).2.1 (modAt_kept hbr0 HXr.out).2.2 (modOwn_parts HML0.out.2.2.1 HML0.out.2.1 (lenS_row HML0.out.2.2.2.2) HML0.out.2.2.2.1 ho7).1 (modOwn_parts HML0.out.2.2.1 HML0.out.2.1 (lenS_row HML0.out.2.2.2.2) HML0.out.2.2.2.1 ho7).2.1 (modOwn_parts HML0.out.2.2.1 HML0.out.2.1 (lenS_row HML0.out.2.2.2.2) HML0.out.2.2.2.1 ho7).2.2).mono ?_; rintro e wq2000 ⟨rfl, hbf⟩; have hbrf := below_of hbr0 hbf hbr0.size))
      have hb := hbrf
      have S141 : w_6.heap.size ≤ wq2000.heap.size := (hb).size
      have f142 : wq2000.cell? ⟨w.heap.size, 0, none⟩ = some (x0a) := (below_cell hb _ _ l132).trans f122
      have f143 : wq2000.cell? ⟨w.heap.size, 1, none⟩ = some (x0b) := (below_cell hb _ _ l132).trans f123
      have f144 : wq2000.cell? ⟨w.heap.size, 2, none⟩ = some (x0c) := (below_cell hb _ _ l132).trans f124
      have f145 : wq2000.cell? ⟨w.heap.size + 1, 0, none⟩ = some (.string s1) := (below_cell hb _ _ l133).trans f125
      have f146 : wq2000.cell? ⟨w.heap.size + 1, 1, none⟩ = some (v1) := (below_cell hb _ _ l133).trans f126
      have f147 : wq2000.cell? ⟨w_3.heap.size, 0, none⟩ = some (.slice aX0a mz0.length cX0a) := (below_cell hb _ _ l134).trans f127
      have f148 : wq2000.cell? ⟨w_3.heap.size, 1, none⟩ = some (.slice aX0b mw0.length cX0b) := (below_cell hb _ _ l134).trans f128
      have f149 : wq2000.cell? ⟨w_3.heap.size, 2, none⟩ = some (.slice aX0c mb0.length cX0c) := (below_cell hb _ _ l134).trans f129
      have f150 : wq2000.cell? ⟨w_4.heap.size, 0, none⟩ = some (.string s1) := (below_cell hb _ _ l135).trans f130
      have f151 : wq2000.cell? ⟨w_4.heap.size, 1, none⟩ = some (.slice aX1 len1 cX1) := (below_cell hb _ _ l135).trans f131
      have l152 : w.heap.size < wq2000.heap.size := Nat.lt_of_lt_of_le l132 (hb).size
      have l153 : w.heap.size + 1 < wq2000.heap.size := Nat.lt_of_lt_of_le l133 (hb).size
      have l154 : w_3.heap.size < wq2000.heap.size := Nat.lt_of_lt_of_le l134 (hb).size
      have l155 : w_4.heap.size < wq2000.heap.size := Nat.lt_of_lt_of_le l135 (hb).size
      clear f122 f123 f124 f125 f126 f127 f128 f129 f130 f131 l132 l133 l134 l135
      have HB156 := Lib.hid (below_of HB136.out hb HB136.out.size)
      have HR157 := Lib.hid (iv_kept hb HR137.out)
      clear HR137
      have HR158 := Lib.hid (modOwn_kept hb HR138.out)
      clear HR138
      have HR159 := Lib.hid (rv_kept hb HR139.out)
      clear HR139
      have HR160 := Lib.hid (iv_kept hb HR140.out)
      clear HR140
      clear hb hbd hbr0 hbrf hbq0 hbf ho7 HIv HXr HSK
      go_wp2
      have hbd : Below wq2000.heap.size wq2000 wq2000.drew := ⟨rfl, rfl, rfl, Nat.le_refl _, fun _ _ => rfl⟩
      have HIv := Lib.hid (rings_kept HB156.out HZ1.out)
      have HXr := Lib.hid (rv_rings HZL1.out HR159.out)
      have HSK := Lib.hid (fun W (hW : Below wq2000.heap.size wq2000 W) => show W.cell? ⟨w.heap.size + 1, 0, none⟩ = some (.string s1) ∧ W.cell? ⟨w.heap.size + 1, 1, none⟩ = some (v1) ∧ W.cell? ⟨w_4.heap.size, 0, none⟩ = some (.string s1) ∧ W.cell? ⟨w_4.heap.size, 1, none⟩ = some (.slice aX1 len1 cX1) ∧ Below wq2000.heap.size wq2000 W from ⟨(below_cell hW _ _ l153).trans f145, (below_cell hW _ _ l153).trans f146, (below_cell hW _ _ l155).trans f150, (below_cell hW _ _ l155).trans f151, hW⟩)
      go_region_held3 (fun W => W.cell? ⟨w.heap.size + 1, 0, none⟩ = some (.string s1) ∧ W.cell? ⟨w.heap.size + 1, 1, none⟩ = some (v1) ∧ W.cell? ⟨w_4.heap.size, 0, none⟩ = some (.string s1) ∧ W.cell? ⟨w_4.heap.size, 1, none⟩ = some (.slice aX1 len1 cX1) ∧ Below wq2000.heap.size wq2000 W)
        (first | exact HSK.out _ hbd | exact HSK.out _ hbr0 | exact HSK.out _ hbrf | assumption)
        (first
          | (go_at_call 22; refine (toProf_any s1 v1 zs1 _ (rings_kept hbd HIv.out)).mono ?_; rintro e wq1001 ⟨v7, rfl, ho7, hbq0⟩; have hbr0 := below_of hbd hbq0 hbd.size)
          | (go_at_call 24; refine (eqProf_any s1 _ v7 zs1 _ (rings_kept hbr0 HXr.out) (ownRAt_rings HZL1.out ho7)).mono ?_; rintro e wq2001 ⟨rfl, hbf⟩; have hbrf := below_of hbr0 hbf hbr0.size))
      have hb := hbrf
      have S161 : wq2000.heap.size ≤ wq2001.heap.size := (hb).size
      have f162 : wq2001.cell? ⟨w.heap.size, 0, none⟩ = some (x0a) := (below_cell hb _ _ l152).trans f142
      have f163 : wq2001.cell? ⟨w.heap.size, 1, none⟩ = some (x0b) := (below_cell hb _ _ l152).trans f143
      have f164 : wq2001.cell? ⟨w.heap.size, 2, none⟩ = some (x0c) := (below_cell hb _ _ l152).trans f144
      have f165 : wq2001.cell? ⟨w.heap.size + 1, 0, none⟩ = some (.string s1) := (below_cell hb _ _ l153).trans f145
      have f166 : wq2001.cell? ⟨w.heap.size + 1, 1, none⟩ = some (v1) := (below_cell hb _ _ l153).trans f146
      have f167 : wq2001.cell? ⟨w_3.heap.size, 0, none⟩ = some (.slice aX0a mz0.length cX0a) := (below_cell hb _ _ l154).trans f147
      have f168 : wq2001.cell? ⟨w_3.heap.size, 1, none⟩ = some (.slice aX0b mw0.length cX0b) := (below_cell hb _ _ l154).trans f148
      have f169 : wq2001.cell? ⟨w_3.heap.size, 2, none⟩ = some (.slice aX0c mb0.length cX0c) := (below_cell hb _ _ l154).trans f149
      have f170 : wq2001.cell? ⟨w_4.heap.size, 0, none⟩ = some (.string s1) := (below_cell hb _ _ l155).trans f150
      have f171 : wq2001.cell? ⟨w_4.heap.size, 1, none⟩ = some (.slice aX1 len1 cX1) := (below_cell hb _ _ l155).trans f151
      have l172 : w.heap.size < wq2001.heap.size := Nat.lt_of_lt_of_le l152 (hb).size
      have l173 : w.heap.size + 1 < wq2001.heap.size := Nat.lt_of_lt_of_le l153 (hb).size
      have l174 : w_3.heap.size < wq2001.heap.size := Nat.lt_of_lt_of_le l154 (hb).size
      have l175 : w_4.heap.size < wq2001.heap.size := Nat.lt_of_lt_of_le l155 (hb).size
      clear f142 f143 f144 f145 f146 f147 f148 f149 f150 f151 l152 l153 l154 l155
      have HB176 := Lib.hid (below_of HB156.out hb HB156.out.size)
      have HR177 := Lib.hid (iv_kept hb HR157.out)
      clear HR157
      have HR178 := Lib.hid (modOwn_kept hb HR158.out)
      clear HR158
      have HR179 := Lib.hid (rv_kept hb HR159.out)
      clear HR159
      have HR180 := Lib.hid (iv_kept hb HR160.out)
      clear HR160
      clear hb hbd hbr0 hbrf hbq0 hbf ho7 HIv HXr HSK
      go_wp2_with fail
      refine (markMod_any (1) (by omega) _ _ _ mz0 mb0 mw0 _ _ _ HML0.out.1 HML0.out.2.1 HR178.out).mono ?_
      rintro e w_7 ⟨rfl, hv, hgm⟩
      have S181 : wq2001.heap.size ≤ w_7.heap.size := hgm.size
      have f182 : w_7.cell? ⟨w.heap.size, 0, none⟩ = some (x0a) := (mk_cell hgm _ _ l172 (by omega)).trans f162
      have f183 : w_7.cell? ⟨w.heap.size, 1, none⟩ = some (x0b) := (mk_cell hgm _ _ l172 (by omega)).trans f163
      have f184 : w_7.cell? ⟨w.heap.size, 2, none⟩ = some (x0c) := (mk_cell hgm _ _ l172 (by omega)).trans f164
      have f185 : w_7.cell? ⟨w.heap.size + 1, 0, none⟩ = some (.string s1) := (mk_cell hgm _ _ l173 (by omega)).trans f165
      have f186 : w_7.cell? ⟨w.heap.size + 1, 1, none⟩ = some (v1) := (mk_cell hgm _ _ l173 (by omega)).trans f166
      have f187 : w_7.cell? ⟨w_3.heap.size, 0, none⟩ = some (.slice aX0a mz0.length cX0a) := (mk_cell hgm _ _ l174 (by omega)).trans f167
      have f188 : w_7.cell? ⟨w_3.heap.size, 1, none⟩ = some (.slice aX0b mw0.length cX0b) := (mk_cell hgm _ _ l174 (by omega)).trans f168
      have f189 : w_7.cell? ⟨w_3.heap.size, 2, none⟩ = some (.slice aX0c mb0.length cX0c) := (mk_cell hgm _ _ l174 (by omega)).trans f169
      have f190 : w_7.cell? ⟨w_4.heap.size, 0, none⟩ = some (.string s1) := (mk_cell hgm _ _ l175 (by omega)).trans f170
      have f191 : w_7.cell? ⟨w_4.heap.size, 1, none⟩ = some (.slice aX1 len1 cX1) := (mk_cell hgm _ _ l175 (by omega)).trans f171
      have l192 : w.heap.size < w_7.heap.size := Nat.lt_of_lt_of_le l172 hgm.size
      have l193 : w.heap.size + 1 < w_7.heap.size := Nat.lt_of_lt_of_le l173 hgm.size
      have l194 : w_3.heap.size < w_7.heap.size := Nat.lt_of_lt_of_le l174 hgm.size
      have l195 : w_4.heap.size < w_7.heap.size := Nat.lt_of_lt_of_le l175 hgm.size
      clear f162 f163 f164 f165 f166 f167 f168 f169 f170 f171 l172 l173 l174 l175
      have HR196 := Lib.hid (iv_mk hgm HR177.out HWI.out (by omega))
      clear HR177
      have HR197 := Lib.hid (rv_mk hgm HR179.out HX1I.out (by omega))
      clear HR179
      have HR198 := Lib.hid (iv_mk hgm HR180.out HGI.out (by omega))
      clear HR180
      have HR199 := Lib.hid hv
      clear HR178
      have HB200 := Lib.hid (HB176.out.trans (mk_below hgm HB176.out.size (by omega)))
      clear hv hgm
      go_wp2_with fail
      refine (markProfM_any (1 + (mz0.length : Int) + (lenS mw0 mw0.length : Nat) + (mb0.length : Int)) (by omega) s1 _ zs1 _ _ HZL1.out HR197.out).mono ?_
      rintro e w_8 ⟨rfl, hv, hg⟩
      rw [HNA1.out] at hv ⊢
      have hgm := mk_of_grown (l := wb66.heap.size) (u := w_4.heap.size) hg HX1I.out
      have S201 : w_7.heap.size ≤ w_8.heap.size := hgm.size
      have f202 : w_8.cell? ⟨w.heap.size, 0, none⟩ = some (x0a) := (mk_cell hgm _ _ l192 (by omega)).trans f182
      have f203 : w_8.cell? ⟨w.heap.size, 1, none⟩ = some (x0b) := (mk_cell hgm _ _ l192 (by omega)).trans f183
      have f204 : w_8.cell? ⟨w.heap.size, 2, none⟩ = some (x0c) := (mk_cell hgm _ _ l192 (by omega)).trans f184
      have f205 : w_8.cell? ⟨w.heap.size + 1, 0, none⟩ = some (.string s1) := (mk_cell hgm _ _ l193 (by omega)).trans f185
      have f206 : w_8.cell? ⟨w.heap.size + 1, 1, none⟩ = some (v1) := (mk_cell hgm _ _ l193 (by omega)).trans f186
      have f207 : w_8.cell? ⟨w_3.heap.size, 0, none⟩ = some (.slice aX0a mz0.length cX0a) := (mk_cell hgm _ _ l194 (by omega)).trans f187
      have f208 : w_8.cell? ⟨w_3.heap.size, 1, none⟩ = some (.slice aX0b mw0.length cX0b) := (mk_cell hgm _ _ l194 (by omega)).trans f188
      have f209 : w_8.cell? ⟨w_3.heap.size, 2, none⟩ = some (.slice aX0c mb0.length cX0c) := (mk_cell hgm _ _ l194 (by omega)).trans f189
      have f210 : w_8.cell? ⟨w_4.heap.size, 0, none⟩ = some (.string s1) := (mk_cell hgm _ _ l195 (by omega)).trans f190
      have f211 : w_8.cell? ⟨w_4.heap.size, 1, none⟩ = some (.slice aX1 len1 cX1) := (mk_cell hgm _ _ l195 (by omega)).trans f191
      have l212 : w.heap.size < w_8.heap.size := Nat.lt_of_lt_of_le l192 hgm.size
      have l213 : w.heap.size + 1 < w_8.heap.size := Nat.lt_of_lt_of_le l193 hgm.size
      have l214 : w_3.heap.size < w_8.heap.size := Nat.lt_of_lt_of_le l194 hgm.size
      have l215 : w_4.heap.size < w_8.heap.size := Nat.lt_of_lt_of_le l195 hgm.size
      clear f182 f183 f184 f185 f186 f187 f188 f189 f190 f191 l192 l193 l194 l195
      have HR216 := Lib.hid (iv_mk hgm HR196.out HWI.out (by omega))
      clear HR196
      have HR217 := Lib.hid (iv_mk hgm HR198.out HGI.out (by omega))
      clear HR198
      have HR218 := Lib.hid hv
      clear HR197
      have HB219 := Lib.hid (HB200.out.trans (mk_below hgm HB200.out.size (by omega)))
      clear hv hgm hg
      go_wp2_with fail
      refine (eqInts_at L1 _ _ _ (iv_ints HLL.out HR217.out) (iv_ints HLL.out HR216.out)).mono ?_
      rintro e w_9 ⟨rfl, hb⟩
      have S220 : w_8.heap.size ≤ w_9.heap.size := (hb).size
      have f221 : w_9.cell? ⟨w.heap.size, 0, none⟩ = some (x0a) := (below_cell hb _ _ l212).trans f202
      have f222 : w_9.cell? ⟨w.heap.size, 1, none⟩ = some (x0b) := (below_cell hb _ _ l212).trans f203
      have f223 : w_9.cell? ⟨w.heap.size, 2, none⟩ = some (x0c) := (below_cell hb _ _ l212).trans f204
      have f224 : w_9.cell? ⟨w.heap.size + 1, 0, none⟩ = some (.string s1) := (below_cell hb _ _ l213).trans f205
      have f225 : w_9.cell? ⟨w.heap.size + 1, 1, none⟩ = some (v1) := (below_cell hb _ _ l213).trans f206
      have f226 : w_9.cell? ⟨w_3.heap.size, 0, none⟩ = some (.slice aX0a mz0.length cX0a) := (below_cell hb _ _ l214).trans f207
      have f227 : w_9.cell? ⟨w_3.heap.size, 1, none⟩ = some (.slice aX0b mw0.length cX0b) := (below_cell hb _ _ l214).trans f208
      have f228 : w_9.cell? ⟨w_3.heap.size, 2, none⟩ = some (.slice aX0c mb0.length cX0c) := (below_cell hb _ _ l214).trans f209
      have f229 : w_9.cell? ⟨w_4.heap.size, 0, none⟩ = some (.string s1) := (below_cell hb _ _ l215).trans f210
      have f230 : w_9.cell? ⟨w_4.heap.size, 1, none⟩ = some (.slice aX1 len1 cX1) := (below_cell hb _ _ l215).trans f211
      have l231 : w.heap.size < w_9.heap.size := Nat.lt_of_lt_of_le l212 (hb).size
      have l232 : w.heap.size + 1 < w_9.heap.size := Nat.lt_of_lt_of_le l213 (hb).size
      have l233 : w_3.heap.size < w_9.heap.size := Nat.lt_of_lt_of_le l214 (hb).size
      have l234 : w_4.heap.size < w_9.heap.size := Nat.lt_of_lt_of_le l215 (hb).size
      clear f202 f203 f204 f205 f206 f207 f208 f209 f210 f211 l212 l213 l214 l215
      have HB235 := Lib.hid (below_of HB219.out hb HB219.out.size)
      have HR236 := Lib.hid (iv_kept hb HR216.out)
      clear HR216
      have HR237 := Lib.hid (iv_kept hb HR217.out)
      clear HR217
      clear hb 
      go_wp2_with fail
      refine (markIv_any 1 (by omega) _ L1 _ _ HLL.out HR237.out).mono ?_
      rintro e w_10 ⟨rfl, hv, hg⟩
      rw [HN1.out] at hv ⊢
      have hgm := mk_of_grown (l := wb101.heap.size) (u := w_5.heap.size) hg HGI.out
      have S238 : w_9.heap.size ≤ w_10.heap.size := hgm.size
      have f239 : w_10.cell? ⟨w.heap.size, 0, none⟩ = some (x0a) := (mk_cell hgm _ _ l231 (by omega)).trans f221
      have f240 : w_10.cell? ⟨w.heap.size, 1, none⟩ = some (x0b) := (mk_cell hgm _ _ l231 (by omega)).trans f222
      have f241 : w_10.cell? ⟨w.heap.size, 2, none⟩ = some (x0c) := (mk_cell hgm _ _ l231 (by omega)).trans f223
      have f242 : w_10.cell? ⟨w.heap.size + 1, 0, none⟩ = some (.string s1) := (mk_cell hgm _ _ l232 (by omega)).trans f224
      have f243 : w_10.cell? ⟨w.heap.size + 1, 1, none⟩ = some (v1) := (mk_cell hgm _ _ l232 (by omega)).trans f225
      have f244 : w_10.cell? ⟨w_3.heap.size, 0, none⟩ = some (.slice aX0a mz0.length cX0a) := (mk_cell hgm _ _ l233 (by omega)).trans f226
      have f245 : w_10.cell? ⟨w_3.heap.size, 1, none⟩ = some (.slice aX0b mw0.length cX0b) := (mk_cell hgm _ _ l233 (by omega)).trans f227
      have f246 : w_10.cell? ⟨w_3.heap.size, 2, none⟩ = some (.slice aX0c mb0.length cX0c) := (mk_cell hgm _ _ l233 (by omega)).trans f228
      have f247 : w_10.cell? ⟨w_4.heap.size, 0, none⟩ = some (.string s1) := (mk_cell hgm _ _ l234 (by omega)).trans f229
      have f248 : w_10.cell? ⟨w_4.heap.size, 1, none⟩ = some (.slice aX1 len1 cX1) := (mk_cell hgm _ _ l234 (by omega)).trans f230
      have l249 : w.heap.size < w_10.heap.size := Nat.lt_of_lt_of_le l231 hgm.size
      have l250 : w.heap.size + 1 < w_10.heap.size := Nat.lt_of_lt_of_le l232 hgm.size
      have l251 : w_3.heap.size < w_10.heap.size := Nat.lt_of_lt_of_le l233 hgm.size
      have l252 : w_4.heap.size < w_10.heap.size := Nat.lt_of_lt_of_le l234 hgm.size
      clear f221 f222 f223 f224 f225 f226 f227 f228 f229 f230 l231 l232 l233 l234
      have HR253 := Lib.hid (iv_mk hgm HR236.out HWI.out (by omega))
      clear HR236
      have HR254 := Lib.hid hv
      clear HR237
      have HB255 := Lib.hid (HB235.out.trans (mk_below hgm HB235.out.size (by omega)))
      clear hv hgm hg
      go_wp2_with fail
      refine (heldIv_any 1 (by omega) _ n1 _ _ hll HR254.out).mono ?_
      rintro e w_10 ⟨rfl, rfl⟩
      go_wp2_with fail
      have hbd : Below w_10.heap.size w_10 w_10.drew := ⟨rfl, rfl, rfl, Nat.le_refl _, fun _ _ => rfl⟩
      have HI0 := Lib.hid (modAt_kept HB255.out HZ0.out)
      have HI1 := Lib.hid (rings_kept HB255.out HZ1.out)
      have HSK := Lib.hid (fun W (hW : Below w_10.heap.size w_10 W) => show W.cell? ⟨w.heap.size, 0, none⟩ = some (x0a) ∧ W.cell? ⟨w.heap.size, 1, none⟩ = some (x0b) ∧ W.cell? ⟨w.heap.size, 2, none⟩ = some (x0c) ∧ W.cell? ⟨w.heap.size + 1, 0, none⟩ = some (.string s1) ∧ W.cell? ⟨w.heap.size + 1, 1, none⟩ = some (v1) ∧ Below w_10.heap.size w_10 W from ⟨(below_cell hW _ _ l249).trans f239, (below_cell hW _ _ l249).trans f240, (below_cell hW _ _ l249).trans f241, (below_cell hW _ _ l250).trans f242, (below_cell hW _ _ l250).trans f243, hW⟩)
      go_region_held3 (fun W => W.cell? ⟨w.heap.size, 0, none⟩ = some (x0a) ∧ W.cell? ⟨w.heap.size, 1, none⟩ = some (x0b) ∧ W.cell? ⟨w.heap.size, 2, none⟩ = some (x0c) ∧ W.cell? ⟨w.heap.size + 1, 0, none⟩ = some (.string s1) ∧ W.cell? ⟨w.heap.size + 1, 1, none⟩ = some (v1) ∧ Below w_10.heap.size w_10 W)
        (first | exact HSK.out _ hbd | exact HSK.out _ hbr0 | exact HSK.out _ hbr1 | exact HSK.out _ hbrf | assumption)
        (first
          | (go_at_call_of 21 (Value.agg #[x0a, x0b, x0c]); refine (toModX_any x0a x0b x0c mz0 mw0 mb0 _ (modAt_kept hbd HI0.out).1 (modAt_kept hbd HI0.out).2.1 (modAt_kept hbd HI0.out).2.2).mono ?_; rintro e wR256_0 ⟨vx0a, vx0b, vx0c, rfl, ho0, hbq0⟩; have hbr0 := below_of hbd hbq0 hbd.size)
          | (go_at_call_of 22 (Value.agg #[.string s1, v1]); refine (toProf_any s1 v1 zs1 _ (rings_kept hbr0 HI1.out)).mono ?_; rintro e wR256_1 ⟨vx1, rfl, ho1, hbq1⟩; have hbr1 := below_of hbr0 hbq1 hbr0.size)
          | (go_at_call 31; refine (HIM.out vx0a vx0b vx0c vx1 _ (modAt_kept hbq1 (modOwn_parts HML0.out.2.2.1 HML0.out.2.1 (lenS_row HML0.out.2.2.2.2) HML0.out.2.2.2.1 ho0)) (rvW HZL1.out (rv_of_ownAt ho1))).mono ?_; rintro e wR256_f ⟨vh, rfl, hv, hbf⟩; have hbrf := below_of hbr1 hbf hbr1.size))
      have hb := hbrf
      have S257 : w_10.heap.size ≤ wR256_0.heap.size := hbq0.size
      have S258 : wR256_0.heap.size ≤ wR256_1.heap.size := hbq1.size
      have S259 : wR256_1.heap.size ≤ wR256_f.heap.size := hbf.size
      obtain ⟨aH, cH, rfl⟩ := iv_form hv
      rw [HN1.out] at hv ⊢
      have HHI := Lib.hid (iv_in hv)
      have HHR := Lib.hid hv
      clear hv
      have S260 : w_10.heap.size ≤ wR256_f.heap.size := (hb).size
      have f261 : wR256_f.cell? ⟨w.heap.size, 0, none⟩ = some (x0a) := (below_cell hb _ _ l249).trans f239
      have f262 : wR256_f.cell? ⟨w.heap.size, 1, none⟩ = some (x0b) := (below_cell hb _ _ l249).trans f240
      have f263 : wR256_f.cell? ⟨w.heap.size, 2, none⟩ = some (x0c) := (below_cell hb _ _ l249).trans f241
      have f264 : wR256_f.cell? ⟨w.heap.size + 1, 0, none⟩ = some (.string s1) := (below_cell hb _ _ l250).trans f242
      have f265 : wR256_f.cell? ⟨w.heap.size + 1, 1, none⟩ = some (v1) := (below_cell hb _ _ l250).trans f243
      have f266 : wR256_f.cell? ⟨w_3.heap.size, 0, none⟩ = some (.slice aX0a mz0.length cX0a) := (below_cell hb _ _ l251).trans f244
      have f267 : wR256_f.cell? ⟨w_3.heap.size, 1, none⟩ = some (.slice aX0b mw0.length cX0b) := (below_cell hb _ _ l251).trans f245
      have f268 : wR256_f.cell? ⟨w_3.heap.size, 2, none⟩ = some (.slice aX0c mb0.length cX0c) := (below_cell hb _ _ l251).trans f246
      have f269 : wR256_f.cell? ⟨w_4.heap.size, 0, none⟩ = some (.string s1) := (below_cell hb _ _ l252).trans f247
      have f270 : wR256_f.cell? ⟨w_4.heap.size, 1, none⟩ = some (.slice aX1 len1 cX1) := (below_cell hb _ _ l252).trans f248
      have l271 : w.heap.size < wR256_f.heap.size := Nat.lt_of_lt_of_le l249 (hb).size
      have l272 : w.heap.size + 1 < wR256_f.heap.size := Nat.lt_of_lt_of_le l250 (hb).size
      have l273 : w_3.heap.size < wR256_f.heap.size := Nat.lt_of_lt_of_le l251 (hb).size
      have l274 : w_4.heap.size < wR256_f.heap.size := Nat.lt_of_lt_of_le l252 (hb).size
      clear f239 f240 f241 f242 f243 f244 f245 f246 f247 f248 l249 l250 l251 l252
      have HB275 := Lib.hid (below_of HB255.out hb HB255.out.size)
      have HR276 := Lib.hid (iv_kept hb HR253.out)
      clear HR253
      have HR277 := Lib.hid (iv_kept hb HR254.out)
      clear HR254
      clear hb hbd hbrf hbf HSK hbq0 hbr0 hbq1 hbr1 ho0 HI0 ho1 HI1
      go_wp2_with fail
      refine (eqInts_at L1 _ _ _ (iv_ints HLL.out HHR.out) (iv_ints HLL.out HR276.out)).mono ?_
      rintro e w_11 ⟨rfl, hb⟩
      have S278 : wR256_f.heap.size ≤ w_11.heap.size := (hb).size
      have f279 : w_11.cell? ⟨w.heap.size, 0, none⟩ = some (x0a) := (below_cell hb _ _ l271).trans f261
      have f280 : w_11.cell? ⟨w.heap.size, 1, none⟩ = some (x0b) := (below_cell hb _ _ l271).trans f262
      have f281 : w_11.cell? ⟨w.heap.size, 2, none⟩ = some (x0c) := (below_cell hb _ _ l271).trans f263
      have f282 : w_11.cell? ⟨w.heap.size + 1, 0, none⟩ = some (.string s1) := (below_cell hb _ _ l272).trans f264
      have f283 : w_11.cell? ⟨w.heap.size + 1, 1, none⟩ = some (v1) := (below_cell hb _ _ l272).trans f265
      have f284 : w_11.cell? ⟨w_3.heap.size, 0, none⟩ = some (.slice aX0a mz0.length cX0a) := (below_cell hb _ _ l273).trans f266
      have f285 : w_11.cell? ⟨w_3.heap.size, 1, none⟩ = some (.slice aX0b mw0.length cX0b) := (below_cell hb _ _ l273).trans f267
      have f286 : w_11.cell? ⟨w_3.heap.size, 2, none⟩ = some (.slice aX0c mb0.length cX0c) := (below_cell hb _ _ l273).trans f268
      have f287 : w_11.cell? ⟨w_4.heap.size, 0, none⟩ = some (.string s1) := (below_cell hb _ _ l274).trans f269
      have f288 : w_11.cell? ⟨w_4.heap.size, 1, none⟩ = some (.slice aX1 len1 cX1) := (below_cell hb _ _ l274).trans f270
      have l289 : w.heap.size < w_11.heap.size := Nat.lt_of_lt_of_le l271 (hb).size
      have l290 : w.heap.size + 1 < w_11.heap.size := Nat.lt_of_lt_of_le l272 (hb).size
      have l291 : w_3.heap.size < w_11.heap.size := Nat.lt_of_lt_of_le l273 (hb).size
      have l292 : w_4.heap.size < w_11.heap.size := Nat.lt_of_lt_of_le l274 (hb).size
      clear f261 f262 f263 f264 f265 f266 f267 f268 f269 f270 l271 l272 l273 l274
      have HB293 := Lib.hid (below_of HB275.out hb HB275.out.size)
      have HR294 := Lib.hid (iv_kept hb HR276.out)
      clear HR276
      have HR295 := Lib.hid (iv_kept hb HR277.out)
      clear HR277
      have HR296 := Lib.hid (iv_kept hb HHR.out)
      clear HHR
      clear hb 
      go_wp2_with fail
      refine (heldIv_any 1 (by omega) _ n1 _ _ hll HR295.out).mono ?_
      rintro e w_11 ⟨rfl, rfl⟩
      go_wp2
      go_ret
      exact ⟨rfl, HB293.out⟩
    · have HL1 := Lib.hid (show leftP s1.size len1 (1048576 - (T1 : Int)) = -1 by exact leftP_no (by omega))
      clear hI1
      go_enter Try.func6, Try.ntmps6
      have f297 : ((w.alloc (.cells #[x0a, x0b, x0c] 34)).alloc (.cells #[.string s1, v1] 37)).cell? ⟨w.heap.size + 1, 0, none⟩ = some (.string s1) := by go_simp
      have f298 : ((w.alloc (.cells #[x0a, x0b, x0c] 34)).alloc (.cells #[.string s1, v1] 37)).cell? ⟨w.heap.size + 1, 1, none⟩ = some (v1) := by go_simp
      have l299 : w.heap.size + 1 < ((w.alloc (.cells #[x0a, x0b, x0c] 34)).alloc (.cells #[.string s1, v1] 37)).heap.size := by simp <;> omega
      have HB300 := Lib.hid (((below_al w (.cells #[x0a, x0b, x0c] 34)).alloc (by simp <;> omega) (.cells #[.string s1, v1] 37)))
      go_wp2_with fail
      generalize ((w.alloc (.cells #[x0a, x0b, x0c] 34)).alloc (.cells #[.string s1, v1] 37)) = wb at *
      refine (szModX_any x0a x0b x0c N0 (1048576) _ (szM_kept HB300.out HSZ0.out) (by omega) (by omega)).mono ?_
      rintro e w_12 ⟨rfl, hb⟩
      rw [HL0.out]
      have S301 : wb.heap.size ≤ w_12.heap.size := (hb).size
      have f302 : w_12.cell? ⟨w.heap.size + 1, 0, none⟩ = some (.string s1) := (below_cell hb _ _ l299).trans f297
      have f303 : w_12.cell? ⟨w.heap.size + 1, 1, none⟩ = some (v1) := (below_cell hb _ _ l299).trans f298
      have l304 : w.heap.size + 1 < w_12.heap.size := Nat.lt_of_lt_of_le l299 (hb).size
      clear f297 f298 l299
      have HB305 := Lib.hid (below_of HB300.out hb HB300.out.size)
      clear hb 
      go_wp2_with fail
      refine (szProf_v s1 v1 len1 (1048576 - (T1 : Int)) _ HV1 hs1 hlen1 (by omega) (by omega)).mono ?_
      rintro e w_13 ⟨rfl, hb⟩
      rw [HL1.out]
      have S306 : w_12.heap.size ≤ w_13.heap.size := (hb).size
      have f307 : w_13.cell? ⟨w.heap.size + 1, 0, none⟩ = some (.string s1) := (below_cell hb _ _ l304).trans f302
      have f308 : w_13.cell? ⟨w.heap.size + 1, 1, none⟩ = some (v1) := (below_cell hb _ _ l304).trans f303
      have l309 : w.heap.size + 1 < w_13.heap.size := Nat.lt_of_lt_of_le l304 (hb).size
      clear f302 f303 l304
      have HB310 := Lib.hid (below_of HB305.out hb HB305.out.size)
      clear hb 
      go_wp2
      go_ret
      exact ⟨rfl, HB310.out⟩
  · have HL0 := Lib.hid (show leftN N0 (1048576) = -1 by exact leftN_no (by omega))
    clear hmk0 hI1
    go_enter Try.func6, Try.ntmps6
    have HB311 := Lib.hid (((below_al w (.cells #[x0a, x0b, x0c] 34)).alloc (by simp <;> omega) (.cells #[.string s1, v1] 37)))
    go_wp2_with fail
    generalize ((w.alloc (.cells #[x0a, x0b, x0c] 34)).alloc (.cells #[.string s1, v1] 37)) = wb at *
    refine (szModX_any x0a x0b x0c N0 (1048576) _ (szM_kept HB311.out HSZ0.out) (by omega) (by omega)).mono ?_
    rintro e w_14 ⟨rfl, hb⟩
    rw [HL0.out]
    have S312 : wb.heap.size ≤ w_14.heap.size := (hb).size
    have HB313 := Lib.hid (below_of HB311.out hb HB311.out.size)
    clear hb 
    go_wp2
    go_ret
    exact ⟨rfl, HB313.out⟩

set_option maxRecDepth 100000 in
theorem contract (H : Type) (enc : TypeId × Value → H) (W : World) (base : Nat) (args : Array Value) (ds gs : List (DataW H)) (before : List MemPlace)
    (hval : ∀ (j : Nat) t v, Try.f6.params[j]? = some t → args[j]? = some v → Value.okWide Try.prog W .any base t v)
    (hW : DataW.Whole enc Try.prog Try.f6.params.toList Rows.fnExactSensitivitySpec.vars false W args.toList ds gs before) :
    Calls Try.prog 6 args W fun e W' => ∃ v, e = .returned v ∧ Rows.fnExactSensitivitySpec.post enc Try.prog Try.f6 false true false false W args v W' := by
  have hW' := hW
  obtain ⟨p, q, hA0, hV, rfl, hfz, hnd⟩ := hW
  have hA : DataW.TrodAll enc Try.prog W 0 (fun _ => true) true Try.f6.params.toList args.toList ds p := hA0
  rw [Try.params6] at hA hval
  obtain ⟨v0, vs0, d0, ds0, p0, q0, hargs, rfl, rfl, h0, r0⟩ := trodAll_cons hA
  obtain ⟨v1, vs1, d1, ds1, p1, q1, hargs1, rfl, rfl, h1, r1⟩ := trodAll_cons r0
  subst hargs1
  obtain ⟨v2, vs2, d2, ds2, p2, q2, hargs2, rfl, rfl, h2, r2⟩ := trodAll_cons r1
  subst hargs2
  obtain ⟨rfl, rfl, rfl⟩ := trodAll_nil r2
  obtain rfl : args = #[v0, v1, v2] := by cases args; simp_all
  obtain ⟨rfl, rfl⟩ := trodVars_none hV
  simp only [List.append_nil] at hW'
  have hlt0 : ∀ x ∈ p0, x.block < W.heap.size := fun x hx => hW'.lt x (by simp [hx])
  have kept0 := fun (W2 : World) (hb : Below W.heap.size W W2) => Below.trod laidOut (by kernel_rfl) (of_decide_eq_true (by kernel_rfl)) h0 hb hlt0
  have hI0 := modelx_arg (hval 0 34 v0 rfl rfl) h0 hlt0
  have hlt1 : ∀ x ∈ p1, x.block < W.heap.size := fun x hx => hW'.lt x (by simp [hx])
  have kept1 := fun (W2 : World) (hb : Below W.heap.size W W2) => Below.trod laidOut (by kernel_rfl) (of_decide_eq_true (by kernel_rfl)) h1 hb hlt1
  obtain ⟨s1, a1, len1, cap1, rfl, w1, hI1⟩ := prof_arg (hval 1 37 v1 rfl rfl) h1 hlt1
  have hlt2 : ∀ x ∈ p2, x.block < W.heap.size := fun x hx => hW'.lt x (by simp [hx])
  have kept2 := fun (W2 : World) (hb : Below W.heap.size W W2) => Below.trod laidOut (by kernel_rfl) (of_decide_eq_true (by kernel_rfl)) h2 hb hlt2
  obtain ⟨a2, rfl, -, -, w2⟩ := open_int Try.underlying2 (hval 2 2 v2 rfl rfl) h2
  clear hA0
  refine (walk v0 s1 a1 len1 cap1 a2 w1 w2 W hI0 hI1).mono fun e W' ⟨he, hg⟩ => ?_
  subst he
  refine ⟨_, rfl, post_at (pa := p0 ++ (p1 ++ p2)) (pv := []) hW' (by simp) hg (fun _ _ => (trodAll_cons_mk (shut_bool Try.underlying4 _) trodAll_mk0)) ?_ rfl⟩
  have hk := (trodAll_cons_mk (kept0 W' hg) (trodAll_cons_mk (kept1 W' hg) (trodAll_cons_mk (kept2 W' hg) trodAll_mk0)))
  simp only [List.append_nil] at hk
  exact hk

set_option maxRecDepth 100000 in
theorem lifted (os : Os) (started : os.Started) (H : Type) (enc : TypeId × Value → H) :
    ReturnsInHanded {} Try.checked os 6 .any (Rows.fnExactSensitivitySpec.pre6 enc Try.prog Try.f6 Rows.fnExactSensitivityRow.domain false) (Rows.fnExactSensitivitySpec.post enc Try.prog Try.f6 false true false false) := by
  refine returnsInHanded_of_change (C := Try.checked) own started (by kernel_rfl) Try.func6
    (ChangeSpec.witness6 (enc := enc) (C := Try.checked) false ⟨#[], #[.agg #[.slice none 0 0, .slice none 0 0, .slice none 0 0], .agg #[.string ⟨#[]⟩, .slice none 0 0], .int .i64 0], []⟩ 8 (by kernel_rfl) (by kernel_rfl) (by kernel_rfl) (by kernel_rfl)) ?_
  intro W base args ds gs before hval0 hW hcnd _
  have hval : ∀ (j : Nat) t v, Try.f6.params[j]? = some t → args[j]? = some v → Value.okWide Try.prog W .any base t v := hval0
  exact contract H enc W base args ds gs before hval hW

theorem over : Rows.fnExactSensitivityRow.holds Try.pinned (OpenSpec.ofChange Rows.fnExactSensitivitySpec) :=
  OpenClaim.holds_of_wide 6 Try.f6 rfl rfl rfl rfl rfl rfl rfl ⟨rfl, rfl, rfl, rfl, rfl⟩ rfl rfl rfl rfl rfl (by kernel_rfl) Try.func6 (by kernel_rfl)
    (of_decide_eq_true (by kernel_rfl)) (by unfold Func.isWrapper; first | (rw [if_pos (by decide +kernel)]; kernel_rfl) | (rw [if_neg (by decide +kernel)]; exact ⟨rfl, rfl⟩))
    (fun os started H enc _ => lifted os started H enc)
end Go.Proofs.Ytpllmehcndinkaa.fnExactSensitivity

namespace Go.Proofs.Ytpllmehcndinkaa
/-- The given statement. -/
theorem fnExactSensitivity_holds : Rows.FnExactSensitivitySaid := fnExactSensitivity.over
#print axioms fnExactSensitivity_holds
end Go.Proofs.Ytpllmehcndinkaa
