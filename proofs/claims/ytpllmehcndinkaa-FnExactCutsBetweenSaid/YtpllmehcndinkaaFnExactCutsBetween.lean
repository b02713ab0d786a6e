/- At every two drawn profiles and zones, CutsBetween answers as the reference model does, every cut and the code; its arguments stay as they were; its answer owns its memory. -/
import Derived.Test.YtpllmehcndinkaaRows
import Derived.Test.YtpllmehcndinkaaG1
import Derived.Test.YtpllmehcndinkaaG2
import Derived.Test.YtpllmehcndinkaaBtwS
import Derived.Test.YtpllmehcndinkaaBtwC
import Derived.Test.YtpllmehcndinkaaG3
import Derived.Test.YtpllmehcndinkaaRingRes
import Derived.Deep.RegionHeld3
namespace Go.Proofs.Ytpllmehcndinkaa.fnExactCutsBetween
open Go.ChangeShapes Go.WideShapes Go.ChangeAt Go.RowKit
open Go.ChangeMaps (open_string shut_string)
set_option linter.unusedVariables false

theorem own : ownKnob Try.prog.godebug = none := by kernel_rfl

set_option maxRecDepth 100000 in
set_option maxHeartbeats 4000000 in
theorem walk (s0 : ByteArray) (p0 : Option Addr) (len0 cap0 : Nat) (s1 : ByteArray) (p1 : Option Addr) (len1 cap1 : Nat) (p2 : Option Addr) (len2 cap2 : Nat) (w0 : s0.size ≤ 9223372036854775807 ∧ len0 ≤ 9223372036854775807) (w1 : s1.size ≤ 9223372036854775807 ∧ len1 ≤ 9223372036854775807) (w2 : len2 ≤ 9223372036854775807) (w : World) (hI0 : len0 ≤ 1048576 → ∃ zs : List Rg, zs.length = len0 ∧ RingsAt w (.slice p0 len0 cap0) zs) (hI1 : len1 ≤ 1048576 → ∃ zs : List Rg, zs.length = len1 ∧ RingsAt w (.slice p1 len1 cap1) zs) (hI2 : len2 ≤ 1048576 → ∃ zs : List Int, zs.length = len2 ∧ IntsAt w (.slice p2 len2 cap2) zs ∧ ∀ z ∈ zs, (Lit.int .i64 z).wf = true) :
    Calls Try.prog 9 #[.agg #[.string s0, .slice p0 len0 cap0], .agg #[.string s1, .slice p1 len1 cap1], .slice p2 len2 cap2] w fun e w' => e = .returned (.bool true) ∧ Below w.heap.size w w' := by
  obtain ⟨hs0, hlen0⟩ := w0
  obtain ⟨hs1, hlen1⟩ := w1
  have hlen2 := w2
  clear w2
  by_cases hbz2 : 1048576 < len2
  · clear hI0 hI1 hI2
    go_enter Try.func9, Try.ntmps9
    go_wp2
    go_ret
    exact ⟨rfl, (below_al _ _).alloc (by simp <;> omega) _⟩
  obtain ⟨z2, hzn2, hzi2, -⟩ := hI2 (by omega)
  have HZN2 := Lib.hid hzn2
  have HY2 := Lib.hid hzi2
  have HYL2 := Lib.hid (show z2.length ≤ 1048576 by omega)
  clear hzn2 hzi2 hI2
  have HV0 := Lib.hid (show ∃ a' c', Value.slice p0 len0 cap0 = .slice a' len0 c' from ⟨_, _, rfl⟩)
  generalize Value.slice p0 len0 cap0 = v0 at *
  have HV1 := Lib.hid (show ∃ a' c', Value.slice p1 len1 cap1 = .slice a' len1 c' from ⟨_, _, rfl⟩)
  generalize Value.slice p1 len1 cap1 = v1 at *
  by_cases hbig0 : (s0.size + len0) ≤ 1048576
  · obtain ⟨T1, hT1⟩ : ∃ T, (s0.size + len0) = T := ⟨_, rfl⟩
    have HL0 := Lib.hid (show leftP s0.size len0 (1048576) = 1048576 - (T1 : Int) by rw [leftP_yes (by omega)]; omega)
    have hTb1 : T1 ≤ 1048576 := by omega
    obtain ⟨zs0, hz0, hzs0⟩ := hI0 (by omega)
    have HZ0 := Lib.hid hzs0
    have HNA0 := Lib.hid hz0
    have HZL0 := Lib.hid (show zs0.length ≤ 1048576 by omega)
    clear hzs0 hz0 hI0
    have hTl0 : len0 ≤ 1048576 := by omega
    by_cases hbig1 : T1 + (s1.size + len1) ≤ 1048576
    · obtain ⟨T2, hT2⟩ : ∃ T, T1 + (s1.size + len1) = T := ⟨_, rfl⟩
      have HL1 := Lib.hid (show leftP s1.size len1 (1048576 - (T1 : Int)) = 1048576 - (T2 : Int) by rw [leftP_yes (by omega)]; omega)
      have hTb2 : T2 ≤ 1048576 := by omega
      obtain ⟨zs1, hz1, hzs1⟩ := hI1 (by omega)
      have HZ1 := Lib.hid hzs1
      have HNA1 := Lib.hid hz1
      have HZL1 := Lib.hid (show zs1.length ≤ 1048576 by omega)
      clear hzs1 hz1 hI1
      have hTl1 : len1 ≤ 1048576 := by omega
      clear hT1 hbig0 hT2 hbig1
      obtain ⟨L1, c1, hl1, hsp, him⟩ : ∃ (L1 : List Ct) (c1 : Int), L1.length ≤ 64 ∧ (∀ v0 v1 u2 w, RingsW w v0 zs0 → RingsW w v1 zs1 → IntsAt w u2 z2 → Calls Try.prog 42 #[.agg #[.string s0, v0], .agg #[.string s1, v1], u2] w (CU L1 c1 w)) ∧ (∀ v0 v1 u2 w, RingsW w v0 zs0 → RingsW w v1 zs1 → IntsAt w u2 z2 → Calls Try.prog 43 #[.agg #[.string s0, v0], .agg #[.string s1, v1], u2] w (CU L1 c1 w)) :=
        ⟨cbL s0 zs0 s1 zs1 z2, cbC s0 zs0 s1 zs1 z2, (cb_len (s := s0) (s2 := s1) (rs := zs0) (rb := zs1) (zs := z2)), fun v0 v1 u2 w h h1 h2 => specCB_any s0 s1 v0 v1 u2 zs0 zs1 z2 w h h1 hs0 hs1 h2, fun v0 v1 u2 w h h1 h2 => implCB_any s0 s1 v0 v1 u2 zs0 zs1 z2 w h h1 hs0 hs1 h2⟩
      have HSP := Lib.hid hsp
      have HIM := Lib.hid him
      clear hsp him
      obtain ⟨n1, hn1⟩ : ∃ n1, L1.length = n1 := ⟨_, rfl⟩
      have HN1 := Lib.hid hn1
      have HLL := Lib.hid (show L1.length ≤ 1048576 by omega)
      rw [hn1] at hl1
      have hll : n1 ≤ 1048576 := by omega
      clear hn1
      have hcc : (c1 != c1) = false := by simp
      have hq3 : ((1 + 2 * (n1 : Int)) != (1 + 2 * (n1 : Int))) = false := by simp
      have hpos : ¬ (1 + 2 * (n1 : Int)) < 0 := by omega
      have hpos2 : ¬ (1 + 3 * (len0 : Int) + 3 * (len1 : Int) + (len2 : Int)) < 0 := by omega
      go_enter Try.func9, Try.ntmps9
      have f1 : ((w.alloc (.cells #[.string s0, v0] 37)).alloc (.cells #[.string s1, v1] 37)).cell? ⟨w.heap.size, 0, none⟩ = some (.string s0) := by go_simp
      have f2 : ((w.alloc (.cells #[.string s0, v0] 37)).alloc (.cells #[.string s1, v1] 37)).cell? ⟨w.heap.size, 1, none⟩ = some (v0) := by go_simp
      have l3 : w.heap.size < ((w.alloc (.cells #[.string s0, v0] 37)).alloc (.cells #[.string s1, v1] 37)).heap.size := by simp <;> omega
      have f4 : ((w.alloc (.cells #[.string s0, v0] 37)).alloc (.cells #[.string s1, v1] 37)).cell? ⟨w.heap.size + 1, 0, none⟩ = some (.string s1) := by go_simp
      have f5 : ((w.alloc (.cells #[.string s0, v0] 37)).alloc (.cells #[.string s1, v1] 37)).cell? ⟨w.heap.size + 1, 1, none⟩ = some (v1) := by go_simp
      have l6 : w.heap.size + 1 < ((w.alloc (.cells #[.string s0, v0] 37)).alloc (.cells #[.string s1, v1] 37)).heap.size := by simp <;> omega
      have HB7 := Lib.hid (((below_al w (.cells #[.string s0, v0] 37)).alloc (by simp <;> omega) (.cells #[.string s1, v1] 37)))
      go_wp2_with fail
      generalize ((w.alloc (.cells #[.string s0, v0] 37)).alloc (.cells #[.string s1, v1] 37)) = wb at *
      refine (szProf_v s0 v0 len0 (1048576) _ HV0 hs0 hlen0 (by omega) (by omega)).mono ?_
      rintro e w_1 ⟨rfl, hb⟩
      rw [HL0.out]
      have f8 : w_1.cell? ⟨w.heap.size, 0, none⟩ = some (.string s0) := (below_cell hb _ _ l3).trans f1
      have f9 : w_1.cell? ⟨w.heap.size, 1, none⟩ = some (v0) := (below_cell hb _ _ l3).trans f2
      have f10 : w_1.cell? ⟨w.heap.size + 1, 0, none⟩ = some (.string s1) := (below_cell hb _ _ l6).trans f4
      have f11 : w_1.cell? ⟨w.heap.size + 1, 1, none⟩ = some (v1) := (below_cell hb _ _ l6).trans f5
      have l12 : w.heap.size < w_1.heap.size := Nat.lt_of_lt_of_le l3 (hb).size
      have l13 : w.heap.size + 1 < w_1.heap.size := Nat.lt_of_lt_of_le l6 (hb).size
      clear f1 f2 f4 f5 l3 l6
      have HB14 := Lib.hid (below_of HB7.out hb HB7.out.size)
      clear hb 
      go_wp2_with fail
      refine (szProf_v s1 v1 len1 (1048576 - (T1 : Int)) _ HV1 hs1 hlen1 (by omega) (by omega)).mono ?_
      rintro e w_2 ⟨rfl, hb⟩
      rw [HL1.out]
      have f15 : w_2.cell? ⟨w.heap.size, 0, none⟩ = some (.string s0) := (below_cell hb _ _ l12).trans f8
      have f16 : w_2.cell? ⟨w.heap.size, 1, none⟩ = some (v0) := (below_cell hb _ _ l12).trans f9
      have f17 : w_2.cell? ⟨w.heap.size + 1, 0, none⟩ = some (.string s1) := (below_cell hb _ _ l13).trans f10
      have f18 : w_2.cell? ⟨w.heap.size + 1, 1, none⟩ = some (v1) := (below_cell hb _ _ l13).trans f11
      have l19 : w.heap.size < w_2.heap.size := Nat.lt_of_lt_of_le l12 (hb).size
      have l20 : w.heap.size + 1 < w_2.heap.size := Nat.lt_of_lt_of_le l13 (hb).size
      clear f8 f9 f10 f11 l12 l13
      have HB21 := Lib.hid (below_of HB14.out hb HB14.out.size)
      clear hb 
      go_wp2_with fail
      have hbd : Below w_2.heap.size w_2 w_2.drew := ⟨rfl, rfl, rfl, Nat.le_refl _, fun _ _ => rfl⟩
      have HI0 := Lib.hid (rings_kept HB21.out HZ0.out)
      have HI1 := Lib.hid (rings_kept HB21.out HZ1.out)
      have HI2 := Lib.hid (ints_kept HB21.out HY2.out)
      have HSK := Lib.hid (fun W (hW : Below w_2.heap.size w_2 W) => show W.cell? ⟨w.heap.size, 0, none⟩ = some (.string s0) ∧ W.cell? ⟨w.heap.size, 1, none⟩ = some (v0) ∧ W.cell? ⟨w.heap.size + 1, 0, none⟩ = some (.string s1) ∧ W.cell? ⟨w.heap.size + 1, 1, none⟩ = some (v1) ∧ Below w_2.heap.size w_2 W from ⟨(below_cell hW _ _ l19).trans f15, (below_cell hW _ _ l19).trans f16, (below_cell hW _ _ l20).trans f17, (below_cell hW _ _ l20).trans f18, hW⟩)
      go_region_held3 (fun W => W.cell? ⟨w.heap.size, 0, none⟩ = some (.string s0) ∧ W.cell? ⟨w.heap.size, 1, none⟩ = some (v0) ∧ W.cell? ⟨w.heap.size + 1, 0, none⟩ = some (.string s1) ∧ W.cell? ⟨w.heap.size + 1, 1, none⟩ = some (v1) ∧ Below w_2.heap.size w_2 W)
        (first | exact HSK.out _ hbd | exact HSK.out _ hbr0 | exact HSK.out _ hbr1 | exact HSK.out _ hbr2 | exact HSK.out _ hbrf | assumption)
        (first
          | (go_at_call_of 22 (Value.agg #[.string s0, v0]); refine (toProf_any s0 v0 zs0 _ (rings_kept hbd HI0.out)).mono ?_; rintro e wr0 ⟨vx0, rfl, ho0, hbq0⟩; have hbr0 := below_of hbd hbq0 hbd.size)
          | (go_at_call_of 22 (Value.agg #[.string s1, v1]); refine (toProf_any s1 v1 zs1 _ (rings_kept hbr0 HI1.out)).mono ?_; rintro e wr1 ⟨vx1, rfl, ho1, hbq1⟩; have hbr1 := below_of hbr0 hbq1 hbr0.size)
          | (go_at_call 11; refine (toInts_any z2 _ _ (ints_kept hbr1 HI2.out)).mono ?_; rintro e wr2 ⟨vx2, rfl, ho2, hbq2⟩; have hbr2 := below_of hbr1 hbq2 hbr1.size)
          | (go_at_call 42; refine (HSP.out vx0 vx1 vx2 _ (ringsW_kept hbq2 (ringsW_kept hbq1 (rvW HZL0.out (rv_of_ownAt ho0)))) (ringsW_kept hbq2 (rvW HZL1.out (rv_of_ownAt ho1))) (own_ints HYL2.out ho2)).mono ?_; rintro e wrf ⟨vw, rfl, hv, hbf⟩; have hbrf := below_of hbr2 hbf hbr2.size))
      have hb := hbrf
      have OZ22 : w.heap.size < w_2.heap.size := l19
      have OZ23 : w.heap.size + 1 < w_2.heap.size := l20
      have OZ24 : w.heap.size ≤ w_2.heap.size := HB21.out.size
      have OW : wr2.heap.size ≤ wrf.heap.size := hbf.size
      have OBW : w_2.heap.size ≤ wr2.heap.size := hbr2.size
      obtain ⟨aW, cW, rfl⟩ := cv_form hv
      rw [HN1.out] at hv ⊢
      have HWI := Lib.hid (cv_in hv)
      have HWR := Lib.hid hv
      clear hv
      have f25 : wrf.cell? ⟨w.heap.size, 0, none⟩ = some (.string s0) := (below_cell hb _ _ l19).trans f15
      have f26 : wrf.cell? ⟨w.heap.size, 1, none⟩ = some (v0) := (below_cell hb _ _ l19).trans f16
      have f27 : wrf.cell? ⟨w.heap.size + 1, 0, none⟩ = some (.string s1) := (below_cell hb _ _ l20).trans f17
      have f28 : wrf.cell? ⟨w.heap.size + 1, 1, none⟩ = some (v1) := (below_cell hb _ _ l20).trans f18
      have l29 : w.heap.size < wrf.heap.size := Nat.lt_of_lt_of_le l19 (hb).size
      have l30 : w.heap.size + 1 < wrf.heap.size := Nat.lt_of_lt_of_le l20 (hb).size
      clear f15 f16 f17 f18 l19 l20
      have HB31 := Lib.hid (below_of HB21.out hb HB21.out.size)
      clear hb hbd hbrf hbf HSK hbq0 hbr0 ho0 HI0 hbq1 hbr1 ho1 HI1 hbq2 hbr2 ho2 HI2
      go_wp2_with fail
      refine (toProf_any s0 v0 zs0 _ (rings_kept HB31.out HZ0.out)).mono ?_
      rintro e w_3 ⟨vx, rfl, ho, hb⟩
      have HXR0 := rv_of_ownAt ho
      obtain ⟨aX0, cX0, rfl⟩ := rv_form HXR0
      rw [HNA0.out] at HXR0 ⊢
      have HX0I := Lib.hid (rv_in HXR0)
      have HX0R := Lib.hid HXR0
      have OX0 : wrf.heap.size ≤ w_3.heap.size := hb.size
      have f32 : w_3.cell? ⟨w.heap.size, 0, none⟩ = some (.string s0) := (below_cell hb _ _ l29).trans f25
      have f33 : w_3.cell? ⟨w.heap.size, 1, none⟩ = some (v0) := (below_cell hb _ _ l29).trans f26
      have f34 : w_3.cell? ⟨w.heap.size + 1, 0, none⟩ = some (.string s1) := (below_cell hb _ _ l30).trans f27
      have f35 : w_3.cell? ⟨w.heap.size + 1, 1, none⟩ = some (v1) := (below_cell hb _ _ l30).trans f28
      have l36 : w.heap.size < w_3.heap.size := Nat.lt_of_lt_of_le l29 (hb).size
      have l37 : w.heap.size + 1 < w_3.heap.size := Nat.lt_of_lt_of_le l30 (hb).size
      clear f25 f26 f27 f28 l29 l30
      have HB38 := Lib.hid (below_of HB31.out hb HB31.out.size)
      have HR39 := Lib.hid (cv_kept hb HWR.out)
      clear HWR
      clear hb ho HXR0
      have f40 : (w_3.alloc (.cells #[.string s0, .slice aX0 len0 cX0] 45)).cell? ⟨w.heap.size, 0, none⟩ = some (.string s0) := (below_cell (below_al w_3 (.cells #[.string s0, .slice aX0 len0 cX0] 45)) _ _ l36).trans f32
      have f41 : (w_3.alloc (.cells #[.string s0, .slice aX0 len0 cX0] 45)).cell? ⟨w.heap.size, 1, none⟩ = some (v0) := (below_cell (below_al w_3 (.cells #[.string s0, .slice aX0 len0 cX0] 45)) _ _ l36).trans f33
      have f42 : (w_3.alloc (.cells #[.string s0, .slice aX0 len0 cX0] 45)).cell? ⟨w.heap.size + 1, 0, none⟩ = some (.string s1) := (below_cell (below_al w_3 (.cells #[.string s0, .slice aX0 len0 cX0] 45)) _ _ l37).trans f34
      have f43 : (w_3.alloc (.cells #[.string s0, .slice aX0 len0 cX0] 45)).cell? ⟨w.heap.size + 1, 1, none⟩ = some (v1) := (below_cell (below_al w_3 (.cells #[.string s0, .slice aX0 len0 cX0] 45)) _ _ l37).trans f35
      have l44 : w.heap.size < (w_3.alloc (.cells #[.string s0, .slice aX0 len0 cX0] 45)).heap.size := Nat.lt_of_lt_of_le l36 ((below_al w_3 (.cells #[.string s0, .slice aX0 len0 cX0] 45))).size
      have l45 : w.heap.size + 1 < (w_3.alloc (.cells #[.string s0, .slice aX0 len0 cX0] 45)).heap.size := Nat.lt_of_lt_of_le l37 ((below_al w_3 (.cells #[.string s0, .slice aX0 len0 cX0] 45))).size
      clear f32 f33 f34 f35 l36 l37
      have f46 : (w_3.alloc (.cells #[.string s0, .slice aX0 len0 cX0] 45)).cell? ⟨w_3.heap.size, 0, none⟩ = some (.string s0) := by go_simp
      have f47 : (w_3.alloc (.cells #[.string s0, .slice aX0 len0 cX0] 45)).cell? ⟨w_3.heap.size, 1, none⟩ = some (.slice aX0 len0 cX0) := by go_simp
      have l48 : w_3.heap.size < (w_3.alloc (.cells #[.string s0, .slice aX0 len0 cX0] 45)).heap.size := alloc_lt2 _ _
      have HB49 := Lib.hid (below_of HB38.out (below_al w_3 (.cells #[.string s0, .slice aX0 len0 cX0] 45)) HB38.out.size)
      have HR50 := Lib.hid (cv_kept (below_al w_3 (.cells #[.string s0, .slice aX0 len0 cX0] 45)) HR39.out)
      clear HR39
      have HR51 := Lib.hid (rv_kept (below_al w_3 (.cells #[.string s0, .slice aX0 len0 cX0] 45)) HX0R.out)
      clear HX0R
      go_wp2_with fail
      have OXb0 : w_3.heap.size < (w_3.alloc (.cells #[.string s0, .slice aX0 len0 cX0] 45)).heap.size := alloc_lt2 _ _
      generalize (w_3.alloc (.cells #[.string s0, .slice aX0 len0 cX0] 45)) = wb52 at *
      refine (toProf_any s1 v1 zs1 _ (rings_kept HB49.out HZ1.out)).mono ?_
      rintro e w_4 ⟨vx, rfl, ho, hb⟩
      have HXR0 := rv_of_ownAt ho
      obtain ⟨aX1, cX1, rfl⟩ := rv_form HXR0
      rw [HNA1.out] at HXR0 ⊢
      have HX1I := Lib.hid (rv_in HXR0)
      have HX1R := Lib.hid HXR0
      have OX1 : wb52.heap.size ≤ w_4.heap.size := hb.size
      have f53 : w_4.cell? ⟨w.heap.size, 0, none⟩ = some (.string s0) := (below_cell hb _ _ l44).trans f40
      have f54 : w_4.cell? ⟨w.heap.size, 1, none⟩ = some (v0) := (below_cell hb _ _ l44).trans f41
      have f55 : w_4.cell? ⟨w.heap.size + 1, 0, none⟩ = some (.string s1) := (below_cell hb _ _ l45).trans f42
      have f56 : w_4.cell? ⟨w.heap.size + 1, 1, none⟩ = some (v1) := (below_cell hb _ _ l45).trans f43
      have f57 : w_4.cell? ⟨w_3.heap.size, 0, none⟩ = some (.string s0) := (below_cell hb _ _ l48).trans f46
      have f58 : w_4.cell? ⟨w_3.heap.size, 1, none⟩ = some (.slice aX0 len0 cX0) := (below_cell hb _ _ l48).trans f47
      have l59 : w.heap.size < w_4.heap.size := Nat.lt_of_lt_of_le l44 (hb).size
      have l60 : w.heap.size + 1 < w_4.heap.size := Nat.lt_of_lt_of_le l45 (hb).size
      have l61 : w_3.heap.size < w_4.heap.size := Nat.lt_of_lt_of_le l48 (hb).size
      clear f40 f41 f42 f43 f46 f47 l44 l45 l48
      have HB62 := Lib.hid (below_of HB49.out hb HB49.out.size)
      have HR63 := Lib.hid (cv_kept hb HR50.out)
      clear HR50
      have HR64 := Lib.hid (rv_kept hb HR51.out)
      clear HR51
      clear hb ho HXR0
      have f65 : (w_4.alloc (.cells #[.string s1, .slice aX1 len1 cX1] 45)).cell? ⟨w.heap.size, 0, none⟩ = some (.string s0) := (below_cell (below_al w_4 (.cells #[.string s1, .slice aX1 len1 cX1] 45)) _ _ l59).trans f53
      have f66 : (w_4.alloc (.cells #[.string s1, .slice aX1 len1 cX1] 45)).cell? ⟨w.heap.size, 1, none⟩ = some (v0) := (below_cell (below_al w_4 (.cells #[.string s1, .slice aX1 len1 cX1] 45)) _ _ l59).trans f54
      have f67 : (w_4.alloc (.cells #[.string s1, .slice aX1 len1 cX1] 45)).cell? ⟨w.heap.size + 1, 0, none⟩ = some (.string s1) := (below_cell (below_al w_4 (.cells #[.string s1, .slice aX1 len1 cX1] 45)) _ _ l60).trans f55
      have f68 : (w_4.alloc (.cells #[.string s1, .slice aX1 len1 cX1] 45)).cell? ⟨w.heap.size + 1, 1, none⟩ = some (v1) := (below_cell (below_al w_4 (.cells #[.string s1, .slice aX1 len1 cX1] 45)) _ _ l60).trans f56
      have f69 : (w_4.alloc (.cells #[.string s1, .slice aX1 len1 cX1] 45)).cell? ⟨w_3.heap.size, 0, none⟩ = some (.string s0) := (below_cell (below_al w_4 (.cells #[.string s1, .slice aX1 len1 cX1] 45)) _ _ l61).trans f57
      have f70 : (w_4.alloc (.cells #[.string s1, .slice aX1 len1 cX1] 45)).cell? ⟨w_3.heap.size, 1, none⟩ = some (.slice aX0 len0 cX0) := (below_cell (below_al w_4 (.cells #[.string s1, .slice aX1 len1 cX1] 45)) _ _ l61).trans f58
      have l71 : w.heap.size < (w_4.alloc (.cells #[.string s1, .slice aX1 len1 cX1] 45)).heap.size := Nat.lt_of_lt_of_le l59 ((below_al w_4 (.cells #[.string s1, .slice aX1 len1 cX1] 45))).size
      have l72 : w.heap.size + 1 < (w_4.alloc (.cells #[.string s1, .slice aX1 len1 cX1] 45)).heap.size := Nat.lt_of_lt_of_le l60 ((below_al w_4 (.cells #[.string s1, .slice aX1 len1 cX1] 45))).size
      have l73 : w_3.heap.size < (w_4.alloc (.cells #[.string s1, .slice aX1 len1 cX1] 45)).heap.size := Nat.lt_of_lt_of_le l61 ((below_al w_4 (.cells #[.string s1, .slice aX1 len1 cX1] 45))).size
      clear f53 f54 f55 f56 f57 f58 l59 l60 l61
      have f74 : (w_4.alloc (.cells #[.string s1, .slice aX1 len1 cX1] 45)).cell? ⟨w_4.heap.size, 0, none⟩ = some (.string s1) := by go_simp
      have f75 : (w_4.alloc (.cells #[.string s1, .slice aX1 len1 cX1] 45)).cell? ⟨w_4.heap.size, 1, none⟩ = some (.slice aX1 len1 cX1) := by go_simp
      have l76 : w_4.heap.size < (w_4.alloc (.cells #[.string s1, .slice aX1 len1 cX1] 45)).heap.size := alloc_lt2 _ _
      have HB77 := Lib.hid (below_of HB62.out (below_al w_4 (.cells #[.string s1, .slice aX1 len1 cX1] 45)) HB62.out.size)
      have HR78 := Lib.hid (cv_kept (below_al w_4 (.cells #[.string s1, .slice aX1 len1 cX1] 45)) HR63.out)
      clear HR63
      have HR79 := Lib.hid (rv_kept (below_al w_4 (.cells #[.string s1, .slice aX1 len1 cX1] 45)) HR64.out)
      clear HR64
      have HR80 := Lib.hid (rv_kept (below_al w_4 (.cells #[.string s1, .slice aX1 len1 cX1] 45)) HX1R.out)
      clear HX1R
      go_wp2_with fail
      have OXb1 : w_4.heap.size < (w_4.alloc (.cells #[.string s1, .slice aX1 len1 cX1] 45)).heap.size := alloc_lt2 _ _
      generalize (w_4.alloc (.cells #[.string s1, .slice aX1 len1 cX1] 45)) = wb81 at *
      refine (toInts_any z2 _ _ (ints_kept HB77.out HY2.out)).mono ?_
      rintro e w_5 ⟨vx, rfl, ho, hb⟩
      have hv := iv_own ho
      obtain ⟨aZ2, cZ2, rfl⟩ := iv_form hv
      rw [HZN2.out] at hv ⊢
      have HX2I := Lib.hid (iv_in hv)
      have HX2R := Lib.hid hv
      have OX2 : wb81.heap.size ≤ w_5.heap.size := hb.size
      clear hv
      have f82 : w_5.cell? ⟨w.heap.size, 0, none⟩ = some (.string s0) := (below_cell hb _ _ l71).trans f65
      have f83 : w_5.cell? ⟨w.heap.size, 1, none⟩ = some (v0) := (below_cell hb _ _ l71).trans f66
      have f84 : w_5.cell? ⟨w.heap.size + 1, 0, none⟩ = some (.string s1) := (below_cell hb _ _ l72).trans f67
      have f85 : w_5.cell? ⟨w.heap.size + 1, 1, none⟩ = some (v1) := (below_cell hb _ _ l72).trans f68
      have f86 : w_5.cell? ⟨w_3.heap.size, 0, none⟩ = some (.string s0) := (below_cell hb _ _ l73).trans f69
      have f87 : w_5.cell? ⟨w_3.heap.size, 1, none⟩ = some (.slice aX0 len0 cX0) := (below_cell hb _ _ l73).trans f70
      have f88 : w_5.cell? ⟨w_4.heap.size, 0, none⟩ = some (.string s1) := (below_cell hb _ _ l76).trans f74
      have f89 : w_5.cell? ⟨w_4.heap.size, 1, none⟩ = some (.slice aX1 len1 cX1) := (below_cell hb _ _ l76).trans f75
      have l90 : w.heap.size < w_5.heap.size := Nat.lt_of_lt_of_le l71 (hb).size
      have l91 : w.heap.size + 1 < w_5.heap.size := Nat.lt_of_lt_of_le l72 (hb).size
      have l92 : w_3.heap.size < w_5.heap.size := Nat.lt_of_lt_of_le l73 (hb).size
      have l93 : w_4.heap.size < w_5.heap.size := Nat.lt_of_lt_of_le l76 (hb).size
      clear f65 f66 f67 f68 f69 f70 f74 f75 l71 l72 l73 l76
      have HB94 := Lib.hid (below_of HB77.out hb HB77.out.size)
      have HR95 := Lib.hid (cv_kept hb HR78.out)
      clear HR78
      have HR96 := Lib.hid (rv_kept hb HR79.out)
      clear HR79
      have HR97 := Lib.hid (rv_kept hb HR80.out)
      clear HR80
      clear hb ho
      go_wp2_with fail
      refine (HIM.out _ _ _ _ (rvW HZL0.out HR96.out) (rvW HZL1.out HR97.out) (iv_ints HYL2.out HX2R.out)).mono ?_
      rintro e w_6 ⟨vg, rfl, hv, hb⟩
      have OG : w_5.heap.size ≤ w_6.heap.size := hb.size
      obtain ⟨aG, cG, rfl⟩ := cv_form hv
      rw [HN1.out] at hv ⊢
      have HGI := Lib.hid (cv_in hv)
      have HGR := Lib.hid hv
      clear hv
      have f98 : w_6.cell? ⟨w.heap.size, 0, none⟩ = some (.string s0) := (below_cell hb _ _ l90).trans f82
      have f99 : w_6.cell? ⟨w.heap.size, 1, none⟩ = some (v0) := (below_cell hb _ _ l90).trans f83
      have f100 : w_6.cell? ⟨w.heap.size + 1, 0, none⟩ = some (.string s1) := (below_cell hb _ _ l91).trans f84
      have f101 : w_6.cell? ⟨w.heap.size + 1, 1, none⟩ = some (v1) := (below_cell hb _ _ l91).trans f85
      have f102 : w_6.cell? ⟨w_3.heap.size, 0, none⟩ = some (.string s0) := (below_cell hb _ _ l92).trans f86
      have f103 : w_6.cell? ⟨w_3.heap.size, 1, none⟩ = some (.slice aX0 len0 cX0) := (below_cell hb _ _ l92).trans f87
      have f104 : w_6.cell? ⟨w_4.heap.size, 0, none⟩ = some (.string s1) := (below_cell hb _ _ l93).trans f88
      have f105 : w_6.cell? ⟨w_4.heap.size, 1, none⟩ = some (.slice aX1 len1 cX1) := (below_cell hb _ _ l93).trans f89
      have l106 : w.heap.size < w_6.heap.size := Nat.lt_of_lt_of_le l90 (hb).size
      have l107 : w.heap.size + 1 < w_6.heap.size := Nat.lt_of_lt_of_le l91 (hb).size
      have l108 : w_3.heap.size < w_6.heap.size := Nat.lt_of_lt_of_le l92 (hb).size
      have l109 : w_4.heap.size < w_6.heap.size := Nat.lt_of_lt_of_le l93 (hb).size
      clear f82 f83 f84 f85 f86 f87 f88 f89 l90 l91 l92 l93
      have HB110 := Lib.hid (below_of HB94.out hb HB94.out.size)
      have HR111 := Lib.hid (cv_kept hb HR95.out)
      clear HR95
      have HR112 := Lib.hid (rv_kept hb HR96.out)
      clear HR96
      have HR113 := Lib.hid (rv_kept hb HR97.out)
      clear HR97
      have HR114 := Lib.hid (iv_kept hb HX2R.out)
      clear HX2R
      clear hb 
      go_wp2_with fail
      refine (eqCuts_at L1 _ _ _ (cv_at HLL.out HGR.out) (cv_at HLL.out HR111.out)).mono ?_
      rintro e w_7 ⟨rfl, hb⟩
      have f115 : w_7.cell? ⟨w.heap.size, 0, none⟩ = some (.string s0) := (below_cell hb _ _ l106).trans f98
      have f116 : w_7.cell? ⟨w.heap.size, 1, none⟩ = some (v0) := (below_cell hb _ _ l106).trans f99
      have f117 : w_7.cell? ⟨w.heap.size + 1, 0, none⟩ = some (.string s1) := (below_cell hb _ _ l107).trans f100
      have f118 : w_7.cell? ⟨w.heap.size + 1, 1, none⟩ = some (v1) := (below_cell hb _ _ l107).trans f101
      have f119 : w_7.cell? ⟨w_3.heap.size, 0, none⟩ = some (.string s0) := (below_cell hb _ _ l108).trans f102
      have f120 : w_7.cell? ⟨w_3.heap.size, 1, none⟩ = some (.slice aX0 len0 cX0) := (below_cell hb _ _ l108).trans f103
      have f121 : w_7.cell? ⟨w_4.heap.size, 0, none⟩ = some (.string s1) := (below_cell hb _ _ l109).trans f104
      have f122 : w_7.cell? ⟨w_4.heap.size, 1, none⟩ = some (.slice aX1 len1 cX1) := (below_cell hb _ _ l109).trans f105
      have l123 : w.heap.size < w_7.heap.size := Nat.lt_of_lt_of_le l106 (hb).size
      have l124 : w.heap.size + 1 < w_7.heap.size := Nat.lt_of_lt_of_le l107 (hb).size
      have l125 : w_3.heap.size < w_7.heap.size := Nat.lt_of_lt_of_le l108 (hb).size
      have l126 : w_4.heap.size < w_7.heap.size := Nat.lt_of_lt_of_le l109 (hb).size
      clear f98 f99 f100 f101 f102 f103 f104 f105 l106 l107 l108 l109
      have HB127 := Lib.hid (below_of HB110.out hb HB110.out.size)
      have HR128 := Lib.hid (cv_kept hb HR111.out)
      clear HR111
      have HR129 := Lib.hid (rv_kept hb HR112.out)
      clear HR112
      have HR130 := Lib.hid (rv_kept hb HR113.out)
      clear HR113
      have HR131 := Lib.hid (iv_kept hb HR114.out)
      clear HR114
      have HR132 := Lib.hid (cv_kept hb HGR.out)
      clear HGR
      clear hb 
      go_wp2
      have hbd : Below w_7.heap.size w_7 w_7.drew := ⟨rfl, rfl, rfl, Nat.le_refl _, fun _ _ => rfl⟩
      have HIv := Lib.hid (rings_kept HB127.out HZ0.out)
      have HXr := Lib.hid (rv_rings HZL0.out HR129.out)
      have HSK := Lib.hid (fun W (hW : Below w_7.heap.size w_7 W) => show W.cell? ⟨w.heap.size, 0, none⟩ = some (.string s0) ∧ W.cell? ⟨w.heap.size, 1, none⟩ = some (v0) ∧ W.cell? ⟨w_3.heap.size, 0, none⟩ = some (.string s0) ∧ W.cell? ⟨w_3.heap.size, 1, none⟩ = some (.slice aX0 len0 cX0) ∧ Below w_7.heap.size w_7 W from ⟨(below_cell hW _ _ l123).trans f115, (below_cell hW _ _ l123).trans f116, (below_cell hW _ _ l125).trans f119, (below_cell hW _ _ l125).trans f120, hW⟩)
      go_region_held3 (fun W => W.cell? ⟨w.heap.size, 0, none⟩ = some (.string s0) ∧ W.cell? ⟨w.heap.size, 1, none⟩ = some (v0) ∧ W.cell? ⟨w_3.heap.size, 0, none⟩ = some (.string s0) ∧ W.cell? ⟨w_3.heap.size, 1, none⟩ = some (.slice aX0 len0 cX0) ∧ Below w_7.heap.size w_7 W)
        (first | exact HSK.out _ hbd | exact HSK.out _ hbr0 | exact HSK.out _ hbrf | assumption)
        (first
          | (go_at_call 22; refine (toProf_any s0 v0 zs0 _ (rings_kept hbd HIv.out)).mono ?_; rintro e wq7 ⟨v7, rfl, ho7, hbq0⟩; have hbr0 := below_of hbd hbq0 hbd.size)
          | (go_at_call 24; refine (eqProf_any s0 _ v7 zs0 _ (rings_kept hbr0 HXr.out) (ownRAt_rings HZL0.out ho7)).mono ?_; rintro e wq8 ⟨rfl, hbf⟩; have hbrf := below_of hbr0 hbf hbr0.size))
      have hb := hbrf
      have f133 : wq8.cell? ⟨w.heap.size, 0, none⟩ = some (.string s0) := (below_cell hb _ _ l123).trans f115
      have f134 : wq8.cell? ⟨w.heap.size, 1, none⟩ = some (v0) := (below_cell hb _ _ l123).trans f116
      have f135 : wq8.cell? ⟨w.heap.size + 1, 0, none⟩ = some (.string s1) := (below_cell hb _ _ l124).trans f117
      have f136 : wq8.cell? ⟨w.heap.size + 1, 1, none⟩ = some (v1) := (below_cell hb _ _ l124).trans f118
      have f137 : wq8.cell? ⟨w_3.heap.size, 0, none⟩ = some (.string s0) := (below_cell hb _ _ l125).trans f119
      have f138 : wq8.cell? ⟨w_3.heap.size, 1, none⟩ = some (.slice aX0 len0 cX0) := (below_cell hb _ _ l125).trans f120
      have f139 : wq8.cell? ⟨w_4.heap.size, 0, none⟩ = some (.string s1) := (below_cell hb _ _ l126).trans f121
      have f140 : wq8.cell? ⟨w_4.heap.size, 1, none⟩ = some (.slice aX1 len1 cX1) := (below_cell hb _ _ l126).trans f122
      have l141 : w.heap.size < wq8.heap.size := Nat.lt_of_lt_of_le l123 (hb).size
      have l142 : w.heap.size + 1 < wq8.heap.size := Nat.lt_of_lt_of_le l124 (hb).size
      have l143 : w_3.heap.size < wq8.heap.size := Nat.lt_of_lt_of_le l125 (hb).size
      have l144 : w_4.heap.size < wq8.heap.size := Nat.lt_of_lt_of_le l126 (hb).size
      clear f115 f116 f117 f118 f119 f120 f121 f122 l123 l124 l125 l126
      have HB145 := Lib.hid (below_of HB127.out hb HB127.out.size)
      have HR146 := Lib.hid (cv_kept hb HR128.out)
      clear HR128
      have HR147 := Lib.hid (rv_kept hb HR129.out)
      clear HR129
      have HR148 := Lib.hid (rv_kept hb HR130.out)
      clear HR130
      have HR149 := Lib.hid (iv_kept hb HR131.out)
      clear HR131
      have HR150 := Lib.hid (cv_kept hb HR132.out)
      clear HR132
      clear hb hbd hbr0 hbrf hbq0 hbf ho7 HIv HXr HSK
      generalize hw8 : wq8 = w_8 at *
      clear hw8
      go_wp2
      have hbd : Below w_8.heap.size w_8 w_8.drew := ⟨rfl, rfl, rfl, Nat.le_refl _, fun _ _ => rfl⟩
      have HIv := Lib.hid (rings_kept HB145.out HZ1.out)
      have HXr := Lib.hid (rv_rings HZL1.out HR148.out)
      have HSK := Lib.hid (fun W (hW : Below w_8.heap.size w_8 W) => show W.cell? ⟨w.heap.size + 1, 0, none⟩ = some (.string s1) ∧ W.cell? ⟨w.heap.size + 1, 1, none⟩ = some (v1) ∧ W.cell? ⟨w_4.heap.size, 0, none⟩ = some (.string s1) ∧ W.cell? ⟨w_4.heap.size, 1, none⟩ = some (.slice aX1 len1 cX1) ∧ Below w_8.heap.size w_8 W from ⟨(below_cell hW _ _ l142).trans f135, (below_cell hW _ _ l142).trans f136, (below_cell hW _ _ l144).trans f139, (below_cell hW _ _ l144).trans f140, hW⟩)
      go_region_held3 (fun W => W.cell? ⟨w.heap.size + 1, 0, none⟩ = some (.string s1) ∧ W.cell? ⟨w.heap.size + 1, 1, none⟩ = some (v1) ∧ W.cell? ⟨w_4.heap.size, 0, none⟩ = some (.string s1) ∧ W.cell? ⟨w_4.heap.size, 1, none⟩ = some (.slice aX1 len1 cX1) ∧ Below w_8.heap.size w_8 W)
        (first | exact HSK.out _ hbd | exact HSK.out _ hbr0 | exact HSK.out _ hbrf | assumption)
        (first
          | (go_at_call 22; refine (toProf_any s1 v1 zs1 _ (rings_kept hbd HIv.out)).mono ?_; rintro e wq7 ⟨v7, rfl, ho7, hbq0⟩; have hbr0 := below_of hbd hbq0 hbd.size)
          | (go_at_call 24; refine (eqProf_any s1 _ v7 zs1 _ (rings_kept hbr0 HXr.out) (ownRAt_rings HZL1.out ho7)).mono ?_; rintro e wq8 ⟨rfl, hbf⟩; have hbrf := below_of hbr0 hbf hbr0.size))
      have hb := hbrf
      have f151 : wq8.cell? ⟨w.heap.size, 0, none⟩ = some (.string s0) := (below_cell hb _ _ l141).trans f133
      have f152 : wq8.cell? ⟨w.heap.size, 1, none⟩ = some (v0) := (below_cell hb _ _ l141).trans f134
      have f153 : wq8.cell? ⟨w.heap.size + 1, 0, none⟩ = some (.string s1) := (below_cell hb _ _ l142).trans f135
      have f154 : wq8.cell? ⟨w.heap.size + 1, 1, none⟩ = some (v1) := (below_cell hb _ _ l142).trans f136
      have f155 : wq8.cell? ⟨w_3.heap.size, 0, none⟩ = some (.string s0) := (below_cell hb _ _ l143).trans f137
      have f156 : wq8.cell? ⟨w_3.heap.size, 1, none⟩ = some (.slice aX0 len0 cX0) := (below_cell hb _ _ l143).trans f138
      have f157 : wq8.cell? ⟨w_4.heap.size, 0, none⟩ = some (.string s1) := (below_cell hb _ _ l144).trans f139
      have f158 : wq8.cell? ⟨w_4.heap.size, 1, none⟩ = some (.slice aX1 len1 cX1) := (below_cell hb _ _ l144).trans f140
      have l159 : w.heap.size < wq8.heap.size := Nat.lt_of_lt_of_le l141 (hb).size
      have l160 : w.heap.size + 1 < wq8.heap.size := Nat.lt_of_lt_of_le l142 (hb).size
      have l161 : w_3.heap.size < wq8.heap.size := Nat.lt_of_lt_of_le l143 (hb).size
      have l162 : w_4.heap.size < wq8.heap.size := Nat.lt_of_lt_of_le l144 (hb).size
      clear f133 f134 f135 f136 f137 f138 f139 f140 l141 l142 l143 l144
      have HB163 := Lib.hid (below_of HB145.out hb HB145.out.size)
      have HR164 := Lib.hid (cv_kept hb HR146.out)
      clear HR146
      have HR165 := Lib.hid (rv_kept hb HR147.out)
      clear HR147
      have HR166 := Lib.hid (rv_kept hb HR148.out)
      clear HR148
      have HR167 := Lib.hid (iv_kept hb HR149.out)
      clear HR149
      have HR168 := Lib.hid (cv_kept hb HR150.out)
      clear HR150
      clear hb hbd hbr0 hbrf hbq0 hbf ho7 HIv HXr HSK
      generalize hw8 : wq8 = w_9 at *
      clear hw8
      go_wp2_with fail
      refine (toInts_any z2 _ _ (ints_kept HB163.out HY2.out)).mono ?_
      rintro e w_10 ⟨vt, rfl, ho, hb⟩
      have HT := Lib.hid (own_ints HYL2.out ho)
      have f169 : w_10.cell? ⟨w.heap.size, 0, none⟩ = some (.string s0) := (below_cell hb _ _ l159).trans f151
      have f170 : w_10.cell? ⟨w.heap.size, 1, none⟩ = some (v0) := (below_cell hb _ _ l159).trans f152
      have f171 : w_10.cell? ⟨w.heap.size + 1, 0, none⟩ = some (.string s1) := (below_cell hb _ _ l160).trans f153
      have f172 : w_10.cell? ⟨w.heap.size + 1, 1, none⟩ = some (v1) := (below_cell hb _ _ l160).trans f154
      have f173 : w_10.cell? ⟨w_3.heap.size, 0, none⟩ = some (.string s0) := (below_cell hb _ _ l161).trans f155
      have f174 : w_10.cell? ⟨w_3.heap.size, 1, none⟩ = some (.slice aX0 len0 cX0) := (below_cell hb _ _ l161).trans f156
      have f175 : w_10.cell? ⟨w_4.heap.size, 0, none⟩ = some (.string s1) := (below_cell hb _ _ l162).trans f157
      have f176 : w_10.cell? ⟨w_4.heap.size, 1, none⟩ = some (.slice aX1 len1 cX1) := (below_cell hb _ _ l162).trans f158
      have l177 : w.heap.size < w_10.heap.size := Nat.lt_of_lt_of_le l159 (hb).size
      have l178 : w.heap.size + 1 < w_10.heap.size := Nat.lt_of_lt_of_le l160 (hb).size
      have l179 : w_3.heap.size < w_10.heap.size := Nat.lt_of_lt_of_le l161 (hb).size
      have l180 : w_4.heap.size < w_10.heap.size := Nat.lt_of_lt_of_le l162 (hb).size
      clear f151 f152 f153 f154 f155 f156 f157 f158 l159 l160 l161 l162
      have HB181 := Lib.hid (below_of HB163.out hb HB163.out.size)
      have HR182 := Lib.hid (cv_kept hb HR164.out)
      clear HR164
      have HR183 := Lib.hid (rv_kept hb HR165.out)
      clear HR165
      have HR184 := Lib.hid (rv_kept hb HR166.out)
      clear HR166
      have HR185 := Lib.hid (iv_kept hb HR167.out)
      clear HR167
      have HR186 := Lib.hid (cv_kept hb HR168.out)
      clear HR168
      clear hb ho
      go_wp2_with fail
      refine (eqInts_at z2 _ _ _ (iv_ints HYL2.out HR185.out) HT.out).mono ?_
      rintro e w_11 ⟨rfl, hb⟩
      have f187 : w_11.cell? ⟨w.heap.size, 0, none⟩ = some (.string s0) := (below_cell hb _ _ l177).trans f169
      have f188 : w_11.cell? ⟨w.heap.size, 1, none⟩ = some (v0) := (below_cell hb _ _ l177).trans f170
      have f189 : w_11.cell? ⟨w.heap.size + 1, 0, none⟩ = some (.string s1) := (below_cell hb _ _ l178).trans f171
      have f190 : w_11.cell? ⟨w.heap.size + 1, 1, none⟩ = some (v1) := (below_cell hb _ _ l178).trans f172
      have f191 : w_11.cell? ⟨w_3.heap.size, 0, none⟩ = some (.string s0) := (below_cell hb _ _ l179).trans f173
      have f192 : w_11.cell? ⟨w_3.heap.size, 1, none⟩ = some (.slice aX0 len0 cX0) := (below_cell hb _ _ l179).trans f174
      have f193 : w_11.cell? ⟨w_4.heap.size, 0, none⟩ = some (.string s1) := (below_cell hb _ _ l180).trans f175
      have f194 : w_11.cell? ⟨w_4.heap.size, 1, none⟩ = some (.slice aX1 len1 cX1) := (below_cell hb _ _ l180).trans f176
      have l195 : w.heap.size < w_11.heap.size := Nat.lt_of_lt_of_le l177 (hb).size
      have l196 : w.heap.size + 1 < w_11.heap.size := Nat.lt_of_lt_of_le l178 (hb).size
      have l197 : w_3.heap.size < w_11.heap.size := Nat.lt_of_lt_of_le l179 (hb).size
      have l198 : w_4.heap.size < w_11.heap.size := Nat.lt_of_lt_of_le l180 (hb).size
      clear f169 f170 f171 f172 f173 f174 f175 f176 l177 l178 l179 l180
      have HB199 := Lib.hid (below_of HB181.out hb HB181.out.size)
      have HR200 := Lib.hid (cv_kept hb HR182.out)
      clear HR182
      have HR201 := Lib.hid (rv_kept hb HR183.out)
      clear HR183
      have HR202 := Lib.hid (rv_kept hb HR184.out)
      clear HR184
      have HR203 := Lib.hid (iv_kept hb HR185.out)
      clear HR185
      have HR204 := Lib.hid (cv_kept hb HR186.out)
      clear HR186
      clear hb HT
      go_wp2_with fail
      refine (markProfM_any (1) (by omega) s0 _ zs0 _ _ HZL0.out HR201.out).mono ?_
      rintro e w_12 ⟨rfl, hv, hg⟩
      rw [HNA0.out] at hv ⊢
      have f205 : w_12.cell? ⟨w.heap.size, 0, none⟩ = some (.string s0) := (gb_cell hg _ _ l195 (apart_box HX0I.out (by omega))).trans f187
      have f206 : w_12.cell? ⟨w.heap.size, 1, none⟩ = some (v0) := (gb_cell hg _ _ l195 (apart_box HX0I.out (by omega))).trans f188
      have f207 : w_12.cell? ⟨w.heap.size + 1, 0, none⟩ = some (.string s1) := (gb_cell hg _ _ l196 (apart_box HX0I.out (by omega))).trans f189
      have f208 : w_12.cell? ⟨w.heap.size + 1, 1, none⟩ = some (v1) := (gb_cell hg _ _ l196 (apart_box HX0I.out (by omega))).trans f190
      have f209 : w_12.cell? ⟨w_3.heap.size, 0, none⟩ = some (.string s0) := (gb_cell hg _ _ l197 (apart_box HX0I.out (by omega))).trans f191
      have f210 : w_12.cell? ⟨w_3.heap.size, 1, none⟩ = some (.slice aX0 len0 cX0) := (gb_cell hg _ _ l197 (apart_box HX0I.out (by omega))).trans f192
      have f211 : w_12.cell? ⟨w_4.heap.size, 0, none⟩ = some (.string s1) := (gb_cell hg _ _ l198 (apart_box HX0I.out (by omega))).trans f193
      have f212 : w_12.cell? ⟨w_4.heap.size, 1, none⟩ = some (.slice aX1 len1 cX1) := (gb_cell hg _ _ l198 (apart_box HX0I.out (by omega))).trans f194
      have l213 : w.heap.size < w_12.heap.size := Nat.lt_of_lt_of_le l195 hg.size
      have l214 : w.heap.size + 1 < w_12.heap.size := Nat.lt_of_lt_of_le l196 hg.size
      have l215 : w_3.heap.size < w_12.heap.size := Nat.lt_of_lt_of_le l197 hg.size
      have l216 : w_4.heap.size < w_12.heap.size := Nat.lt_of_lt_of_le l198 hg.size
      have HR217 := Lib.hid (cv_grown hg HR200.out (apart_of HWI.out HX0I.out (by omega)))
      clear HR200
      have HR218 := Lib.hid (rv_grown hg HR202.out (apart_of HX1I.out HX0I.out (by omega)))
      clear HR202
      have HR219 := Lib.hid (iv_grown hg HR203.out (apart_of HX2I.out HX0I.out (by omega)))
      clear HR203
      have HR220 := Lib.hid (cv_grown hg HR204.out (apart_of HGI.out HX0I.out (by omega)))
      clear HR204
      have HR221 := Lib.hid hv
      clear HR201
      have HB222 := Lib.hid (HB199.out.trans (gb_below hg HB199.out.size (fun k hk => by have := HX0I.out k hk; omega)))
      clear hv hg f187 f188 f189 f190 f191 f192 f193 f194 l195 l196 l197 l198
      go_wp2_with fail
      refine (markProfM_any (1 + 3 * (len0 : Int)) (by omega) s1 _ zs1 _ _ HZL1.out HR218.out).mono ?_
      rintro e w_13 ⟨rfl, hv, hg⟩
      rw [HNA1.out] at hv ⊢
      have f223 : w_13.cell? ⟨w.heap.size, 0, none⟩ = some (.string s0) := (gb_cell hg _ _ l213 (apart_box HX1I.out (by omega))).trans f205
      have f224 : w_13.cell? ⟨w.heap.size, 1, none⟩ = some (v0) := (gb_cell hg _ _ l213 (apart_box HX1I.out (by omega))).trans f206
      have f225 : w_13.cell? ⟨w.heap.size + 1, 0, none⟩ = some (.string s1) := (gb_cell hg _ _ l214 (apart_box HX1I.out (by omega))).trans f207
      have f226 : w_13.cell? ⟨w.heap.size + 1, 1, none⟩ = some (v1) := (gb_cell hg _ _ l214 (apart_box HX1I.out (by omega))).trans f208
      have f227 : w_13.cell? ⟨w_3.heap.size, 0, none⟩ = some (.string s0) := (gb_cell hg _ _ l215 (apart_box HX1I.out (by omega))).trans f209
      have f228 : w_13.cell? ⟨w_3.heap.size, 1, none⟩ = some (.slice aX0 len0 cX0) := (gb_cell hg _ _ l215 (apart_box HX1I.out (by omega))).trans f210
      have f229 : w_13.cell? ⟨w_4.heap.size, 0, none⟩ = some (.string s1) := (gb_cell hg _ _ l216 (apart_box HX1I.out (by omega))).trans f211
      have f230 : w_13.cell? ⟨w_4.heap.size, 1, none⟩ = some (.slice aX1 len1 cX1) := (gb_cell hg _ _ l216 (apart_box HX1I.out (by omega))).trans f212
      have l231 : w.heap.size < w_13.heap.size := Nat.lt_of_lt_of_le l213 hg.size
      have l232 : w.heap.size + 1 < w_13.heap.size := Nat.lt_of_lt_of_le l214 hg.size
      have l233 : w_3.heap.size < w_13.heap.size := Nat.lt_of_lt_of_le l215 hg.size
      have l234 : w_4.heap.size < w_13.heap.size := Nat.lt_of_lt_of_le l216 hg.size
      have HR235 := Lib.hid (cv_grown hg HR217.out (apart_of HWI.out HX1I.out (by omega)))
      clear HR217
      have HR236 := Lib.hid (iv_grown hg HR219.out (apart_of HX2I.out HX1I.out (by omega)))
      clear HR219
      have HR237 := Lib.hid (cv_grown hg HR220.out (apart_of HGI.out HX1I.out (by omega)))
      clear HR220
      have HR238 := Lib.hid hv
      clear HR218
      have HB239 := Lib.hid (HB222.out.trans (gb_below hg HB222.out.size (fun k hk => by have := HX1I.out k hk; omega)))
      clear hv hg f205 f206 f207 f208 f209 f210 f211 f212 l213 l214 l215 l216
      go_wp2_with fail
      refine (markIv_any (1 + 3 * (len0 : Int) + 3 * (len1 : Int)) (by omega) _ z2 _ _ HYL2.out HR236.out).mono ?_
      rintro e w_14 ⟨rfl, hv, hg⟩
      rw [HZN2.out] at hv ⊢
      have f240 : w_14.cell? ⟨w.heap.size, 0, none⟩ = some (.string s0) := (gb_cell hg _ _ l231 (apart_box HX2I.out (by omega))).trans f223
      have f241 : w_14.cell? ⟨w.heap.size, 1, none⟩ = some (v0) := (gb_cell hg _ _ l231 (apart_box HX2I.out (by omega))).trans f224
      have f242 : w_14.cell? ⟨w.heap.size + 1, 0, none⟩ = some (.string s1) := (gb_cell hg _ _ l232 (apart_box HX2I.out (by omega))).trans f225
      have f243 : w_14.cell? ⟨w.heap.size + 1, 1, none⟩ = some (v1) := (gb_cell hg _ _ l232 (apart_box HX2I.out (by omega))).trans f226
      have f244 : w_14.cell? ⟨w_3.heap.size, 0, none⟩ = some (.string s0) := (gb_cell hg _ _ l233 (apart_box HX2I.out (by omega))).trans f227
      have f245 : w_14.cell? ⟨w_3.heap.size, 1, none⟩ = some (.slice aX0 len0 cX0) := (gb_cell hg _ _ l233 (apart_box HX2I.out (by omega))).trans f228
      have f246 : w_14.cell? ⟨w_4.heap.size, 0, none⟩ = some (.string s1) := (gb_cell hg _ _ l234 (apart_box HX2I.out (by omega))).trans f229
      have f247 : w_14.cell? ⟨w_4.heap.size, 1, none⟩ = some (.slice aX1 len1 cX1) := (gb_cell hg _ _ l234 (apart_box HX2I.out (by omega))).trans f230
      have l248 : w.heap.size < w_14.heap.size := Nat.lt_of_lt_of_le l231 hg.size
      have l249 : w.heap.size + 1 < w_14.heap.size := Nat.lt_of_lt_of_le l232 hg.size
      have l250 : w_3.heap.size < w_14.heap.size := Nat.lt_of_lt_of_le l233 hg.size
      have l251 : w_4.heap.size < w_14.heap.size := Nat.lt_of_lt_of_le l234 hg.size
      have HR252 := Lib.hid (cv_grown hg HR235.out (apart_of HWI.out HX2I.out (by omega)))
      clear HR235
      have HR253 := Lib.hid (cv_grown hg HR237.out (apart_of HGI.out HX2I.out (by omega)))
      clear HR237
      have HR254 := Lib.hid hv
      clear HR236
      have HB255 := Lib.hid (HB239.out.trans (gb_below hg HB239.out.size (fun k hk => by have := HX2I.out k hk; omega)))
      clear hv hg f223 f224 f225 f226 f227 f228 f229 f230 l231 l232 l233 l234
      go_wp2_with fail
      refine (eqCuts_at L1 _ _ _ (cv_at HLL.out HR253.out) (cv_at HLL.out HR252.out)).mono ?_
      rintro e w_15 ⟨rfl, hb⟩
      have f256 : w_15.cell? ⟨w.heap.size, 0, none⟩ = some (.string s0) := (below_cell hb _ _ l248).trans f240
      have f257 : w_15.cell? ⟨w.heap.size, 1, none⟩ = some (v0) := (below_cell hb _ _ l248).trans f241
      have f258 : w_15.cell? ⟨w.heap.size + 1, 0, none⟩ = some (.string s1) := (below_cell hb _ _ l249).trans f242
      have f259 : w_15.cell? ⟨w.heap.size + 1, 1, none⟩ = some (v1) := (below_cell hb _ _ l249).trans f243
      have f260 : w_15.cell? ⟨w_3.heap.size, 0, none⟩ = some (.string s0) := (below_cell hb _ _ l250).trans f244
      have f261 : w_15.cell? ⟨w_3.heap.size, 1, none⟩ = some (.slice aX0 len0 cX0) := (below_cell hb _ _ l250).trans f245
      have f262 : w_15.cell? ⟨w_4.heap.size, 0, none⟩ = some (.string s1) := (below_cell hb _ _ l251).trans f246
      have f263 : w_15.cell? ⟨w_4.heap.size, 1, none⟩ = some (.slice aX1 len1 cX1) := (below_cell hb _ _ l251).trans f247
      have l264 : w.heap.size < w_15.heap.size := Nat.lt_of_lt_of_le l248 (hb).size
      have l265 : w.heap.size + 1 < w_15.heap.size := Nat.lt_of_lt_of_le l249 (hb).size
      have l266 : w_3.heap.size < w_15.heap.size := Nat.lt_of_lt_of_le l250 (hb).size
      have l267 : w_4.heap.size < w_15.heap.size := Nat.lt_of_lt_of_le l251 (hb).size
      clear f240 f241 f242 f243 f244 f245 f246 f247 l248 l249 l250 l251
      have HB268 := Lib.hid (below_of HB255.out hb HB255.out.size)
      have HR269 := Lib.hid (cv_kept hb HR252.out)
      clear HR252
      have HR270 := Lib.hid (cv_kept hb HR253.out)
      clear HR253
      clear hb 
      go_wp2_with fail
      refine (markCv_any 1 (by omega) _ L1 _ _ HLL.out HR270.out).mono ?_
      rintro e w_16 ⟨rfl, hv, hg⟩
      rw [HN1.out] at hv ⊢
      have f271 : w_16.cell? ⟨w.heap.size, 0, none⟩ = some (.string s0) := (gb_cell hg _ _ l264 (apart_box HGI.out (by omega))).trans f256
      have f272 : w_16.cell? ⟨w.heap.size, 1, none⟩ = some (v0) := (gb_cell hg _ _ l264 (apart_box HGI.out (by omega))).trans f257
      have f273 : w_16.cell? ⟨w.heap.size + 1, 0, none⟩ = some (.string s1) := (gb_cell hg _ _ l265 (apart_box HGI.out (by omega))).trans f258
      have f274 : w_16.cell? ⟨w.heap.size + 1, 1, none⟩ = some (v1) := (gb_cell hg _ _ l265 (apart_box HGI.out (by omega))).trans f259
      have f275 : w_16.cell? ⟨w_3.heap.size, 0, none⟩ = some (.string s0) := (gb_cell hg _ _ l266 (apart_box HGI.out (by omega))).trans f260
      have f276 : w_16.cell? ⟨w_3.heap.size, 1, none⟩ = some (.slice aX0 len0 cX0) := (gb_cell hg _ _ l266 (apart_box HGI.out (by omega))).trans f261
      have f277 : w_16.cell? ⟨w_4.heap.size, 0, none⟩ = some (.string s1) := (gb_cell hg _ _ l267 (apart_box HGI.out (by omega))).trans f262
      have f278 : w_16.cell? ⟨w_4.heap.size, 1, none⟩ = some (.slice aX1 len1 cX1) := (gb_cell hg _ _ l267 (apart_box HGI.out (by omega))).trans f263
      have l279 : w.heap.size < w_16.heap.size := Nat.lt_of_lt_of_le l264 hg.size
      have l280 : w.heap.size + 1 < w_16.heap.size := Nat.lt_of_lt_of_le l265 hg.size
      have l281 : w_3.heap.size < w_16.heap.size := Nat.lt_of_lt_of_le l266 hg.size
      have l282 : w_4.heap.size < w_16.heap.size := Nat.lt_of_lt_of_le l267 hg.size
      have HR283 := Lib.hid (cv_grown hg HR269.out (apart_of HWI.out HGI.out (by omega)))
      clear HR269
      have HR284 := Lib.hid hv
      clear HR270
      have HB285 := Lib.hid (HB268.out.trans (gb_below hg HB268.out.size (fun k hk => by have := HGI.out k hk; omega)))
      clear hv hg f256 f257 f258 f259 f260 f261 f262 f263 l264 l265 l266 l267
      go_wp2_with fail
      refine (heldCv_any 1 (by omega) _ n1 _ _ hll HR284.out).mono ?_
      rintro e w_16 ⟨rfl, rfl⟩
      go_wp2_with fail
      have hbd : Below w_16.heap.size w_16 w_16.drew := ⟨rfl, rfl, rfl, Nat.le_refl _, fun _ _ => rfl⟩
      have HI0 := Lib.hid (rings_kept HB285.out HZ0.out)
      have HI1 := Lib.hid (rings_kept HB285.out HZ1.out)
      have HI2 := Lib.hid (ints_kept HB285.out HY2.out)
      have HSK := Lib.hid (fun W (hW : Below w_16.heap.size w_16 W) => show W.cell? ⟨w.heap.size, 0, none⟩ = some (.string s0) ∧ W.cell? ⟨w.heap.size, 1, none⟩ = some (v0) ∧ W.cell? ⟨w.heap.size + 1, 0, none⟩ = some (.string s1) ∧ W.cell? ⟨w.heap.size + 1, 1, none⟩ = some (v1) ∧ Below w_16.heap.size w_16 W from ⟨(below_cell hW _ _ l279).trans f271, (below_cell hW _ _ l279).trans f272, (below_cell hW _ _ l280).trans f273, (below_cell hW _ _ l280).trans f274, hW⟩)
      go_region_held3 (fun W => W.cell? ⟨w.heap.size, 0, none⟩ = some (.string s0) ∧ W.cell? ⟨w.heap.size, 1, none⟩ = some (v0) ∧ W.cell? ⟨w.heap.size + 1, 0, none⟩ = some (.string s1) ∧ W.cell? ⟨w.heap.size + 1, 1, none⟩ = some (v1) ∧ Below w_16.heap.size w_16 W)
        (first | exact HSK.out _ hbd | exact HSK.out _ hbr0 | exact HSK.out _ hbr1 | exact HSK.out _ hbr2 | exact HSK.out _ hbrf | assumption)
        (first
          | (go_at_call_of 22 (Value.agg #[.string s0, v0]); refine (toProf_any s0 v0 zs0 _ (rings_kept hbd HI0.out)).mono ?_; rintro e wr0 ⟨vx0, rfl, ho0, hbq0⟩; have hbr0 := below_of hbd hbq0 hbd.size)
          | (go_at_call_of 22 (Value.agg #[.string s1, v1]); refine (toProf_any s1 v1 zs1 _ (rings_kept hbr0 HI1.out)).mono ?_; rintro e wr1 ⟨vx1, rfl, ho1, hbq1⟩; have hbr1 := below_of hbr0 hbq1 hbr0.size)
          | (go_at_call 11; refine (toInts_any z2 _ _ (ints_kept hbr1 HI2.out)).mono ?_; rintro e wr2 ⟨vx2, rfl, ho2, hbq2⟩; have hbr2 := below_of hbr1 hbq2 hbr1.size)
          | (go_at_call 43; refine (HIM.out vx0 vx1 vx2 _ (ringsW_kept hbq2 (ringsW_kept hbq1 (rvW HZL0.out (rv_of_ownAt ho0)))) (ringsW_kept hbq2 (rvW HZL1.out (rv_of_ownAt ho1))) (own_ints HYL2.out ho2)).mono ?_; rintro e wrf ⟨vh, rfl, hv, hbf⟩; have hbrf := below_of hbr2 hbf hbr2.size))
      have hb := hbrf
      have OH : wr2.heap.size ≤ wrf.heap.size := hbf.size
      have OBH : w_16.heap.size ≤ wr2.heap.size := hbr2.size
      obtain ⟨aH, cH, rfl⟩ := cv_form hv
      rw [HN1.out] at hv ⊢
      have HHI := Lib.hid (cv_in hv)
      have HHR := Lib.hid hv
      clear hv
      have f286 : wrf.cell? ⟨w.heap.size, 0, none⟩ = some (.string s0) := (below_cell hb _ _ l279).trans f271
      have f287 : wrf.cell? ⟨w.heap.size, 1, none⟩ = some (v0) := (below_cell hb _ _ l279).trans f272
      have f288 : wrf.cell? ⟨w.heap.size + 1, 0, none⟩ = some (.string s1) := (below_cell hb _ _ l280).trans f273
      have f289 : wrf.cell? ⟨w.heap.size + 1, 1, none⟩ = some (v1) := (below_cell hb _ _ l280).trans f274
      have f290 : wrf.cell? ⟨w_3.heap.size, 0, none⟩ = some (.string s0) := (below_cell hb _ _ l281).trans f275
      have f291 : wrf.cell? ⟨w_3.heap.size, 1, none⟩ = some (.slice aX0 len0 cX0) := (below_cell hb _ _ l281).trans f276
      have f292 : wrf.cell? ⟨w_4.heap.size, 0, none⟩ = some (.string s1) := (below_cell hb _ _ l282).trans f277
      have f293 : wrf.cell? ⟨w_4.heap.size, 1, none⟩ = some (.slice aX1 len1 cX1) := (below_cell hb _ _ l282).trans f278
      have l294 : w.heap.size < wrf.heap.size := Nat.lt_of_lt_of_le l279 (hb).size
      have l295 : w.heap.size + 1 < wrf.heap.size := Nat.lt_of_lt_of_le l280 (hb).size
      have l296 : w_3.heap.size < wrf.heap.size := Nat.lt_of_lt_of_le l281 (hb).size
      have l297 : w_4.heap.size < wrf.heap.size := Nat.lt_of_lt_of_le l282 (hb).size
      clear f271 f272 f273 f274 f275 f276 f277 f278 l279 l280 l281 l282
      have HB298 := Lib.hid (below_of HB285.out hb HB285.out.size)
      have HR299 := Lib.hid (cv_kept hb HR283.out)
      clear HR283
      have HR300 := Lib.hid (cv_kept hb HR284.out)
      clear HR284
      clear hb hbd hbrf hbf HSK hbq0 hbr0 ho0 HI0 hbq1 hbr1 ho1 HI1 hbq2 hbr2 ho2 HI2
      go_wp2_with fail
      refine (eqCuts_at L1 _ _ _ (cv_at HLL.out HHR.out) (cv_at HLL.out HR299.out)).mono ?_
      rintro e w_17 ⟨rfl, hb⟩
      have f301 : w_17.cell? ⟨w.heap.size, 0, none⟩ = some (.string s0) := (below_cell hb _ _ l294).trans f286
      have f302 : w_17.cell? ⟨w.heap.size, 1, none⟩ = some (v0) := (below_cell hb _ _ l294).trans f287
      have f303 : w_17.cell? ⟨w.heap.size + 1, 0, none⟩ = some (.string s1) := (below_cell hb _ _ l295).trans f288
      have f304 : w_17.cell? ⟨w.heap.size + 1, 1, none⟩ = some (v1) := (below_cell hb _ _ l295).trans f289
      have f305 : w_17.cell? ⟨w_3.heap.size, 0, none⟩ = some (.string s0) := (below_cell hb _ _ l296).trans f290
      have f306 : w_17.cell? ⟨w_3.heap.size, 1, none⟩ = some (.slice aX0 len0 cX0) := (below_cell hb _ _ l296).trans f291
      have f307 : w_17.cell? ⟨w_4.heap.size, 0, none⟩ = some (.string s1) := (below_cell hb _ _ l297).trans f292
      have f308 : w_17.cell? ⟨w_4.heap.size, 1, none⟩ = some (.slice aX1 len1 cX1) := (below_cell hb _ _ l297).trans f293
      have l309 : w.heap.size < w_17.heap.size := Nat.lt_of_lt_of_le l294 (hb).size
      have l310 : w.heap.size + 1 < w_17.heap.size := Nat.lt_of_lt_of_le l295 (hb).size
      have l311 : w_3.heap.size < w_17.heap.size := Nat.lt_of_lt_of_le l296 (hb).size
      have l312 : w_4.heap.size < w_17.heap.size := Nat.lt_of_lt_of_le l297 (hb).size
      clear f286 f287 f288 f289 f290 f291 f292 f293 l294 l295 l296 l297
      have HB313 := Lib.hid (below_of HB298.out hb HB298.out.size)
      have HR314 := Lib.hid (cv_kept hb HR299.out)
      clear HR299
      have HR315 := Lib.hid (cv_kept hb HR300.out)
      clear HR300
      have HR316 := Lib.hid (cv_kept hb HHR.out)
      clear HHR
      clear hb 
      go_wp2_with fail
      refine (heldCv_any 1 (by omega) _ n1 _ _ hll HR315.out).mono ?_
      rintro e w_17 ⟨rfl, rfl⟩
      go_wp2
      go_ret
      exact ⟨rfl, HB313.out⟩
    · have HL1 := Lib.hid (show leftP s1.size len1 (1048576 - (T1 : Int)) = -1 by exact leftP_no (by omega))
      clear hI1
      go_enter Try.func9, Try.ntmps9
      go_wp2_with fail
      refine (szProf_v s0 v0 len0 (1048576) _ HV0 hs0 hlen0 (by omega) (by omega)).mono ?_
      rintro e w_18 ⟨rfl, hb⟩
      rw [HL0.out]
      have HBF := Lib.hid (below_of ((below_al _ _).alloc (by simp <;> omega) _) hb (by simp <;> omega))
      have fe1_0 : w_18.cell? ⟨w.heap.size + 1, 0, none⟩ = some (.string s1) := by rw [below_cell hb _ _ (by simp <;> omega)]; go_simp
      have fe1_1 : w_18.cell? ⟨w.heap.size + 1, 1, none⟩ = some (v1) := by rw [below_cell hb _ _ (by simp <;> omega)]; go_simp
      clear hb
      go_wp2_with fail
      refine (szProf_v s1 v1 len1 (1048576 - (T1 : Int)) _ HV1 hs1 hlen1 (by omega) (by omega)).mono ?_
      rintro e w_19 ⟨rfl, hb⟩
      rw [HL1.out]
      have HBF317 := Lib.hid (below_of HBF.out hb HBF.out.size)
      clear hb
      go_wp2
      go_ret
      exact ⟨rfl, HBF317.out⟩
  · have HL0 := Lib.hid (show leftP s0.size len0 (1048576) = -1 by exact leftP_no (by omega))
    clear hI0 hI1
    go_enter Try.func9, Try.ntmps9
    go_wp2_with fail
    refine (szProf_v s0 v0 len0 (1048576) _ HV0 hs0 hlen0 (by omega) (by omega)).mono ?_
    rintro e w_20 ⟨rfl, hb⟩
    rw [HL0.out]
    have HBF := Lib.hid (below_of ((below_al _ _).alloc (by simp <;> omega) _) hb (by simp <;> omega))
    clear hb
    go_wp2
    go_ret
    exact ⟨rfl, HBF.out⟩

set_option maxRecDepth 100000 in
theorem contract (H : Type) (enc : TypeId × Value → H) (W : World) (base : Nat) (args : Array Value) (ds gs : List (DataW H)) (before : List MemPlace)
    (hval : ∀ (j : Nat) t v, Try.f9.params[j]? = some t → args[j]? = some v → Value.okWide Try.prog W .any base t v)
    (hW : DataW.Whole enc Try.prog Try.f9.params.toList Rows.fnExactCutsBetweenSpec.vars false W args.toList ds gs before) :
    Calls Try.prog 9 args W fun e W' => ∃ v, e = .returned v ∧ Rows.fnExactCutsBetweenSpec.post enc Try.prog Try.f9 false true false false W args v W' := by
  have hW' := hW
  obtain ⟨p, q, hA0, hV, rfl, hfz, hnd⟩ := hW
  have hA : DataW.TrodAll enc Try.prog W 0 (fun _ => true) true Try.f9.params.toList args.toList ds p := hA0
  rw [Try.params9] at hA hval
  obtain ⟨v0, vs0, d0, ds0, p0, q0, hargs, rfl, rfl, h0, r0⟩ := trodAll_cons hA
  obtain ⟨v1, vs1, d1, ds1, p1, q1, hargs1, rfl, rfl, h1, r1⟩ := trodAll_cons r0
  subst hargs1
  obtain ⟨v2, vs2, d2, ds2, p2, q2, hargs2, rfl, rfl, h2, r2⟩ := trodAll_cons r1
  subst hargs2
  obtain ⟨rfl, rfl, rfl⟩ := trodAll_nil r2
  obtain rfl : args = #[v0, v1, v2] := by cases args; simp_all
  obtain ⟨rfl, rfl⟩ := trodVars_none hV
  simp only [List.append_nil] at hW'
  have hlt0 : ∀ x ∈ p0, x.block < W.heap.size := fun x hx => hW'.lt x (by simp [hx])
  have kept0 := fun (W2 : World) (hb : Below W.heap.size W W2) => Below.trod laidOut (by kernel_rfl) (of_decide_eq_true (by kernel_rfl)) h0 hb hlt0
  obtain ⟨s0, a0, len0, cap0, rfl, w0, hI0⟩ := prof_arg (hval 0 37 v0 rfl rfl) h0 hlt0
  have hlt1 : ∀ x ∈ p1, x.block < W.heap.size := fun x hx => hW'.lt x (by simp [hx])
  have kept1 := fun (W2 : World) (hb : Below W.heap.size W W2) => Below.trod laidOut (by kernel_rfl) (of_decide_eq_true (by kernel_rfl)) h1 hb hlt1
  obtain ⟨s1, a1, len1, cap1, rfl, w1, hI1⟩ := prof_arg (hval 1 37 v1 rfl rfl) h1 hlt1
  have hlt2 : ∀ x ∈ p2, x.block < W.heap.size := fun x hx => hW'.lt x (by simp [hx])
  have kept2 := fun (W2 : World) (hb : Below W.heap.size W W2) => Below.trod laidOut (by kernel_rfl) (of_decide_eq_true (by kernel_rfl)) h2 hb hlt2
  obtain ⟨a2, len2, cap2, rfl⟩ := okWide_slice Try.underlying22 (hval 2 22 v2 rfl rfl)
  obtain ⟨fuel2, hf2⟩ := h2
  obtain ⟨w2, hI2⟩ := ints_arg hf2 hlt2
  clear hA0
  refine (walk s0 a0 len0 cap0 s1 a1 len1 cap1 a2 len2 cap2 w0 w1 w2 W hI0 hI1 hI2).mono fun e W' ⟨he, hg⟩ => ?_
  subst he
  refine ⟨_, rfl, post_at (pa := p0 ++ (p1 ++ p2)) (pv := []) hW' (by simp) hg (fun _ _ => (trodAll_cons_mk (shut_bool Try.underlying4 _) trodAll_mk0)) ?_ rfl⟩
  have hk := (trodAll_cons_mk (kept0 W' hg) (trodAll_cons_mk (kept1 W' hg) (trodAll_cons_mk (kept2 W' hg) trodAll_mk0)))
  simp only [List.append_nil] at hk
  exact hk

set_option maxRecDepth 100000 in
theorem lifted (os : Os) (started : os.Started) (H : Type) (enc : TypeId × Value → H) :
    ReturnsInHanded {} Try.checked os 9 .any (Rows.fnExactCutsBetweenSpec.pre6 enc Try.prog Try.f9 Rows.fnExactCutsBetweenRow.domain false) (Rows.fnExactCutsBetweenSpec.post enc Try.prog Try.f9 false true false false) := by
  refine returnsInHanded_of_change (C := Try.checked) own started (by kernel_rfl) Try.func9
    (ChangeSpec.witness6 (enc := enc) (C := Try.checked) false ⟨#[], #[.agg #[.string ⟨#[]⟩, .slice none 0 0], .agg #[.string ⟨#[]⟩, .slice none 0 0], .slice none 0 0], []⟩ 8 (by kernel_rfl) (by kernel_rfl) (by kernel_rfl) (by kernel_rfl)) ?_
  intro W base args ds gs before hval0 hW hcnd _
  have hval : ∀ (j : Nat) t v, Try.f9.params[j]? = some t → args[j]? = some v → Value.okWide Try.prog W .any base t v := hval0
  exact contract H enc W base args ds gs before hval hW

theorem over : Rows.fnExactCutsBetweenRow.holds Try.pinned (OpenSpec.ofChange Rows.fnExactCutsBetweenSpec) :=
  OpenClaim.holds_of_wide 9 Try.f9 rfl rfl rfl rfl rfl rfl rfl ⟨rfl, rfl, rfl, rfl, rfl⟩ rfl rfl rfl rfl rfl (by kernel_rfl) Try.func9 (by kernel_rfl)
    (of_decide_eq_true (by kernel_rfl)) (by unfold Func.isWrapper; first | (rw [if_pos (by decide +kernel)]; kernel_rfl) | (rw [if_neg (by decide +kernel)]; exact ⟨rfl, rfl⟩))
    (fun os started H enc _ => lifted os started H enc)
end Go.Proofs.Ytpllmehcndinkaa.fnExactCutsBetween

namespace Go.Proofs.Ytpllmehcndinkaa
/-- The given statement. -/
theorem fnExactCutsBetween_holds : Rows.FnExactCutsBetweenSaid := fnExactCutsBetween.over
#print axioms fnExactCutsBetween_holds
end Go.Proofs.Ytpllmehcndinkaa
