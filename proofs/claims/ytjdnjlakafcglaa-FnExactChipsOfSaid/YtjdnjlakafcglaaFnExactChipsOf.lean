/- At every drawn profile, zones and cuts, ChipsOf answers as the reference model does, the number and the code, and its arguments stay as they were. -/
import Derived.Test.YtjdnjlakafcglaaRows
import Derived.Test.YtjdnjlakafcglaaG1
import Derived.Test.YtjdnjlakafcglaaG2
import Derived.Test.YtjdnjlakafcglaaChips
import Derived.Test.YtjdnjlakafcglaaRingRes
import Derived.Deep.RegionHeld3
namespace Go.Proofs.Ytjdnjlakafcglaa.fnExactChipsOf
open Go.ChangeShapes Go.WideShapes Go.ChangeAt Go.RowKit
open Go.ChangeMaps (open_string shut_string)
set_option linter.unusedVariables false

theorem own : ownKnob Try.prog.godebug = none := by kernel_rfl

set_option maxRecDepth 100000 in
set_option maxHeartbeats 4000000 in
theorem walk (s0 : ByteArray) (p0 : Option Addr) (len0 cap0 : Nat) (p1 : Option Addr) (len1 cap1 : Nat) (p2 : Option Addr) (len2 cap2 : Nat) (w0 : s0.size ≤ 9223372036854775807 ∧ len0 ≤ 9223372036854775807) (w1 : len1 ≤ 9223372036854775807) (w2 : len2 ≤ 9223372036854775807) (w : World) (hI0 : len0 ≤ 1048576 → ∃ zs : List Rg, zs.length = len0 ∧ RingsAt w (.slice p0 len0 cap0) zs) (hI1 : len1 ≤ 1048576 → ∃ zs : List Int, zs.length = len1 ∧ IntsAt w (.slice p1 len1 cap1) zs ∧ ∀ z ∈ zs, (Lit.int .i64 z).wf = true) (hI2 : len2 ≤ 1048576 → ∃ zs : List Ct, zs.length = len2 ∧ CutsAt w (.slice p2 len2 cap2) zs) :
    Calls Try.prog 12 #[.agg #[.string s0, .slice p0 len0 cap0], .slice p1 len1 cap1, .slice p2 len2 cap2] w fun e w' => e = .returned (.bool true) ∧ Below w.heap.size w w' := by
  obtain ⟨hs0, hlen0⟩ := w0
  have hlen1 := w1
  clear w1
  have hlen2 := w2
  clear w2
  by_cases hbz1 : 1048576 < len1
  · clear hI0 hI1 hI2
    go_enter Try.func12, Try.ntmps12
    go_wp2
    go_ret
    exact ⟨rfl, below_al _ _⟩
  obtain ⟨z1, hzn1, hzi1, -⟩ := hI1 (by omega)
  have HZN1 := Lib.hid hzn1
  have HY1 := Lib.hid hzi1
  have HYL1 := Lib.hid (show z1.length ≤ 1048576 by omega)
  clear hzn1 hzi1 hI1
  have HV0 := Lib.hid (show ∃ a' c', Value.slice p0 len0 cap0 = .slice a' len0 c' from ⟨_, _, rfl⟩)
  generalize Value.slice p0 len0 cap0 = v0 at *
  by_cases hbig0 : (s0.size + len0) ≤ 1048576
  · obtain ⟨T1, hT1⟩ : ∃ T, (s0.size + len0) = T := ⟨_, rfl⟩
    have HL0 := Lib.hid (show leftP s0.size len0 (1048576) = 1048576 - (T1 : Int) by rw [leftP_yes (by omega)]; omega)
    have hTb1 : T1 ≤ 1048576 := by omega
    obtain ⟨zs0, hz0, hzs0⟩ := hI0 (by omega)
    have HZ0 := Lib.hid hzs0
    have HN0 := Lib.hid hz0
    have HZL0 := Lib.hid (show zs0.length ≤ 1048576 by omega)
    clear hzs0 hz0 hI0
    have hTl0 : len0 ≤ 1048576 := by omega
    by_cases hbig1 : T1 + (len2) ≤ 1048576
    · obtain ⟨T2, hT2⟩ : ∃ T, T1 + (len2) = T := ⟨_, rfl⟩
      have HL1 := Lib.hid (show (if (1048576 - (T1 : Int)) - (len2 : Int) < 0 then (-1 : Int) else (1048576 - (T1 : Int)) - (len2 : Int)) = 1048576 - (T2 : Int) by rw [if_neg (by omega)]; omega)
      have hTb2 : T2 ≤ 1048576 := by omega
      obtain ⟨z2, hzn2, hzi2⟩ := hI2 (by omega)
      have HZN2 := Lib.hid hzn2
      have HY2 := Lib.hid hzi2
      have HYL2 := Lib.hid (show z2.length ≤ 1048576 by omega)
      clear hzn2 hzi2 hI2
      have hTl2 : len2 ≤ 1048576 := by omega
      clear hT1 hbig0 hT2 hbig1
      obtain ⟨r0, r1, hsp, him⟩ : ∃ (r0 : Int) (r1 : Int), (∀ v0 u1 u2 w, RingsW w v0 zs0 → IntsAt w u1 z1 → CutsAt w u2 z2 → Calls Try.prog 47 #[.agg #[.string s0, v0], u1, u2] w (fun e w' => e = .returned (.tuple #[.int .i64 r0, .int .i64 r1]) ∧ Below w.heap.size w w')) ∧ (∀ v0 u1 u2 w, RingsW w v0 zs0 → IntsAt w u1 z1 → CutsAt w u2 z2 → Calls Try.prog 48 #[.agg #[.string s0, v0], u1, u2] w (fun e w' => e = .returned (.tuple #[.int .i64 r0, .int .i64 r1]) ∧ Below w.heap.size w w')) :=
        ⟨chR s0 zs0 z1 z2, apC s0 zs0 z1 z2, fun v0 u1 u2 w h h1 h2 => specCH_any s0 v0 u1 u2 zs0 z1 z2 w h.1 hs0 h1 h2, fun v0 u1 u2 w h h1 h2 => implCH_any s0 v0 u1 u2 zs0 z1 z2 w h.1 hs0 h1 h2⟩
      have hrr0 : (r0 != r0) = false := by simp
      have hrr1 : (r1 != r1) = false := by simp
      have HSP := Lib.hid hsp
      have HIM := Lib.hid him
      clear hsp him
      go_enter Try.func12, Try.ntmps12
      have f1 : (w.alloc (.cells #[.string s0, v0] 24)).cell? ⟨w.heap.size, 0, none⟩ = some (.string s0) := by go_simp
      have f2 : (w.alloc (.cells #[.string s0, v0] 24)).cell? ⟨w.heap.size, 1, none⟩ = some (v0) := by go_simp
      have l3 : w.heap.size < (w.alloc (.cells #[.string s0, v0] 24)).heap.size := by simp
      have HB4 := Lib.hid ((below_al w (.cells #[.string s0, v0] 24)))
      go_wp2_with fail
      generalize (w.alloc (.cells #[.string s0, v0] 24)) = wb at *
      refine (szProf_v s0 v0 len0 (1048576) _ HV0 hs0 hlen0 (by omega) (by omega)).mono ?_
      rintro e w_1 ⟨rfl, hb⟩
      rw [HL0.out]
      have f5 : w_1.cell? ⟨w.heap.size, 0, none⟩ = some (.string s0) := (below_cell hb _ _ l3).trans f1
      have f6 : w_1.cell? ⟨w.heap.size, 1, none⟩ = some (v0) := (below_cell hb _ _ l3).trans f2
      have l7 : w.heap.size < w_1.heap.size := Nat.lt_of_lt_of_le l3 (hb).size
      clear f1 f2 l3
      have HB8 := Lib.hid (below_of HB4.out hb HB4.out.size)
      clear hb 
      go_wp2_with fail
      refine (szCuts_any _ len2 _ (1048576 - (T1 : Int)) _ hlen2 (by omega) (by omega)).mono ?_
      rintro e w_1 ⟨rfl, rfl⟩
      rw [HL1.out]
      go_wp2_with fail
      refine (toProf_any s0 v0 zs0 _ (rings_kept HB8.out HZ0.out)).mono ?_
      rintro e w_3 ⟨vx0, rfl, ho, hb⟩
      have HO9 := Lib.hid (rvW HZL0.out (rv_of_ownAt ho))
      have f10 : w_3.cell? ⟨w.heap.size, 0, none⟩ = some (.string s0) := (below_cell hb _ _ l7).trans f5
      have f11 : w_3.cell? ⟨w.heap.size, 1, none⟩ = some (v0) := (below_cell hb _ _ l7).trans f6
      have l12 : w.heap.size < w_3.heap.size := Nat.lt_of_lt_of_le l7 (hb).size
      clear f5 f6 l7
      have HB13 := Lib.hid (below_of HB8.out hb HB8.out.size)
      clear hb ho
      go_wp2_with fail
      refine (toInts_any z1 _ _ (ints_kept HB13.out HY1.out)).mono ?_
      rintro e w_4 ⟨vx1, rfl, ho, hb⟩
      have HO14 := Lib.hid (ringsW_kept hb HO9.out)
      have HO15 := Lib.hid (own_ints HYL1.out ho)
      have f16 : w_4.cell? ⟨w.heap.size, 0, none⟩ = some (.string s0) := (below_cell hb _ _ l12).trans f10
      have f17 : w_4.cell? ⟨w.heap.size, 1, none⟩ = some (v0) := (below_cell hb _ _ l12).trans f11
      have l18 : w.heap.size < w_4.heap.size := Nat.lt_of_lt_of_le l12 (hb).size
      clear f10 f11 l12
      have HB19 := Lib.hid (below_of HB13.out hb HB13.out.size)
      clear hb ho
      go_wp2_with fail
      refine (toCuts_any z2 _ _ (cuts_kept HB19.out HY2.out)).mono ?_
      rintro e w_5 ⟨vx2, rfl, ho, hb⟩
      have HO20 := Lib.hid (ringsW_kept hb HO14.out)
      have HO21 := Lib.hid (ints_kept hb HO15.out)
      have HO22 := Lib.hid (own_cuts HYL2.out ho)
      have f23 : w_5.cell? ⟨w.heap.size, 0, none⟩ = some (.string s0) := (below_cell hb _ _ l18).trans f16
      have f24 : w_5.cell? ⟨w.heap.size, 1, none⟩ = some (v0) := (below_cell hb _ _ l18).trans f17
      have l25 : w.heap.size < w_5.heap.size := Nat.lt_of_lt_of_le l18 (hb).size
      clear f16 f17 l18
      have HB26 := Lib.hid (below_of HB19.out hb HB19.out.size)
      clear hb ho
      go_wp2_with fail
      refine (HSP.out vx0 vx1 vx2 _ HO20.out HO21.out HO22.out).mono ?_
      rintro e w_6 ⟨rfl, hb⟩
      have f27 : w_6.cell? ⟨w.heap.size, 0, none⟩ = some (.string s0) := (below_cell hb _ _ l25).trans f23
      have f28 : w_6.cell? ⟨w.heap.size, 1, none⟩ = some (v0) := (below_cell hb _ _ l25).trans f24
      have l29 : w.heap.size < w_6.heap.size := Nat.lt_of_lt_of_le l25 (hb).size
      clear f23 f24 l25
      have HB30 := Lib.hid (below_of HB26.out hb HB26.out.size)
      clear hb 
      go_wp2_with fail
      refine (toProf_any s0 v0 zs0 _ (rings_kept HB30.out HZ0.out)).mono ?_
      rintro e w_7 ⟨vx, rfl, ho, hb⟩
      have HXR0 := rv_of_ownAt ho
      obtain ⟨aX0, cX0, rfl⟩ := rv_form HXR0
      rw [HN0.out] at HXR0 ⊢
      have HX0I := Lib.hid (rv_in HXR0)
      have HX0R := Lib.hid HXR0
      have OX0 : w_6.heap.size ≤ w_7.heap.size := hb.size
      have f31 : w_7.cell? ⟨w.heap.size, 0, none⟩ = some (.string s0) := (below_cell hb _ _ l29).trans f27
      have f32 : w_7.cell? ⟨w.heap.size, 1, none⟩ = some (v0) := (below_cell hb _ _ l29).trans f28
      have l33 : w.heap.size < w_7.heap.size := Nat.lt_of_lt_of_le l29 (hb).size
      clear f27 f28 l29
      have HB34 := Lib.hid (below_of HB30.out hb HB30.out.size)
      clear hb ho HXR0
      have f35 : (w_7.alloc (.cells #[.string s0, .slice aX0 len0 cX0] 30)).cell? ⟨w.heap.size, 0, none⟩ = some (.string s0) := (below_cell (below_al w_7 (.cells #[.string s0, .slice aX0 len0 cX0] 30)) _ _ l33).trans f31
      have f36 : (w_7.alloc (.cells #[.string s0, .slice aX0 len0 cX0] 30)).cell? ⟨w.heap.size, 1, none⟩ = some (v0) := (below_cell (below_al w_7 (.cells #[.string s0, .slice aX0 len0 cX0] 30)) _ _ l33).trans f32
      have l37 : w.heap.size < (w_7.alloc (.cells #[.string s0, .slice aX0 len0 cX0] 30)).heap.size := Nat.lt_of_lt_of_le l33 ((below_al w_7 (.cells #[.string s0, .slice aX0 len0 cX0] 30))).size
      clear f31 f32 l33
      have f38 : (w_7.alloc (.cells #[.string s0, .slice aX0 len0 cX0] 30)).cell? ⟨w_7.heap.size, 0, none⟩ = some (.string s0) := by go_simp
      have f39 : (w_7.alloc (.cells #[.string s0, .slice aX0 len0 cX0] 30)).cell? ⟨w_7.heap.size, 1, none⟩ = some (.slice aX0 len0 cX0) := by go_simp
      have l40 : w_7.heap.size < (w_7.alloc (.cells #[.string s0, .slice aX0 len0 cX0] 30)).heap.size := alloc_lt2 _ _
      have HB41 := Lib.hid (below_of HB34.out (below_al w_7 (.cells #[.string s0, .slice aX0 len0 cX0] 30)) HB34.out.size)
      have HR42 := Lib.hid (rv_kept (below_al w_7 (.cells #[.string s0, .slice aX0 len0 cX0] 30)) HX0R.out)
      clear HX0R
      go_wp2_with fail
      have OXb0 : w_7.heap.size < (w_7.alloc (.cells #[.string s0, .slice aX0 len0 cX0] 30)).heap.size := alloc_lt2 _ _
      generalize (w_7.alloc (.cells #[.string s0, .slice aX0 len0 cX0] 30)) = wb43 at *
      refine (toInts_any z1 _ _ (ints_kept HB41.out HY1.out)).mono ?_
      rintro e w_8 ⟨vx, rfl, ho, hb⟩
      have hv := iv_own ho
      obtain ⟨aZ1, cZ1, rfl⟩ := iv_form hv
      rw [HZN1.out] at hv ⊢
      have HX1I := Lib.hid (iv_in hv)
      have HX1R := Lib.hid hv
      have OX1 : wb43.heap.size ≤ w_8.heap.size := hb.size
      clear hv
      have f44 : w_8.cell? ⟨w.heap.size, 0, none⟩ = some (.string s0) := (below_cell hb _ _ l37).trans f35
      have f45 : w_8.cell? ⟨w.heap.size, 1, none⟩ = some (v0) := (below_cell hb _ _ l37).trans f36
      have f46 : w_8.cell? ⟨w_7.heap.size, 0, none⟩ = some (.string s0) := (below_cell hb _ _ l40).trans f38
      have f47 : w_8.cell? ⟨w_7.heap.size, 1, none⟩ = some (.slice aX0 len0 cX0) := (below_cell hb _ _ l40).trans f39
      have l48 : w.heap.size < w_8.heap.size := Nat.lt_of_lt_of_le l37 (hb).size
      have l49 : w_7.heap.size < w_8.heap.size := Nat.lt_of_lt_of_le l40 (hb).size
      clear f35 f36 f38 f39 l37 l40
      have HB50 := Lib.hid (below_of HB41.out hb HB41.out.size)
      have HR51 := Lib.hid (rv_kept hb HR42.out)
      clear HR42
      clear hb ho
      go_wp2_with fail
      refine (toCuts_any z2 _ _ (cuts_kept HB50.out HY2.out)).mono ?_
      rintro e w_9 ⟨vx, rfl, ho, hb⟩
      have hv := cv_own ho
      obtain ⟨aZ2, cZ2, rfl⟩ := cv_form hv
      rw [HZN2.out] at hv ⊢
      have HX2I := Lib.hid (cv_in hv)
      have HX2R := Lib.hid hv
      have OX2 : w_8.heap.size ≤ w_9.heap.size := hb.size
      clear hv
      have f52 : w_9.cell? ⟨w.heap.size, 0, none⟩ = some (.string s0) := (below_cell hb _ _ l48).trans f44
      have f53 : w_9.cell? ⟨w.heap.size, 1, none⟩ = some (v0) := (below_cell hb _ _ l48).trans f45
      have f54 : w_9.cell? ⟨w_7.heap.size, 0, none⟩ = some (.string s0) := (below_cell hb _ _ l49).trans f46
      have f55 : w_9.cell? ⟨w_7.heap.size, 1, none⟩ = some (.slice aX0 len0 cX0) := (below_cell hb _ _ l49).trans f47
      have l56 : w.heap.size < w_9.heap.size := Nat.lt_of_lt_of_le l48 (hb).size
      have l57 : w_7.heap.size < w_9.heap.size := Nat.lt_of_lt_of_le l49 (hb).size
      clear f44 f45 f46 f47 l48 l49
      have HB58 := Lib.hid (below_of HB50.out hb HB50.out.size)
      have HR59 := Lib.hid (rv_kept hb HR51.out)
      clear HR51
      have HR60 := Lib.hid (iv_kept hb HX1R.out)
      clear HX1R
      clear hb ho
      go_wp2_with fail
      refine (HIM.out _ _ _ _ (rvW HZL0.out HR59.out) (iv_ints HYL1.out HR60.out) (cv_at HYL2.out HX2R.out)).mono ?_
      rintro e w_10 ⟨rfl, hb⟩
      have f61 : w_10.cell? ⟨w.heap.size, 0, none⟩ = some (.string s0) := (below_cell hb _ _ l56).trans f52
      have f62 : w_10.cell? ⟨w.heap.size, 1, none⟩ = some (v0) := (below_cell hb _ _ l56).trans f53
      have f63 : w_10.cell? ⟨w_7.heap.size, 0, none⟩ = some (.string s0) := (below_cell hb _ _ l57).trans f54
      have f64 : w_10.cell? ⟨w_7.heap.size, 1, none⟩ = some (.slice aX0 len0 cX0) := (below_cell hb _ _ l57).trans f55
      have l65 : w.heap.size < w_10.heap.size := Nat.lt_of_lt_of_le l56 (hb).size
      have l66 : w_7.heap.size < w_10.heap.size := Nat.lt_of_lt_of_le l57 (hb).size
      clear f52 f53 f54 f55 l56 l57
      have HB67 := Lib.hid (below_of HB58.out hb HB58.out.size)
      have HR68 := Lib.hid (rv_kept hb HR59.out)
      clear HR59
      have HR69 := Lib.hid (iv_kept hb HR60.out)
      clear HR60
      have HR70 := Lib.hid (cv_kept hb HX2R.out)
      clear HX2R
      clear hb 
      go_wp2
      have hbd : Below w_10.heap.size w_10 w_10.drew := ⟨rfl, rfl, rfl, Nat.le_refl _, fun _ _ => rfl⟩
      have HIv := Lib.hid (rings_kept HB67.out HZ0.out)
      have HXr := Lib.hid (rv_rings HZL0.out HR68.out)
      have HSK := Lib.hid (fun W (hW : Below w_10.heap.size w_10 W) => show W.cell? ⟨w.heap.size, 0, none⟩ = some (.string s0) ∧ W.cell? ⟨w.heap.size, 1, none⟩ = some (v0) ∧ W.cell? ⟨w_7.heap.size, 0, none⟩ = some (.string s0) ∧ W.cell? ⟨w_7.heap.size, 1, none⟩ = some (.slice aX0 len0 cX0) ∧ Below w_10.heap.size w_10 W from ⟨(below_cell hW _ _ l65).trans f61, (below_cell hW _ _ l65).trans f62, (below_cell hW _ _ l66).trans f63, (below_cell hW _ _ l66).trans f64, hW⟩)
      go_region_held3 (fun W => W.cell? ⟨w.heap.size, 0, none⟩ = some (.string s0) ∧ W.cell? ⟨w.heap.size, 1, none⟩ = some (v0) ∧ W.cell? ⟨w_7.heap.size, 0, none⟩ = some (.string s0) ∧ W.cell? ⟨w_7.heap.size, 1, none⟩ = some (.slice aX0 len0 cX0) ∧ Below w_10.heap.size w_10 W)
        (first | exact HSK.out _ hbd | exact HSK.out _ hbr0 | exact HSK.out _ hbrf | assumption)
        (first
          | (go_at_call 17; refine (toProf_any s0 v0 zs0 _ (rings_kept hbd HIv.out)).mono ?_; rintro e wq7 ⟨v7, rfl, ho7, hbq0⟩; have hbr0 := below_of hbd hbq0 hbd.size)
          | (go_at_call 20; refine (eqProf_any s0 _ v7 zs0 _ (rings_kept hbr0 HXr.out) (ownRAt_rings HZL0.out ho7)).mono ?_; rintro e wq8 ⟨rfl, hbf⟩; have hbrf := below_of hbr0 hbf hbr0.size))
      have hb := hbrf
      have f71 : wq8.cell? ⟨w.heap.size, 0, none⟩ = some (.string s0) := (below_cell hb _ _ l65).trans f61
      have f72 : wq8.cell? ⟨w.heap.size, 1, none⟩ = some (v0) := (below_cell hb _ _ l65).trans f62
      have f73 : wq8.cell? ⟨w_7.heap.size, 0, none⟩ = some (.string s0) := (below_cell hb _ _ l66).trans f63
      have f74 : wq8.cell? ⟨w_7.heap.size, 1, none⟩ = some (.slice aX0 len0 cX0) := (below_cell hb _ _ l66).trans f64
      have l75 : w.heap.size < wq8.heap.size := Nat.lt_of_lt_of_le l65 (hb).size
      have l76 : w_7.heap.size < wq8.heap.size := Nat.lt_of_lt_of_le l66 (hb).size
      clear f61 f62 f63 f64 l65 l66
      have HB77 := Lib.hid (below_of HB67.out hb HB67.out.size)
      have HR78 := Lib.hid (rv_kept hb HR68.out)
      clear HR68
      have HR79 := Lib.hid (iv_kept hb HR69.out)
      clear HR69
      have HR80 := Lib.hid (cv_kept hb HR70.out)
      clear HR70
      clear hb hbd hbr0 hbrf hbq0 hbf ho7 HIv HXr HSK
      generalize hw8 : wq8 = w_11 at *
      clear hw8
      go_wp2_with fail
      refine (toInts_any z1 _ _ (ints_kept HB77.out HY1.out)).mono ?_
      rintro e w_12 ⟨vt, rfl, ho, hb⟩
      have HT := Lib.hid (own_ints HYL1.out ho)
      have f81 : w_12.cell? ⟨w.heap.size, 0, none⟩ = some (.string s0) := (below_cell hb _ _ l75).trans f71
      have f82 : w_12.cell? ⟨w.heap.size, 1, none⟩ = some (v0) := (below_cell hb _ _ l75).trans f72
      have f83 : w_12.cell? ⟨w_7.heap.size, 0, none⟩ = some (.string s0) := (below_cell hb _ _ l76).trans f73
      have f84 : w_12.cell? ⟨w_7.heap.size, 1, none⟩ = some (.slice aX0 len0 cX0) := (below_cell hb _ _ l76).trans f74
      have l85 : w.heap.size < w_12.heap.size := Nat.lt_of_lt_of_le l75 (hb).size
      have l86 : w_7.heap.size < w_12.heap.size := Nat.lt_of_lt_of_le l76 (hb).size
      clear f71 f72 f73 f74 l75 l76
      have HB87 := Lib.hid (below_of HB77.out hb HB77.out.size)
      have HR88 := Lib.hid (rv_kept hb HR78.out)
      clear HR78
      have HR89 := Lib.hid (iv_kept hb HR79.out)
      clear HR79
      have HR90 := Lib.hid (cv_kept hb HR80.out)
      clear HR80
      clear hb ho
      go_wp2_with fail
      refine (eqInts_at z1 _ _ _ (iv_ints HYL1.out HR89.out) HT.out).mono ?_
      rintro e w_13 ⟨rfl, hb⟩
      have f91 : w_13.cell? ⟨w.heap.size, 0, none⟩ = some (.string s0) := (below_cell hb _ _ l85).trans f81
      have f92 : w_13.cell? ⟨w.heap.size, 1, none⟩ = some (v0) := (below_cell hb _ _ l85).trans f82
      have f93 : w_13.cell? ⟨w_7.heap.size, 0, none⟩ = some (.string s0) := (below_cell hb _ _ l86).trans f83
      have f94 : w_13.cell? ⟨w_7.heap.size, 1, none⟩ = some (.slice aX0 len0 cX0) := (below_cell hb _ _ l86).trans f84
      have l95 : w.heap.size < w_13.heap.size := Nat.lt_of_lt_of_le l85 (hb).size
      have l96 : w_7.heap.size < w_13.heap.size := Nat.lt_of_lt_of_le l86 (hb).size
      clear f81 f82 f83 f84 l85 l86
      have HB97 := Lib.hid (below_of HB87.out hb HB87.out.size)
      have HR98 := Lib.hid (rv_kept hb HR88.out)
      clear HR88
      have HR99 := Lib.hid (iv_kept hb HR89.out)
      clear HR89
      have HR100 := Lib.hid (cv_kept hb HR90.out)
      clear HR90
      clear hb HT
      go_wp2_with fail
      refine (toCuts_any z2 _ _ (cuts_kept HB97.out HY2.out)).mono ?_
      rintro e w_14 ⟨vt, rfl, ho, hb⟩
      have HT := Lib.hid (own_cuts HYL2.out ho)
      have f101 : w_14.cell? ⟨w.heap.size, 0, none⟩ = some (.string s0) := (below_cell hb _ _ l95).trans f91
      have f102 : w_14.cell? ⟨w.heap.size, 1, none⟩ = some (v0) := (below_cell hb _ _ l95).trans f92
      have f103 : w_14.cell? ⟨w_7.heap.size, 0, none⟩ = some (.string s0) := (below_cell hb _ _ l96).trans f93
      have f104 : w_14.cell? ⟨w_7.heap.size, 1, none⟩ = some (.slice aX0 len0 cX0) := (below_cell hb _ _ l96).trans f94
      have l105 : w.heap.size < w_14.heap.size := Nat.lt_of_lt_of_le l95 (hb).size
      have l106 : w_7.heap.size < w_14.heap.size := Nat.lt_of_lt_of_le l96 (hb).size
      clear f91 f92 f93 f94 l95 l96
      have HB107 := Lib.hid (below_of HB97.out hb HB97.out.size)
      have HR108 := Lib.hid (rv_kept hb HR98.out)
      clear HR98
      have HR109 := Lib.hid (iv_kept hb HR99.out)
      clear HR99
      have HR110 := Lib.hid (cv_kept hb HR100.out)
      clear HR100
      clear hb ho
      go_wp2_with fail
      refine (eqCuts_at z2 _ _ _ (cv_at HYL2.out HR110.out) HT.out).mono ?_
      rintro e w_15 ⟨rfl, hb⟩
      have f111 : w_15.cell? ⟨w.heap.size, 0, none⟩ = some (.string s0) := (below_cell hb _ _ l105).trans f101
      have f112 : w_15.cell? ⟨w.heap.size, 1, none⟩ = some (v0) := (below_cell hb _ _ l105).trans f102
      have f113 : w_15.cell? ⟨w_7.heap.size, 0, none⟩ = some (.string s0) := (below_cell hb _ _ l106).trans f103
      have f114 : w_15.cell? ⟨w_7.heap.size, 1, none⟩ = some (.slice aX0 len0 cX0) := (below_cell hb _ _ l106).trans f104
      have l115 : w.heap.size < w_15.heap.size := Nat.lt_of_lt_of_le l105 (hb).size
      have l116 : w_7.heap.size < w_15.heap.size := Nat.lt_of_lt_of_le l106 (hb).size
      clear f101 f102 f103 f104 l105 l106
      have HB117 := Lib.hid (below_of HB107.out hb HB107.out.size)
      have HR118 := Lib.hid (rv_kept hb HR108.out)
      clear HR108
      have HR119 := Lib.hid (iv_kept hb HR109.out)
      clear HR109
      have HR120 := Lib.hid (cv_kept hb HR110.out)
      clear HR110
      clear hb HT
      go_wp2
      go_ret
      exact ⟨rfl, HB117.out⟩
    · have HL1 := Lib.hid (show (if (1048576 - (T1 : Int)) - (len2 : Int) < 0 then (-1 : Int) else (1048576 - (T1 : Int)) - (len2 : Int)) = -1 by rw [if_pos (by omega)])
      clear hI2
      go_enter Try.func12, Try.ntmps12
      go_wp2_with fail
      refine (szProf_v s0 v0 len0 (1048576) _ HV0 hs0 hlen0 (by omega) (by omega)).mono ?_
      rintro e w_16 ⟨rfl, hb⟩
      rw [HL0.out]
      have HBF := Lib.hid (below_of (below_al _ _) hb (by simp))
      clear hb
      go_wp2_with fail
      refine (szCuts_any _ len2 _ (1048576 - (T1 : Int)) _ hlen2 (by omega) (by omega)).mono ?_
      rintro e wz ⟨rfl, rfl⟩
      rw [HL1.out]
      go_wp2
      go_ret
      exact ⟨rfl, HBF.out⟩
  · have HL0 := Lib.hid (show leftP s0.size len0 (1048576) = -1 by exact leftP_no (by omega))
    clear hI0 hI2
    go_enter Try.func12, Try.ntmps12
    go_wp2_with fail
    refine (szProf_v s0 v0 len0 (1048576) _ HV0 hs0 hlen0 (by omega) (by omega)).mono ?_
    rintro e w_17 ⟨rfl, hb⟩
    rw [HL0.out]
    have HBF := Lib.hid (below_of (below_al _ _) hb (by simp))
    clear hb
    go_wp2
    go_ret
    exact ⟨rfl, HBF.out⟩

set_option maxRecDepth 100000 in
theorem contract (H : Type) (enc : TypeId × Value → H) (W : World) (base : Nat) (args : Array Value) (ds gs : List (DataW H)) (before : List MemPlace)
    (hval : ∀ (j : Nat) t v, Try.f12.params[j]? = some t → args[j]? = some v → Value.okWide Try.prog W .any base t v)
    (hW : DataW.Whole enc Try.prog Try.f12.params.toList Rows.fnExactChipsOfSpec.vars false W args.toList ds gs before) :
    Calls Try.prog 12 args W fun e W' => ∃ v, e = .returned v ∧ Rows.fnExactChipsOfSpec.post enc Try.prog Try.f12 false true false false W args v W' := by
  have hW' := hW
  obtain ⟨p, q, hA0, hV, rfl, hfz, hnd⟩ := hW
  have hA : DataW.TrodAll enc Try.prog W 0 (fun _ => true) true Try.f12.params.toList args.toList ds p := hA0
  rw [Try.params12] at hA hval
  obtain ⟨v0, vs0, d0, ds0, p0, q0, hargs, rfl, rfl, h0, r0⟩ := trodAll_cons hA
  obtain ⟨v1, vs1, d1, ds1, p1, q1, hargs1, rfl, rfl, h1, r1⟩ := trodAll_cons r0
  subst hargs1
  obtain ⟨v2, vs2, d2, ds2, p2, q2, hargs2, rfl, rfl, h2, r2⟩ := trodAll_cons r1
  subst hargs2
  obtain ⟨rfl, rfl, rfl⟩ := trodAll_nil r2
  obtain rfl : args = #[v0, v1, v2] := by cases args; simp_all
  obtain ⟨rfl, rfl⟩ := trodVars_none hV
  simp only [List.append_nil] at hW'
  have hlt0 : ∀ x ∈ p0, x.block < W.heap.size := fun x hx => hW'.lt x (by simp [hx])
  have kept0 := fun (W2 : World) (hb : Below W.heap.size W W2) => Below.trod laidOut (by kernel_rfl) (of_decide_eq_true (by kernel_rfl)) h0 hb hlt0
  obtain ⟨s0, a0, len0, cap0, rfl, w0, hI0⟩ := prof_arg (hval 0 24 v0 rfl rfl) h0 hlt0
  have hlt1 : ∀ x ∈ p1, x.block < W.heap.size := fun x hx => hW'.lt x (by simp [hx])
  have kept1 := fun (W2 : World) (hb : Below W.heap.size W W2) => Below.trod laidOut (by kernel_rfl) (of_decide_eq_true (by kernel_rfl)) h1 hb hlt1
  obtain ⟨a1, len1, cap1, rfl⟩ := okWide_slice Try.underlying25 (hval 1 25 v1 rfl rfl)
  obtain ⟨fuel1, hf1⟩ := h1
  obtain ⟨w1, hI1⟩ := ints_arg hf1 hlt1
  have hlt2 : ∀ x ∈ p2, x.block < W.heap.size := fun x hx => hW'.lt x (by simp [hx])
  have kept2 := fun (W2 : World) (hb : Below W.heap.size W W2) => Below.trod laidOut (by kernel_rfl) (of_decide_eq_true (by kernel_rfl)) h2 hb hlt2
  obtain ⟨a2, len2, cap2, rfl⟩ := okWide_slice Try.underlying39 (hval 2 39 v2 rfl rfl)
  obtain ⟨fuel2, hf2⟩ := h2
  obtain ⟨w2, hI2⟩ := cuts_arg hf2 hlt2
  clear hA0
  refine (walk s0 a0 len0 cap0 a1 len1 cap1 a2 len2 cap2 w0 w1 w2 W hI0 hI1 hI2).mono fun e W' ⟨he, hg⟩ => ?_
  subst he
  refine ⟨_, rfl, post_at (pa := p0 ++ (p1 ++ p2)) (pv := []) hW' (by simp) hg (fun _ _ => (trodAll_cons_mk (shut_bool Try.underlying4 _) trodAll_mk0)) ?_ rfl⟩
  have hk := (trodAll_cons_mk (kept0 W' hg) (trodAll_cons_mk (kept1 W' hg) (trodAll_cons_mk (kept2 W' hg) trodAll_mk0)))
  simp only [List.append_nil] at hk
  exact hk

set_option maxRecDepth 100000 in
theorem lifted (os : Os) (started : os.Started) (H : Type) (enc : TypeId × Value → H) :
    ReturnsInHanded {} Try.checked os 12 .any (Rows.fnExactChipsOfSpec.pre6 enc Try.prog Try.f12 Rows.fnExactChipsOfRow.domain false) (Rows.fnExactChipsOfSpec.post enc Try.prog Try.f12 false true false false) := by
  refine returnsInHanded_of_change (C := Try.checked) own started (by kernel_rfl) Try.func12
    (ChangeSpec.witness6 (enc := enc) (C := Try.checked) false ⟨#[], #[.agg #[.string ⟨#[]⟩, .slice none 0 0], .slice none 0 0, .slice none 0 0], []⟩ 8 (by kernel_rfl) (by kernel_rfl) (by kernel_rfl) (by kernel_rfl)) ?_
  intro W base args ds gs before hval0 hW hcnd _
  have hval : ∀ (j : Nat) t v, Try.f12.params[j]? = some t → args[j]? = some v → Value.okWide Try.prog W .any base t v := hval0
  exact contract H enc W base args ds gs before hval hW

theorem over : Rows.fnExactChipsOfRow.holds Try.pinned (OpenSpec.ofChange Rows.fnExactChipsOfSpec) :=
  OpenClaim.holds_of_wide 12 Try.f12 rfl rfl rfl rfl rfl rfl rfl ⟨rfl, rfl, rfl, rfl, rfl⟩ rfl rfl rfl rfl rfl (by kernel_rfl) Try.func12 (by kernel_rfl)
    (of_decide_eq_true (by kernel_rfl)) (by unfold Func.isWrapper; first | (rw [if_pos (by decide +kernel)]; kernel_rfl) | (rw [if_neg (by decide +kernel)]; exact ⟨rfl, rfl⟩))
    (fun os started H enc _ => lifted os started H enc)
end Go.Proofs.Ytjdnjlakafcglaa.fnExactChipsOf

namespace Go.Proofs.Ytjdnjlakafcglaa
/-- The given statement. -/
theorem fnExactChipsOf_holds : Rows.FnExactChipsOfSaid := fnExactChipsOf.over
#print axioms fnExactChipsOf_holds
end Go.Proofs.Ytjdnjlakafcglaa
