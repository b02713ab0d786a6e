/- At every argument ApplyCuts answers as its model, in memory of its own, and its arguments are as they were. -/
import Derived.Test.YtjdnjlakafcglaaRows
import Derived.Test.YtjdnjlakafcglaaG1
import Derived.Test.YtjdnjlakafcglaaG2
import Derived.Test.YtjdnjlakafcglaaApImpl
import Derived.Test.YtjdnjlakafcglaaRingRes
import Derived.Deep.RegionHeld3
namespace Go.Proofs.Ytjdnjlakafcglaa.fnExactApplyCuts
open Go.ChangeShapes Go.WideShapes Go.ChangeAt Go.RowKit
open Go.ChangeMaps (open_string shut_string)
set_option linter.unusedVariables false

theorem own : ownKnob Try.prog.godebug = none := by kernel_rfl

set_option maxRecDepth 100000 in
set_option maxHeartbeats 4000000 in
theorem walk (s0 : ByteArray) (p0 : Option Addr) (len0 cap0 : Nat) (p1 : Option Addr) (len1 cap1 : Nat) (p2 : Option Addr) (len2 cap2 : Nat) (w0 : s0.size ≤ 9223372036854775807 ∧ len0 ≤ 9223372036854775807) (w1 : len1 ≤ 9223372036854775807) (w2 : len2 ≤ 9223372036854775807) (w : World) (hI0 : len0 ≤ 1048576 → ∃ zs : List Rg, zs.length = len0 ∧ RingsAt w (.slice p0 len0 cap0) zs) (hI1 : len1 ≤ 1048576 → ∃ zs : List Int, zs.length = len1 ∧ IntsAt w (.slice p1 len1 cap1) zs ∧ ∀ z ∈ zs, (Lit.int .i64 z).wf = true) (hI2 : len2 ≤ 1048576 → ∃ zs : List Ct, zs.length = len2 ∧ CutsAt w (.slice p2 len2 cap2) zs) :
    Calls Try.prog 8 #[.agg #[.string s0, .slice p0 len0 cap0], .slice p1 len1 cap1, .slice p2 len2 cap2] w fun e w' => e = .returned (.bool true) ∧ Below w.heap.size w w' := by
  obtain ⟨hs0, hlen0⟩ := w0
  have hlen1 := w1
  clear w1
  have hlen2 := w2
  clear w2
  by_cases hbz1 : 1048576 < len1
  · clear hI0 hI1 hI2
    go_enter Try.func8, Try.ntmps8
    go_wp2
    go_ret
    exact ⟨rfl, below_al _ _⟩
  obtain ⟨z1, hzn1, hzi1, -⟩ := hI1 (by omega)
  have HZN1 := Lib.hid hzn1
  have HY1 := Lib.hid hzi1
  have HYL1 := Lib.hid (show z1.length ≤ 1048576 by omega)
  clear hzn1 hzi1 hI1
  have HV0 := Lib.hid (show ∃ a' c', Value.slice p0 len0 cap0 = .slice a' len0 c' from ⟨_, _, rfl⟩)
  generalize Value.slice p0 len0 cap0 = v0 at *
  by_cases hbig0 : (s0.size + len0) ≤ 1048576
  · obtain ⟨T1, hT1⟩ : ∃ T, (s0.size + len0) = T := ⟨_, rfl⟩
    have HL0 := Lib.hid (show leftP s0.size len0 (1048576) = 1048576 - (T1 : Int) by rw [leftP_yes (by omega)]; omega)
    have hTb1 : T1 ≤ 1048576 := by omega
    obtain ⟨zs0, hz0, hzs0⟩ := hI0 (by omega)
    have HZ0 := Lib.hid hzs0
    have HN0 := Lib.hid hz0
    have HZL0 := Lib.hid (show zs0.length ≤ 1048576 by omega)
    clear hzs0 hz0 hI0
    have hTl0 : len0 ≤ 1048576 := by omega
    by_cases hbig1 : T1 + (len2) ≤ 1048576
    · obtain ⟨T2, hT2⟩ : ∃ T, T1 + (len2) = T := ⟨_, rfl⟩
      have HL1 := Lib.hid (show (if (1048576 - (T1 : Int)) - (len2 : Int) < 0 then (-1 : Int) else (1048576 - (T1 : Int)) - (len2 : Int)) = 1048576 - (T2 : Int) by rw [if_neg (by omega)]; omega)
      have hTb2 : T2 ≤ 1048576 := by omega
      obtain ⟨z2, hzn2, hzi2⟩ := hI2 (by omega)
      have HZN2 := Lib.hid hzn2
      have HY2 := Lib.hid hzi2
      have HYL2 := Lib.hid (show z2.length ≤ 1048576 by omega)
      clear hzn2 hzi2 hI2
      have hTl2 : len2 ≤ 1048576 := by omega
      clear hT1 hbig0 hT2 hbig1
      obtain ⟨n1s, L1, c1, hl1, hsp, him⟩ : ∃ (n1s : ByteArray) (L1 : List Rg) (c1 : Int), L1.length ≤ 64 ∧ (∀ v0 u1 u2 w, RingsW w v0 zs0 → IntsAt w u1 z1 → CutsAt w u2 z2 → Calls Try.prog 35 #[.agg #[.string s0, v0], u1, u2] w (ProfU n1s L1 c1 w)) ∧ (∀ v0 u1 u2 w, RingsW w v0 zs0 → IntsAt w u1 z1 → CutsAt w u2 z2 → Calls Try.prog 36 #[.agg #[.string s0, v0], u1, u2] w (ProfU n1s L1 c1 w)) :=
        ⟨resS s0 (apC s0 zs0 z1 z2), resL (cutT zs0 z1 z2) (apC s0 zs0 z1 z2), apC s0 zs0 z1 z2, ap_len s0 zs0 z1 z2, fun v0 u1 u2 w h h1 h2 => specAC_any s0 v0 u1 u2 zs0 z1 z2 w h.1 hs0 h1 h2, fun v0 u1 u2 w h h1 h2 => implAC_any s0 v0 u1 u2 zs0 z1 z2 w h.1 hs0 h1 h2⟩
      have HSP := Lib.hid hsp
      have HIM := Lib.hid him
      clear hsp him
      obtain ⟨n1, hn1⟩ : ∃ n1, L1.length = n1 := ⟨_, rfl⟩
      have HN1 := Lib.hid hn1
      have HLL := Lib.hid (show L1.length ≤ 1048576 by omega)
      rw [hn1] at hl1
      have hll : n1 ≤ 1048576 := by omega
      clear hn1
      have hcc : (c1 != c1) = false := by simp
      have hq3 : ((1 + 3 * (n1 : Int)) != (1 + 3 * (n1 : Int))) = false := by simp
      have hpos : ¬ (1 + 3 * (n1 : Int)) < 0 := by omega
      have hpos2 : ¬ (1 + 3 * (len0 : Int) + (len1 : Int) + 2 * (len2 : Int)) < 0 := by omega
      go_enter Try.func8, Try.ntmps8
      have f1 : (w.alloc (.cells #[.string s0, v0] 24)).cell? ⟨w.heap.size, 0, none⟩ = some (.string s0) := by go_simp
      have f2 : (w.alloc (.cells #[.string s0, v0] 24)).cell? ⟨w.heap.size, 1, none⟩ = some (v0) := by go_simp
      have l3 : w.heap.size < (w.alloc (.cells #[.string s0, v0] 24)).heap.size := by simp
      have HB4 := Lib.hid ((below_al w (.cells #[.string s0, v0] 24)))
      go_wp2_with fail
      generalize (w.alloc (.cells #[.string s0, v0] 24)) = wb at *
      refine (szProf_v s0 v0 len0 (1048576) _ HV0 hs0 hlen0 (by omega) (by omega)).mono ?_
      rintro e w_1 ⟨rfl, hb⟩
      rw [HL0.out]
      have f5 : w_1.cell? ⟨w.heap.size, 0, none⟩ = some (.string s0) := (below_cell hb _ _ l3).trans f1
      have f6 : w_1.cell? ⟨w.heap.size, 1, none⟩ = some (v0) := (below_cell hb _ _ l3).trans f2
      have l7 : w.heap.size < w_1.heap.size := Nat.lt_of_lt_of_le l3 (hb).size
      clear f1 f2 l3
      have HB8 := Lib.hid (below_of HB4.out hb HB4.out.size)
      clear hb 
      go_wp2_with fail
      refine (szCuts_any _ len2 _ (1048576 - (T1 : Int)) _ hlen2 (by omega) (by omega)).mono ?_
      rintro e w_1 ⟨rfl, rfl⟩
      rw [HL1.out]
      go_wp2_with fail
      refine (toProf_any s0 v0 zs0 _ (rings_kept HB8.out HZ0.out)).mono ?_
      rintro e w_3 ⟨vx0, rfl, ho, hb⟩
      have HO9 := Lib.hid (rvW HZL0.out (rv_of_ownAt ho))
      have f10 : w_3.cell? ⟨w.heap.size, 0, none⟩ = some (.string s0) := (below_cell hb _ _ l7).trans f5
      have f11 : w_3.cell? ⟨w.heap.size, 1, none⟩ = some (v0) := (below_cell hb _ _ l7).trans f6
      have l12 : w.heap.size < w_3.heap.size := Nat.lt_of_lt_of_le l7 (hb).size
      clear f5 f6 l7
      have HB13 := Lib.hid (below_of HB8.out hb HB8.out.size)
      clear hb ho
      go_wp2_with fail
      refine (toInts_any z1 _ _ (ints_kept HB13.out HY1.out)).mono ?_
      rintro e w_4 ⟨vx1, rfl, ho, hb⟩
      have HO14 := Lib.hid (ringsW_kept hb HO9.out)
      have HO15 := Lib.hid (own_ints HYL1.out ho)
      have f16 : w_4.cell? ⟨w.heap.size, 0, none⟩ = some (.string s0) := (below_cell hb _ _ l12).trans f10
      have f17 : w_4.cell? ⟨w.heap.size, 1, none⟩ = some (v0) := (below_cell hb _ _ l12).trans f11
      have l18 : w.heap.size < w_4.heap.size := Nat.lt_of_lt_of_le l12 (hb).size
      clear f10 f11 l12
      have HB19 := Lib.hid (below_of HB13.out hb HB13.out.size)
      clear hb ho
      go_wp2_with fail
      refine (toCuts_any z2 _ _ (cuts_kept HB19.out HY2.out)).mono ?_
      rintro e w_5 ⟨vx2, rfl, ho, hb⟩
      have HO20 := Lib.hid (ringsW_kept hb HO14.out)
      have HO21 := Lib.hid (ints_kept hb HO15.out)
      have HO22 := Lib.hid (own_cuts HYL2.out ho)
      have f23 : w_5.cell? ⟨w.heap.size, 0, none⟩ = some (.string s0) := (below_cell hb _ _ l18).trans f16
      have f24 : w_5.cell? ⟨w.heap.size, 1, none⟩ = some (v0) := (below_cell hb _ _ l18).trans f17
      have l25 : w.heap.size < w_5.heap.size := Nat.lt_of_lt_of_le l18 (hb).size
      clear f16 f17 l18
      have HB26 := Lib.hid (below_of HB19.out hb HB19.out.size)
      clear hb ho
      go_wp2_with fail
      refine (HSP.out vx0 vx1 vx2 _ HO20.out HO21.out HO22.out).mono ?_
      rintro e w_6 ⟨vw, rfl, hv, hb⟩
      have OZ27 : w.heap.size < w_5.heap.size := l25
      have OZ28 : w.heap.size ≤ w_5.heap.size := HB26.out.size
      have OW : w_5.heap.size ≤ w_6.heap.size := hb.size
      obtain ⟨aW, cW, rfl⟩ := rv_form hv
      rw [HN1.out] at hv ⊢
      have HWI := Lib.hid (rv_in hv)
      have HWR := Lib.hid hv
      clear hv
      have f29 : w_6.cell? ⟨w.heap.size, 0, none⟩ = some (.string s0) := (below_cell hb _ _ l25).trans f23
      have f30 : w_6.cell? ⟨w.heap.size, 1, none⟩ = some (v0) := (below_cell hb _ _ l25).trans f24
      have l31 : w.heap.size < w_6.heap.size := Nat.lt_of_lt_of_le l25 (hb).size
      clear f23 f24 l25
      have HB32 := Lib.hid (below_of HB26.out hb HB26.out.size)
      clear hb 
      have f33 : (w_6.alloc (.cells #[.string n1s, .slice aW n1 cW] 30)).cell? ⟨w.heap.size, 0, none⟩ = some (.string s0) := (below_cell (below_al w_6 (.cells #[.string n1s, .slice aW n1 cW] 30)) _ _ l31).trans f29
      have f34 : (w_6.alloc (.cells #[.string n1s, .slice aW n1 cW] 30)).cell? ⟨w.heap.size, 1, none⟩ = some (v0) := (below_cell (below_al w_6 (.cells #[.string n1s, .slice aW n1 cW] 30)) _ _ l31).trans f30
      have l35 : w.heap.size < (w_6.alloc (.cells #[.string n1s, .slice aW n1 cW] 30)).heap.size := Nat.lt_of_lt_of_le l31 ((below_al w_6 (.cells #[.string n1s, .slice aW n1 cW] 30))).size
      clear f29 f30 l31
      have f36 : (w_6.alloc (.cells #[.string n1s, .slice aW n1 cW] 30)).cell? ⟨w_6.heap.size, 0, none⟩ = some (.string n1s) := by go_simp
      have f37 : (w_6.alloc (.cells #[.string n1s, .slice aW n1 cW] 30)).cell? ⟨w_6.heap.size, 1, none⟩ = some (.slice aW n1 cW) := by go_simp
      have l38 : w_6.heap.size < (w_6.alloc (.cells #[.string n1s, .slice aW n1 cW] 30)).heap.size := alloc_lt2 _ _
      have HB39 := Lib.hid (below_of HB32.out (below_al w_6 (.cells #[.string n1s, .slice aW n1 cW] 30)) HB32.out.size)
      have HR40 := Lib.hid (rv_kept (below_al w_6 (.cells #[.string n1s, .slice aW n1 cW] 30)) HWR.out)
      clear HWR
      go_wp2_with fail
      have OWb : w_6.heap.size < (w_6.alloc (.cells #[.string n1s, .slice aW n1 cW] 30)).heap.size := alloc_lt2 _ _
      generalize (w_6.alloc (.cells #[.string n1s, .slice aW n1 cW] 30)) = wb41 at *
      refine (toProf_any s0 v0 zs0 _ (rings_kept HB39.out HZ0.out)).mono ?_
      rintro e w_7 ⟨vx, rfl, ho, hb⟩
      have HXR0 := rv_of_ownAt ho
      obtain ⟨aX0, cX0, rfl⟩ := rv_form HXR0
      rw [HN0.out] at HXR0 ⊢
      have HX0I := Lib.hid (rv_in HXR0)
      have HX0R := Lib.hid HXR0
      have OX0 : wb41.heap.size ≤ w_7.heap.size := hb.size
      have f42 : w_7.cell? ⟨w.heap.size, 0, none⟩ = some (.string s0) := (below_cell hb _ _ l35).trans f33
      have f43 : w_7.cell? ⟨w.heap.size, 1, none⟩ = some (v0) := (below_cell hb _ _ l35).trans f34
      have f44 : w_7.cell? ⟨w_6.heap.size, 0, none⟩ = some (.string n1s) := (below_cell hb _ _ l38).trans f36
      have f45 : w_7.cell? ⟨w_6.heap.size, 1, none⟩ = some (.slice aW n1 cW) := (below_cell hb _ _ l38).trans f37
      have l46 : w.heap.size < w_7.heap.size := Nat.lt_of_lt_of_le l35 (hb).size
      have l47 : w_6.heap.size < w_7.heap.size := Nat.lt_of_lt_of_le l38 (hb).size
      clear f33 f34 f36 f37 l35 l38
      have HB48 := Lib.hid (below_of HB39.out hb HB39.out.size)
      have HR49 := Lib.hid (rv_kept hb HR40.out)
      clear HR40
      clear hb ho HXR0
      have f50 : (w_7.alloc (.cells #[.string s0, .slice aX0 len0 cX0] 30)).cell? ⟨w.heap.size, 0, none⟩ = some (.string s0) := (below_cell (below_al w_7 (.cells #[.string s0, .slice aX0 len0 cX0] 30)) _ _ l46).trans f42
      have f51 : (w_7.alloc (.cells #[.string s0, .slice aX0 len0 cX0] 30)).cell? ⟨w.heap.size, 1, none⟩ = some (v0) := (below_cell (below_al w_7 (.cells #[.string s0, .slice aX0 len0 cX0] 30)) _ _ l46).trans f43
      have f52 : (w_7.alloc (.cells #[.string s0, .slice aX0 len0 cX0] 30)).cell? ⟨w_6.heap.size, 0, none⟩ = some (.string n1s) := (below_cell (below_al w_7 (.cells #[.string s0, .slice aX0 len0 cX0] 30)) _ _ l47).trans f44
      have f53 : (w_7.alloc (.cells #[.string s0, .slice aX0 len0 cX0] 30)).cell? ⟨w_6.heap.size, 1, none⟩ = some (.slice aW n1 cW) := (below_cell (below_al w_7 (.cells #[.string s0, .slice aX0 len0 cX0] 30)) _ _ l47).trans f45
      have l54 : w.heap.size < (w_7.alloc (.cells #[.string s0, .slice aX0 len0 cX0] 30)).heap.size := Nat.lt_of_lt_of_le l46 ((below_al w_7 (.cells #[.string s0, .slice aX0 len0 cX0] 30))).size
      have l55 : w_6.heap.size < (w_7.alloc (.cells #[.string s0, .slice aX0 len0 cX0] 30)).heap.size := Nat.lt_of_lt_of_le l47 ((below_al w_7 (.cells #[.string s0, .slice aX0 len0 cX0] 30))).size
      clear f42 f43 f44 f45 l46 l47
      have f56 : (w_7.alloc (.cells #[.string s0, .slice aX0 len0 cX0] 30)).cell? ⟨w_7.heap.size, 0, none⟩ = some (.string s0) := by go_simp
      have f57 : (w_7.alloc (.cells #[.string s0, .slice aX0 len0 cX0] 30)).cell? ⟨w_7.heap.size, 1, none⟩ = some (.slice aX0 len0 cX0) := by go_simp
      have l58 : w_7.heap.size < (w_7.alloc (.cells #[.string s0, .slice aX0 len0 cX0] 30)).heap.size := alloc_lt2 _ _
      have HB59 := Lib.hid (below_of HB48.out (below_al w_7 (.cells #[.string s0, .slice aX0 len0 cX0] 30)) HB48.out.size)
      have HR60 := Lib.hid (rv_kept (below_al w_7 (.cells #[.string s0, .slice aX0 len0 cX0] 30)) HR49.out)
      clear HR49
      have HR61 := Lib.hid (rv_kept (below_al w_7 (.cells #[.string s0, .slice aX0 len0 cX0] 30)) HX0R.out)
      clear HX0R
      go_wp2_with fail
      have OXb0 : w_7.heap.size < (w_7.alloc (.cells #[.string s0, .slice aX0 len0 cX0] 30)).heap.size := alloc_lt2 _ _
      generalize (w_7.alloc (.cells #[.string s0, .slice aX0 len0 cX0] 30)) = wb62 at *
      refine (toInts_any z1 _ _ (ints_kept HB59.out HY1.out)).mono ?_
      rintro e w_8 ⟨vx, rfl, ho, hb⟩
      have hv := iv_own ho
      obtain ⟨aZ1, cZ1, rfl⟩ := iv_form hv
      rw [HZN1.out] at hv ⊢
      have HX1I := Lib.hid (iv_in hv)
      have HX1R := Lib.hid hv
      have OX1 : wb62.heap.size ≤ w_8.heap.size := hb.size
      clear hv
      have f63 : w_8.cell? ⟨w.heap.size, 0, none⟩ = some (.string s0) := (below_cell hb _ _ l54).trans f50
      have f64 : w_8.cell? ⟨w.heap.size, 1, none⟩ = some (v0) := (below_cell hb _ _ l54).trans f51
      have f65 : w_8.cell? ⟨w_6.heap.size, 0, none⟩ = some (.string n1s) := (below_cell hb _ _ l55).trans f52
      have f66 : w_8.cell? ⟨w_6.heap.size, 1, none⟩ = some (.slice aW n1 cW) := (below_cell hb _ _ l55).trans f53
      have f67 : w_8.cell? ⟨w_7.heap.size, 0, none⟩ = some (.string s0) := (below_cell hb _ _ l58).trans f56
      have f68 : w_8.cell? ⟨w_7.heap.size, 1, none⟩ = some (.slice aX0 len0 cX0) := (below_cell hb _ _ l58).trans f57
      have l69 : w.heap.size < w_8.heap.size := Nat.lt_of_lt_of_le l54 (hb).size
      have l70 : w_6.heap.size < w_8.heap.size := Nat.lt_of_lt_of_le l55 (hb).size
      have l71 : w_7.heap.size < w_8.heap.size := Nat.lt_of_lt_of_le l58 (hb).size
      clear f50 f51 f52 f53 f56 f57 l54 l55 l58
      have HB72 := Lib.hid (below_of HB59.out hb HB59.out.size)
      have HR73 := Lib.hid (rv_kept hb HR60.out)
      clear HR60
      have HR74 := Lib.hid (rv_kept hb HR61.out)
      clear HR61
      clear hb ho
      go_wp2_with fail
      refine (toCuts_any z2 _ _ (cuts_kept HB72.out HY2.out)).mono ?_
      rintro e w_9 ⟨vx, rfl, ho, hb⟩
      have hv := cv_own ho
      obtain ⟨aZ2, cZ2, rfl⟩ := cv_form hv
      rw [HZN2.out] at hv ⊢
      have HX2I := Lib.hid (cv_in hv)
      have HX2R := Lib.hid hv
      have OX2 : w_8.heap.size ≤ w_9.heap.size := hb.size
      clear hv
      have f75 : w_9.cell? ⟨w.heap.size, 0, none⟩ = some (.string s0) := (below_cell hb _ _ l69).trans f63
      have f76 : w_9.cell? ⟨w.heap.size, 1, none⟩ = some (v0) := (below_cell hb _ _ l69).trans f64
      have f77 : w_9.cell? ⟨w_6.heap.size, 0, none⟩ = some (.string n1s) := (below_cell hb _ _ l70).trans f65
      have f78 : w_9.cell? ⟨w_6.heap.size, 1, none⟩ = some (.slice aW n1 cW) := (below_cell hb _ _ l70).trans f66
      have f79 : w_9.cell? ⟨w_7.heap.size, 0, none⟩ = some (.string s0) := (below_cell hb _ _ l71).trans f67
      have f80 : w_9.cell? ⟨w_7.heap.size, 1, none⟩ = some (.slice aX0 len0 cX0) := (below_cell hb _ _ l71).trans f68
      have l81 : w.heap.size < w_9.heap.size := Nat.lt_of_lt_of_le l69 (hb).size
      have l82 : w_6.heap.size < w_9.heap.size := Nat.lt_of_lt_of_le l70 (hb).size
      have l83 : w_7.heap.size < w_9.heap.size := Nat.lt_of_lt_of_le l71 (hb).size
      clear f63 f64 f65 f66 f67 f68 l69 l70 l71
      have HB84 := Lib.hid (below_of HB72.out hb HB72.out.size)
      have HR85 := Lib.hid (rv_kept hb HR73.out)
      clear HR73
      have HR86 := Lib.hid (rv_kept hb HR74.out)
      clear HR74
      have HR87 := Lib.hid (iv_kept hb HX1R.out)
      clear HX1R
      clear hb ho
      go_wp2_with fail
      refine (HIM.out _ _ _ _ (rvW HZL0.out HR86.out) (iv_ints HYL1.out HR87.out) (cv_at HYL2.out HX2R.out)).mono ?_
      rintro e w_10 ⟨vg, rfl, hv, hb⟩
      have OG : w_9.heap.size ≤ w_10.heap.size := hb.size
      obtain ⟨aG, cG, rfl⟩ := rv_form hv
      rw [HN1.out] at hv ⊢
      have HGI := Lib.hid (rv_in hv)
      have HGR := Lib.hid hv
      clear hv
      have f88 : w_10.cell? ⟨w.heap.size, 0, none⟩ = some (.string s0) := (below_cell hb _ _ l81).trans f75
      have f89 : w_10.cell? ⟨w.heap.size, 1, none⟩ = some (v0) := (below_cell hb _ _ l81).trans f76
      have f90 : w_10.cell? ⟨w_6.heap.size, 0, none⟩ = some (.string n1s) := (below_cell hb _ _ l82).trans f77
      have f91 : w_10.cell? ⟨w_6.heap.size, 1, none⟩ = some (.slice aW n1 cW) := (below_cell hb _ _ l82).trans f78
      have f92 : w_10.cell? ⟨w_7.heap.size, 0, none⟩ = some (.string s0) := (below_cell hb _ _ l83).trans f79
      have f93 : w_10.cell? ⟨w_7.heap.size, 1, none⟩ = some (.slice aX0 len0 cX0) := (below_cell hb _ _ l83).trans f80
      have l94 : w.heap.size < w_10.heap.size := Nat.lt_of_lt_of_le l81 (hb).size
      have l95 : w_6.heap.size < w_10.heap.size := Nat.lt_of_lt_of_le l82 (hb).size
      have l96 : w_7.heap.size < w_10.heap.size := Nat.lt_of_lt_of_le l83 (hb).size
      clear f75 f76 f77 f78 f79 f80 l81 l82 l83
      have HB97 := Lib.hid (below_of HB84.out hb HB84.out.size)
      have HR98 := Lib.hid (rv_kept hb HR85.out)
      clear HR85
      have HR99 := Lib.hid (rv_kept hb HR86.out)
      clear HR86
      have HR100 := Lib.hid (iv_kept hb HR87.out)
      clear HR87
      have HR101 := Lib.hid (cv_kept hb HX2R.out)
      clear HX2R
      clear hb 
      have f102 : (w_10.alloc (.cells #[.string n1s, .slice aG n1 cG] 30)).cell? ⟨w.heap.size, 0, none⟩ = some (.string s0) := (below_cell (below_al w_10 (.cells #[.string n1s, .slice aG n1 cG] 30)) _ _ l94).trans f88
      have f103 : (w_10.alloc (.cells #[.string n1s, .slice aG n1 cG] 30)).cell? ⟨w.heap.size, 1, none⟩ = some (v0) := (below_cell (below_al w_10 (.cells #[.string n1s, .slice aG n1 cG] 30)) _ _ l94).trans f89
      have f104 : (w_10.alloc (.cells #[.string n1s, .slice aG n1 cG] 30)).cell? ⟨w_6.heap.size, 0, none⟩ = some (.string n1s) := (below_cell (below_al w_10 (.cells #[.string n1s, .slice aG n1 cG] 30)) _ _ l95).trans f90
      have f105 : (w_10.alloc (.cells #[.string n1s, .slice aG n1 cG] 30)).cell? ⟨w_6.heap.size, 1, none⟩ = some (.slice aW n1 cW) := (below_cell (below_al w_10 (.cells #[.string n1s, .slice aG n1 cG] 30)) _ _ l95).trans f91
      have f106 : (w_10.alloc (.cells #[.string n1s, .slice aG n1 cG] 30)).cell? ⟨w_7.heap.size, 0, none⟩ = some (.string s0) := (below_cell (below_al w_10 (.cells #[.string n1s, .slice aG n1 cG] 30)) _ _ l96).trans f92
      have f107 : (w_10.alloc (.cells #[.string n1s, .slice aG n1 cG] 30)).cell? ⟨w_7.heap.size, 1, none⟩ = some (.slice aX0 len0 cX0) := (below_cell (below_al w_10 (.cells #[.string n1s, .slice aG n1 cG] 30)) _ _ l96).trans f93
      have l108 : w.heap.size < (w_10.alloc (.cells #[.string n1s, .slice aG n1 cG] 30)).heap.size := Nat.lt_of_lt_of_le l94 ((below_al w_10 (.cells #[.string n1s, .slice aG n1 cG] 30))).size
      have l109 : w_6.heap.size < (w_10.alloc (.cells #[.string n1s, .slice aG n1 cG] 30)).heap.size := Nat.lt_of_lt_of_le l95 ((below_al w_10 (.cells #[.string n1s, .slice aG n1 cG] 30))).size
      have l110 : w_7.heap.size < (w_10.alloc (.cells #[.string n1s, .slice aG n1 cG] 30)).heap.size := Nat.lt_of_lt_of_le l96 ((below_al w_10 (.cells #[.string n1s, .slice aG n1 cG] 30))).size
      clear f88 f89 f90 f91 f92 f93 l94 l95 l96
      have f111 : (w_10.alloc (.cells #[.string n1s, .slice aG n1 cG] 30)).cell? ⟨w_10.heap.size, 0, none⟩ = some (.string n1s) := by go_simp
      have f112 : (w_10.alloc (.cells #[.string n1s, .slice aG n1 cG] 30)).cell? ⟨w_10.heap.size, 1, none⟩ = some (.slice aG n1 cG) := by go_simp
      have l113 : w_10.heap.size < (w_10.alloc (.cells #[.string n1s, .slice aG n1 cG] 30)).heap.size := alloc_lt2 _ _
      have HB114 := Lib.hid (below_of HB97.out (below_al w_10 (.cells #[.string n1s, .slice aG n1 cG] 30)) HB97.out.size)
      have HR115 := Lib.hid (rv_kept (below_al w_10 (.cells #[.string n1s, .slice aG n1 cG] 30)) HR98.out)
      clear HR98
      have HR116 := Lib.hid (rv_kept (below_al w_10 (.cells #[.string n1s, .slice aG n1 cG] 30)) HR99.out)
      clear HR99
      have HR117 := Lib.hid (iv_kept (below_al w_10 (.cells #[.string n1s, .slice aG n1 cG] 30)) HR100.out)
      clear HR100
      have HR118 := Lib.hid (cv_kept (below_al w_10 (.cells #[.string n1s, .slice aG n1 cG] 30)) HR101.out)
      clear HR101
      have HR119 := Lib.hid (rv_kept (below_al w_10 (.cells #[.string n1s, .slice aG n1 cG] 30)) HGR.out)
      clear HGR
      go_wp2_with fail
      have OGb : w_10.heap.size < (w_10.alloc (.cells #[.string n1s, .slice aG n1 cG] 30)).heap.size := alloc_lt2 _ _
      generalize (w_10.alloc (.cells #[.string n1s, .slice aG n1 cG] 30)) = wb120 at *
      refine (eqProf_any n1s _ _ L1 _ (rv_rings HLL.out HR119.out) (rv_rings HLL.out HR115.out)).mono ?_
      rintro e w_11 ⟨rfl, hb⟩
      have f121 : w_11.cell? ⟨w.heap.size, 0, none⟩ = some (.string s0) := (below_cell hb _ _ l108).trans f102
      have f122 : w_11.cell? ⟨w.heap.size, 1, none⟩ = some (v0) := (below_cell hb _ _ l108).trans f103
      have f123 : w_11.cell? ⟨w_6.heap.size, 0, none⟩ = some (.string n1s) := (below_cell hb _ _ l109).trans f104
      have f124 : w_11.cell? ⟨w_6.heap.size, 1, none⟩ = some (.slice aW n1 cW) := (below_cell hb _ _ l109).trans f105
      have f125 : w_11.cell? ⟨w_7.heap.size, 0, none⟩ = some (.string s0) := (below_cell hb _ _ l110).trans f106
      have f126 : w_11.cell? ⟨w_7.heap.size, 1, none⟩ = some (.slice aX0 len0 cX0) := (below_cell hb _ _ l110).trans f107
      have f127 : w_11.cell? ⟨w_10.heap.size, 0, none⟩ = some (.string n1s) := (below_cell hb _ _ l113).trans f111
      have f128 : w_11.cell? ⟨w_10.heap.size, 1, none⟩ = some (.slice aG n1 cG) := (below_cell hb _ _ l113).trans f112
      have l129 : w.heap.size < w_11.heap.size := Nat.lt_of_lt_of_le l108 (hb).size
      have l130 : w_6.heap.size < w_11.heap.size := Nat.lt_of_lt_of_le l109 (hb).size
      have l131 : w_7.heap.size < w_11.heap.size := Nat.lt_of_lt_of_le l110 (hb).size
      have l132 : w_10.heap.size < w_11.heap.size := Nat.lt_of_lt_of_le l113 (hb).size
      clear f102 f103 f104 f105 f106 f107 f111 f112 l108 l109 l110 l113
      have HB133 := Lib.hid (below_of HB114.out hb HB114.out.size)
      have HR134 := Lib.hid (rv_kept hb HR115.out)
      clear HR115
      have HR135 := Lib.hid (rv_kept hb HR116.out)
      clear HR116
      have HR136 := Lib.hid (iv_kept hb HR117.out)
      clear HR117
      have HR137 := Lib.hid (cv_kept hb HR118.out)
      clear HR118
      have HR138 := Lib.hid (rv_kept hb HR119.out)
      clear HR119
      clear hb 
      go_wp2
      have hbd : Below w_11.heap.size w_11 w_11.drew := ⟨rfl, rfl, rfl, Nat.le_refl _, fun _ _ => rfl⟩
      have HIv := Lib.hid (rings_kept HB133.out HZ0.out)
      have HXr := Lib.hid (rv_rings HZL0.out HR135.out)
      have HSK := Lib.hid (fun W (hW : Below w_11.heap.size w_11 W) => show W.cell? ⟨w.heap.size, 0, none⟩ = some (.string s0) ∧ W.cell? ⟨w.heap.size, 1, none⟩ = some (v0) ∧ W.cell? ⟨w_7.heap.size, 0, none⟩ = some (.string s0) ∧ W.cell? ⟨w_7.heap.size, 1, none⟩ = some (.slice aX0 len0 cX0) ∧ Below w_11.heap.size w_11 W from ⟨(below_cell hW _ _ l129).trans f121, (below_cell hW _ _ l129).trans f122, (below_cell hW _ _ l131).trans f125, (below_cell hW _ _ l131).trans f126, hW⟩)
      go_region_held3 (fun W => W.cell? ⟨w.heap.size, 0, none⟩ = some (.string s0) ∧ W.cell? ⟨w.heap.size, 1, none⟩ = some (v0) ∧ W.cell? ⟨w_7.heap.size, 0, none⟩ = some (.string s0) ∧ W.cell? ⟨w_7.heap.size, 1, none⟩ = some (.slice aX0 len0 cX0) ∧ Below w_11.heap.size w_11 W)
        (first | exact HSK.out _ hbd | exact HSK.out _ hbr0 | exact HSK.out _ hbrf | assumption)
        (first
          | (go_at_call 17; refine (toProf_any s0 v0 zs0 _ (rings_kept hbd HIv.out)).mono ?_; rintro e wq7 ⟨v7, rfl, ho7, hbq0⟩; have hbr0 := below_of hbd hbq0 hbd.size)
          | (go_at_call 20; refine (eqProf_any s0 _ v7 zs0 _ (rings_kept hbr0 HXr.out) (ownRAt_rings HZL0.out ho7)).mono ?_; rintro e wq8 ⟨rfl, hbf⟩; have hbrf := below_of hbr0 hbf hbr0.size))
      have hb := hbrf
      have f139 : wq8.cell? ⟨w.heap.size, 0, none⟩ = some (.string s0) := (below_cell hb _ _ l129).trans f121
      have f140 : wq8.cell? ⟨w.heap.size, 1, none⟩ = some (v0) := (below_cell hb _ _ l129).trans f122
      have f141 : wq8.cell? ⟨w_6.heap.size, 0, none⟩ = some (.string n1s) := (below_cell hb _ _ l130).trans f123
      have f142 : wq8.cell? ⟨w_6.heap.size, 1, none⟩ = some (.slice aW n1 cW) := (below_cell hb _ _ l130).trans f124
      have f143 : wq8.cell? ⟨w_7.heap.size, 0, none⟩ = some (.string s0) := (below_cell hb _ _ l131).trans f125
      have f144 : wq8.cell? ⟨w_7.heap.size, 1, none⟩ = some (.slice aX0 len0 cX0) := (below_cell hb _ _ l131).trans f126
      have f145 : wq8.cell? ⟨w_10.heap.size, 0, none⟩ = some (.string n1s) := (below_cell hb _ _ l132).trans f127
      have f146 : wq8.cell? ⟨w_10.heap.size, 1, none⟩ = some (.slice aG n1 cG) := (below_cell hb _ _ l132).trans f128
      have l147 : w.heap.size < wq8.heap.size := Nat.lt_of_lt_of_le l129 (hb).size
      have l148 : w_6.heap.size < wq8.heap.size := Nat.lt_of_lt_of_le l130 (hb).size
      have l149 : w_7.heap.size < wq8.heap.size := Nat.lt_of_lt_of_le l131 (hb).size
      have l150 : w_10.heap.size < wq8.heap.size := Nat.lt_of_lt_of_le l132 (hb).size
      clear f121 f122 f123 f124 f125 f126 f127 f128 l129 l130 l131 l132
      have HB151 := Lib.hid (below_of HB133.out hb HB133.out.size)
      have HR152 := Lib.hid (rv_kept hb HR134.out)
      clear HR134
      have HR153 := Lib.hid (rv_kept hb HR135.out)
      clear HR135
      have HR154 := Lib.hid (iv_kept hb HR136.out)
      clear HR136
      have HR155 := Lib.hid (cv_kept hb HR137.out)
      clear HR137
      have HR156 := Lib.hid (rv_kept hb HR138.out)
      clear HR138
      clear hb hbd hbr0 hbrf hbq0 hbf ho7 HIv HXr HSK
      generalize hw8 : wq8 = w_12 at *
      clear hw8
      go_wp2_with fail
      refine (toInts_any z1 _ _ (ints_kept HB151.out HY1.out)).mono ?_
      rintro e w_13 ⟨vt, rfl, ho, hb⟩
      have HT := Lib.hid (own_ints HYL1.out ho)
      have f157 : w_13.cell? ⟨w.heap.size, 0, none⟩ = some (.string s0) := (below_cell hb _ _ l147).trans f139
      have f158 : w_13.cell? ⟨w.heap.size, 1, none⟩ = some (v0) := (below_cell hb _ _ l147).trans f140
      have f159 : w_13.cell? ⟨w_6.heap.size, 0, none⟩ = some (.string n1s) := (below_cell hb _ _ l148).trans f141
      have f160 : w_13.cell? ⟨w_6.heap.size, 1, none⟩ = some (.slice aW n1 cW) := (below_cell hb _ _ l148).trans f142
      have f161 : w_13.cell? ⟨w_7.heap.size, 0, none⟩ = some (.string s0) := (below_cell hb _ _ l149).trans f143
      have f162 : w_13.cell? ⟨w_7.heap.size, 1, none⟩ = some (.slice aX0 len0 cX0) := (below_cell hb _ _ l149).trans f144
      have f163 : w_13.cell? ⟨w_10.heap.size, 0, none⟩ = some (.string n1s) := (below_cell hb _ _ l150).trans f145
      have f164 : w_13.cell? ⟨w_10.heap.size, 1, none⟩ = some (.slice aG n1 cG) := (below_cell hb _ _ l150).trans f146
      have l165 : w.heap.size < w_13.heap.size := Nat.lt_of_lt_of_le l147 (hb).size
      have l166 : w_6.heap.size < w_13.heap.size := Nat.lt_of_lt_of_le l148 (hb).size
      have l167 : w_7.heap.size < w_13.heap.size := Nat.lt_of_lt_of_le l149 (hb).size
      have l168 : w_10.heap.size < w_13.heap.size := Nat.lt_of_lt_of_le l150 (hb).size
      clear f139 f140 f141 f142 f143 f144 f145 f146 l147 l148 l149 l150
      have HB169 := Lib.hid (below_of HB151.out hb HB151.out.size)
      have HR170 := Lib.hid (rv_kept hb HR152.out)
      clear HR152
      have HR171 := Lib.hid (rv_kept hb HR153.out)
      clear HR153
      have HR172 := Lib.hid (iv_kept hb HR154.out)
      clear HR154
      have HR173 := Lib.hid (cv_kept hb HR155.out)
      clear HR155
      have HR174 := Lib.hid (rv_kept hb HR156.out)
      clear HR156
      clear hb ho
      go_wp2_with fail
      refine (eqInts_at z1 _ _ _ (iv_ints HYL1.out HR172.out) HT.out).mono ?_
      rintro e w_14 ⟨rfl, hb⟩
      have f175 : w_14.cell? ⟨w.heap.size, 0, none⟩ = some (.string s0) := (below_cell hb _ _ l165).trans f157
      have f176 : w_14.cell? ⟨w.heap.size, 1, none⟩ = some (v0) := (below_cell hb _ _ l165).trans f158
      have f177 : w_14.cell? ⟨w_6.heap.size, 0, none⟩ = some (.string n1s) := (below_cell hb _ _ l166).trans f159
      have f178 : w_14.cell? ⟨w_6.heap.size, 1, none⟩ = some (.slice aW n1 cW) := (below_cell hb _ _ l166).trans f160
      have f179 : w_14.cell? ⟨w_7.heap.size, 0, none⟩ = some (.string s0) := (below_cell hb _ _ l167).trans f161
      have f180 : w_14.cell? ⟨w_7.heap.size, 1, none⟩ = some (.slice aX0 len0 cX0) := (below_cell hb _ _ l167).trans f162
      have f181 : w_14.cell? ⟨w_10.heap.size, 0, none⟩ = some (.string n1s) := (below_cell hb _ _ l168).trans f163
      have f182 : w_14.cell? ⟨w_10.heap.size, 1, none⟩ = some (.slice aG n1 cG) := (below_cell hb _ _ l168).trans f164
      have l183 : w.heap.size < w_14.heap.size := Nat.lt_of_lt_of_le l165 (hb).size
      have l184 : w_6.heap.size < w_14.heap.size := Nat.lt_of_lt_of_le l166 (hb).size
      have l185 : w_7.heap.size < w_14.heap.size := Nat.lt_of_lt_of_le l167 (hb).size
      have l186 : w_10.heap.size < w_14.heap.size := Nat.lt_of_lt_of_le l168 (hb).size
      clear f157 f158 f159 f160 f161 f162 f163 f164 l165 l166 l167 l168
      have HB187 := Lib.hid (below_of HB169.out hb HB169.out.size)
      have HR188 := Lib.hid (rv_kept hb HR170.out)
      clear HR170
      have HR189 := Lib.hid (rv_kept hb HR171.out)
      clear HR171
      have HR190 := Lib.hid (iv_kept hb HR172.out)
      clear HR172
      have HR191 := Lib.hid (cv_kept hb HR173.out)
      clear HR173
      have HR192 := Lib.hid (rv_kept hb HR174.out)
      clear HR174
      clear hb HT
      go_wp2_with fail
      refine (toCuts_any z2 _ _ (cuts_kept HB187.out HY2.out)).mono ?_
      rintro e w_15 ⟨vt, rfl, ho, hb⟩
      have HT := Lib.hid (own_cuts HYL2.out ho)
      have f193 : w_15.cell? ⟨w.heap.size, 0, none⟩ = some (.string s0) := (below_cell hb _ _ l183).trans f175
      have f194 : w_15.cell? ⟨w.heap.size, 1, none⟩ = some (v0) := (below_cell hb _ _ l183).trans f176
      have f195 : w_15.cell? ⟨w_6.heap.size, 0, none⟩ = some (.string n1s) := (below_cell hb _ _ l184).trans f177
      have f196 : w_15.cell? ⟨w_6.heap.size, 1, none⟩ = some (.slice aW n1 cW) := (below_cell hb _ _ l184).trans f178
      have f197 : w_15.cell? ⟨w_7.heap.size, 0, none⟩ = some (.string s0) := (below_cell hb _ _ l185).trans f179
      have f198 : w_15.cell? ⟨w_7.heap.size, 1, none⟩ = some (.slice aX0 len0 cX0) := (below_cell hb _ _ l185).trans f180
      have f199 : w_15.cell? ⟨w_10.heap.size, 0, none⟩ = some (.string n1s) := (below_cell hb _ _ l186).trans f181
      have f200 : w_15.cell? ⟨w_10.heap.size, 1, none⟩ = some (.slice aG n1 cG) := (below_cell hb _ _ l186).trans f182
      have l201 : w.heap.size < w_15.heap.size := Nat.lt_of_lt_of_le l183 (hb).size
      have l202 : w_6.heap.size < w_15.heap.size := Nat.lt_of_lt_of_le l184 (hb).size
      have l203 : w_7.heap.size < w_15.heap.size := Nat.lt_of_lt_of_le l185 (hb).size
      have l204 : w_10.heap.size < w_15.heap.size := Nat.lt_of_lt_of_le l186 (hb).size
      clear f175 f176 f177 f178 f179 f180 f181 f182 l183 l184 l185 l186
      have HB205 := Lib.hid (below_of HB187.out hb HB187.out.size)
      have HR206 := Lib.hid (rv_kept hb HR188.out)
      clear HR188
      have HR207 := Lib.hid (rv_kept hb HR189.out)
      clear HR189
      have HR208 := Lib.hid (iv_kept hb HR190.out)
      clear HR190
      have HR209 := Lib.hid (cv_kept hb HR191.out)
      clear HR191
      have HR210 := Lib.hid (rv_kept hb HR192.out)
      clear HR192
      clear hb ho
      go_wp2_with fail
      refine (eqCuts_at z2 _ _ _ (cv_at HYL2.out HR209.out) HT.out).mono ?_
      rintro e w_16 ⟨rfl, hb⟩
      have f211 : w_16.cell? ⟨w.heap.size, 0, none⟩ = some (.string s0) := (below_cell hb _ _ l201).trans f193
      have f212 : w_16.cell? ⟨w.heap.size, 1, none⟩ = some (v0) := (below_cell hb _ _ l201).trans f194
      have f213 : w_16.cell? ⟨w_6.heap.size, 0, none⟩ = some (.string n1s) := (below_cell hb _ _ l202).trans f195
      have f214 : w_16.cell? ⟨w_6.heap.size, 1, none⟩ = some (.slice aW n1 cW) := (below_cell hb _ _ l202).trans f196
      have f215 : w_16.cell? ⟨w_7.heap.size, 0, none⟩ = some (.string s0) := (below_cell hb _ _ l203).trans f197
      have f216 : w_16.cell? ⟨w_7.heap.size, 1, none⟩ = some (.slice aX0 len0 cX0) := (below_cell hb _ _ l203).trans f198
      have f217 : w_16.cell? ⟨w_10.heap.size, 0, none⟩ = some (.string n1s) := (below_cell hb _ _ l204).trans f199
      have f218 : w_16.cell? ⟨w_10.heap.size, 1, none⟩ = some (.slice aG n1 cG) := (below_cell hb _ _ l204).trans f200
      have l219 : w.heap.size < w_16.heap.size := Nat.lt_of_lt_of_le l201 (hb).size
      have l220 : w_6.heap.size < w_16.heap.size := Nat.lt_of_lt_of_le l202 (hb).size
      have l221 : w_7.heap.size < w_16.heap.size := Nat.lt_of_lt_of_le l203 (hb).size
      have l222 : w_10.heap.size < w_16.heap.size := Nat.lt_of_lt_of_le l204 (hb).size
      clear f193 f194 f195 f196 f197 f198 f199 f200 l201 l202 l203 l204
      have HB223 := Lib.hid (below_of HB205.out hb HB205.out.size)
      have HR224 := Lib.hid (rv_kept hb HR206.out)
      clear HR206
      have HR225 := Lib.hid (rv_kept hb HR207.out)
      clear HR207
      have HR226 := Lib.hid (iv_kept hb HR208.out)
      clear HR208
      have HR227 := Lib.hid (cv_kept hb HR209.out)
      clear HR209
      have HR228 := Lib.hid (rv_kept hb HR210.out)
      clear HR210
      clear hb HT
      go_wp2_with fail
      refine (markProfM_any (1) (by omega) s0 _ zs0 _ _ HZL0.out HR225.out).mono ?_
      rintro e w_17 ⟨rfl, hv, hg⟩
      rw [HN0.out] at hv ⊢
      have f229 : w_17.cell? ⟨w.heap.size, 0, none⟩ = some (.string s0) := (gb_cell hg _ _ l219 (apart_box HX0I.out (by omega))).trans f211
      have f230 : w_17.cell? ⟨w.heap.size, 1, none⟩ = some (v0) := (gb_cell hg _ _ l219 (apart_box HX0I.out (by omega))).trans f212
      have f231 : w_17.cell? ⟨w_6.heap.size, 0, none⟩ = some (.string n1s) := (gb_cell hg _ _ l220 (apart_box HX0I.out (by omega))).trans f213
      have f232 : w_17.cell? ⟨w_6.heap.size, 1, none⟩ = some (.slice aW n1 cW) := (gb_cell hg _ _ l220 (apart_box HX0I.out (by omega))).trans f214
      have f233 : w_17.cell? ⟨w_7.heap.size, 0, none⟩ = some (.string s0) := (gb_cell hg _ _ l221 (apart_box HX0I.out (by omega))).trans f215
      have f234 : w_17.cell? ⟨w_7.heap.size, 1, none⟩ = some (.slice aX0 len0 cX0) := (gb_cell hg _ _ l221 (apart_box HX0I.out (by omega))).trans f216
      have f235 : w_17.cell? ⟨w_10.heap.size, 0, none⟩ = some (.string n1s) := (gb_cell hg _ _ l222 (apart_box HX0I.out (by omega))).trans f217
      have f236 : w_17.cell? ⟨w_10.heap.size, 1, none⟩ = some (.slice aG n1 cG) := (gb_cell hg _ _ l222 (apart_box HX0I.out (by omega))).trans f218
      have l237 : w.heap.size < w_17.heap.size := Nat.lt_of_lt_of_le l219 hg.size
      have l238 : w_6.heap.size < w_17.heap.size := Nat.lt_of_lt_of_le l220 hg.size
      have l239 : w_7.heap.size < w_17.heap.size := Nat.lt_of_lt_of_le l221 hg.size
      have l240 : w_10.heap.size < w_17.heap.size := Nat.lt_of_lt_of_le l222 hg.size
      have HR241 := Lib.hid (rv_grown hg HR224.out (apart_of HWI.out HX0I.out (by omega)))
      clear HR224
      have HR242 := Lib.hid (iv_grown hg HR226.out (apart_of HX1I.out HX0I.out (by omega)))
      clear HR226
      have HR243 := Lib.hid (cv_grown hg HR227.out (apart_of HX2I.out HX0I.out (by omega)))
      clear HR227
      have HR244 := Lib.hid (rv_grown hg HR228.out (apart_of HGI.out HX0I.out (by omega)))
      clear HR228
      have HR245 := Lib.hid hv
      clear HR225
      have HB246 := Lib.hid (HB223.out.trans (gb_below hg HB223.out.size (fun k hk => by have := HX0I.out k hk; omega)))
      clear hv hg f211 f212 f213 f214 f215 f216 f217 f218 l219 l220 l221 l222
      go_wp2_with fail
      refine (markIv_any (1 + 3 * (len0 : Int)) (by omega) _ z1 _ _ HYL1.out HR242.out).mono ?_
      rintro e w_18 ⟨rfl, hv, hg⟩
      rw [HZN1.out] at hv ⊢
      have f247 : w_18.cell? ⟨w.heap.size, 0, none⟩ = some (.string s0) := (gb_cell hg _ _ l237 (apart_box HX1I.out (by omega))).trans f229
      have f248 : w_18.cell? ⟨w.heap.size, 1, none⟩ = some (v0) := (gb_cell hg _ _ l237 (apart_box HX1I.out (by omega))).trans f230
      have f249 : w_18.cell? ⟨w_6.heap.size, 0, none⟩ = some (.string n1s) := (gb_cell hg _ _ l238 (apart_box HX1I.out (by omega))).trans f231
      have f250 : w_18.cell? ⟨w_6.heap.size, 1, none⟩ = some (.slice aW n1 cW) := (gb_cell hg _ _ l238 (apart_box HX1I.out (by omega))).trans f232
      have f251 : w_18.cell? ⟨w_7.heap.size, 0, none⟩ = some (.string s0) := (gb_cell hg _ _ l239 (apart_box HX1I.out (by omega))).trans f233
      have f252 : w_18.cell? ⟨w_7.heap.size, 1, none⟩ = some (.slice aX0 len0 cX0) := (gb_cell hg _ _ l239 (apart_box HX1I.out (by omega))).trans f234
      have f253 : w_18.cell? ⟨w_10.heap.size, 0, none⟩ = some (.string n1s) := (gb_cell hg _ _ l240 (apart_box HX1I.out (by omega))).trans f235
      have f254 : w_18.cell? ⟨w_10.heap.size, 1, none⟩ = some (.slice aG n1 cG) := (gb_cell hg _ _ l240 (apart_box HX1I.out (by omega))).trans f236
      have l255 : w.heap.size < w_18.heap.size := Nat.lt_of_lt_of_le l237 hg.size
      have l256 : w_6.heap.size < w_18.heap.size := Nat.lt_of_lt_of_le l238 hg.size
      have l257 : w_7.heap.size < w_18.heap.size := Nat.lt_of_lt_of_le l239 hg.size
      have l258 : w_10.heap.size < w_18.heap.size := Nat.lt_of_lt_of_le l240 hg.size
      have HR259 := Lib.hid (rv_grown hg HR241.out (apart_of HWI.out HX1I.out (by omega)))
      clear HR241
      have HR260 := Lib.hid (cv_grown hg HR243.out (apart_of HX2I.out HX1I.out (by omega)))
      clear HR243
      have HR261 := Lib.hid (rv_grown hg HR244.out (apart_of HGI.out HX1I.out (by omega)))
      clear HR244
      have HR262 := Lib.hid hv
      clear HR242
      have HB263 := Lib.hid (HB246.out.trans (gb_below hg HB246.out.size (fun k hk => by have := HX1I.out k hk; omega)))
      clear hv hg f229 f230 f231 f232 f233 f234 f235 f236 l237 l238 l239 l240
      go_wp2_with fail
      refine (markCv_any (1 + 3 * (len0 : Int) + (len1 : Int)) (by omega) _ z2 _ _ HYL2.out HR260.out).mono ?_
      rintro e w_19 ⟨rfl, hv, hg⟩
      rw [HZN2.out] at hv ⊢
      have f264 : w_19.cell? ⟨w.heap.size, 0, none⟩ = some (.string s0) := (gb_cell hg _ _ l255 (apart_box HX2I.out (by omega))).trans f247
      have f265 : w_19.cell? ⟨w.heap.size, 1, none⟩ = some (v0) := (gb_cell hg _ _ l255 (apart_box HX2I.out (by omega))).trans f248
      have f266 : w_19.cell? ⟨w_6.heap.size, 0, none⟩ = some (.string n1s) := (gb_cell hg _ _ l256 (apart_box HX2I.out (by omega))).trans f249
      have f267 : w_19.cell? ⟨w_6.heap.size, 1, none⟩ = some (.slice aW n1 cW) := (gb_cell hg _ _ l256 (apart_box HX2I.out (by omega))).trans f250
      have f268 : w_19.cell? ⟨w_7.heap.size, 0, none⟩ = some (.string s0) := (gb_cell hg _ _ l257 (apart_box HX2I.out (by omega))).trans f251
      have f269 : w_19.cell? ⟨w_7.heap.size, 1, none⟩ = some (.slice aX0 len0 cX0) := (gb_cell hg _ _ l257 (apart_box HX2I.out (by omega))).trans f252
      have f270 : w_19.cell? ⟨w_10.heap.size, 0, none⟩ = some (.string n1s) := (gb_cell hg _ _ l258 (apart_box HX2I.out (by omega))).trans f253
      have f271 : w_19.cell? ⟨w_10.heap.size, 1, none⟩ = some (.slice aG n1 cG) := (gb_cell hg _ _ l258 (apart_box HX2I.out (by omega))).trans f254
      have l272 : w.heap.size < w_19.heap.size := Nat.lt_of_lt_of_le l255 hg.size
      have l273 : w_6.heap.size < w_19.heap.size := Nat.lt_of_lt_of_le l256 hg.size
      have l274 : w_7.heap.size < w_19.heap.size := Nat.lt_of_lt_of_le l257 hg.size
      have l275 : w_10.heap.size < w_19.heap.size := Nat.lt_of_lt_of_le l258 hg.size
      have HR276 := Lib.hid (rv_grown hg HR259.out (apart_of HWI.out HX2I.out (by omega)))
      clear HR259
      have HR277 := Lib.hid (rv_grown hg HR261.out (apart_of HGI.out HX2I.out (by omega)))
      clear HR261
      have HR278 := Lib.hid hv
      clear HR260
      have HB279 := Lib.hid (HB263.out.trans (gb_below hg HB263.out.size (fun k hk => by have := HX2I.out k hk; omega)))
      clear hv hg f247 f248 f249 f250 f251 f252 f253 f254 l255 l256 l257 l258
      go_wp2_with fail
      refine (eqProf_any n1s _ _ L1 _ (rv_rings HLL.out HR277.out) (rv_rings HLL.out HR276.out)).mono ?_
      rintro e w_20 ⟨rfl, hb⟩
      have f280 : w_20.cell? ⟨w.heap.size, 0, none⟩ = some (.string s0) := (below_cell hb _ _ l272).trans f264
      have f281 : w_20.cell? ⟨w.heap.size, 1, none⟩ = some (v0) := (below_cell hb _ _ l272).trans f265
      have f282 : w_20.cell? ⟨w_6.heap.size, 0, none⟩ = some (.string n1s) := (below_cell hb _ _ l273).trans f266
      have f283 : w_20.cell? ⟨w_6.heap.size, 1, none⟩ = some (.slice aW n1 cW) := (below_cell hb _ _ l273).trans f267
      have f284 : w_20.cell? ⟨w_7.heap.size, 0, none⟩ = some (.string s0) := (below_cell hb _ _ l274).trans f268
      have f285 : w_20.cell? ⟨w_7.heap.size, 1, none⟩ = some (.slice aX0 len0 cX0) := (below_cell hb _ _ l274).trans f269
      have f286 : w_20.cell? ⟨w_10.heap.size, 0, none⟩ = some (.string n1s) := (below_cell hb _ _ l275).trans f270
      have f287 : w_20.cell? ⟨w_10.heap.size, 1, none⟩ = some (.slice aG n1 cG) := (below_cell hb _ _ l275).trans f271
      have l288 : w.heap.size < w_20.heap.size := Nat.lt_of_lt_of_le l272 (hb).size
      have l289 : w_6.heap.size < w_20.heap.size := Nat.lt_of_lt_of_le l273 (hb).size
      have l290 : w_7.heap.size < w_20.heap.size := Nat.lt_of_lt_of_le l274 (hb).size
      have l291 : w_10.heap.size < w_20.heap.size := Nat.lt_of_lt_of_le l275 (hb).size
      clear f264 f265 f266 f267 f268 f269 f270 f271 l272 l273 l274 l275
      have HB292 := Lib.hid (below_of HB279.out hb HB279.out.size)
      have HR293 := Lib.hid (rv_kept hb HR276.out)
      clear HR276
      have HR294 := Lib.hid (rv_kept hb HR277.out)
      clear HR277
      clear hb 
      go_wp2_with fail
      refine (markProf_any n1s _ L1 _ _ HLL.out HR294.out).mono ?_
      rintro e w_21 ⟨rfl, hv, hg⟩
      rw [HN1.out] at hv ⊢
      have f295 : w_21.cell? ⟨w.heap.size, 0, none⟩ = some (.string s0) := (gb_cell hg _ _ l288 (apart_box HGI.out (by omega))).trans f280
      have f296 : w_21.cell? ⟨w.heap.size, 1, none⟩ = some (v0) := (gb_cell hg _ _ l288 (apart_box HGI.out (by omega))).trans f281
      have f297 : w_21.cell? ⟨w_6.heap.size, 0, none⟩ = some (.string n1s) := (gb_cell hg _ _ l289 (apart_box HGI.out (by omega))).trans f282
      have f298 : w_21.cell? ⟨w_6.heap.size, 1, none⟩ = some (.slice aW n1 cW) := (gb_cell hg _ _ l289 (apart_box HGI.out (by omega))).trans f283
      have f299 : w_21.cell? ⟨w_7.heap.size, 0, none⟩ = some (.string s0) := (gb_cell hg _ _ l290 (apart_box HGI.out (by omega))).trans f284
      have f300 : w_21.cell? ⟨w_7.heap.size, 1, none⟩ = some (.slice aX0 len0 cX0) := (gb_cell hg _ _ l290 (apart_box HGI.out (by omega))).trans f285
      have f301 : w_21.cell? ⟨w_10.heap.size, 0, none⟩ = some (.string n1s) := (gb_cell hg _ _ l291 (apart_box HGI.out (by omega))).trans f286
      have f302 : w_21.cell? ⟨w_10.heap.size, 1, none⟩ = some (.slice aG n1 cG) := (gb_cell hg _ _ l291 (apart_box HGI.out (by omega))).trans f287
      have l303 : w.heap.size < w_21.heap.size := Nat.lt_of_lt_of_le l288 hg.size
      have l304 : w_6.heap.size < w_21.heap.size := Nat.lt_of_lt_of_le l289 hg.size
      have l305 : w_7.heap.size < w_21.heap.size := Nat.lt_of_lt_of_le l290 hg.size
      have l306 : w_10.heap.size < w_21.heap.size := Nat.lt_of_lt_of_le l291 hg.size
      have HR307 := Lib.hid (rv_grown hg HR293.out (apart_of HWI.out HGI.out (by omega)))
      clear HR293
      have HR308 := Lib.hid hv
      clear HR294
      have HB309 := Lib.hid (HB292.out.trans (gb_below hg HB292.out.size (fun k hk => by have := HGI.out k hk; omega)))
      clear hv hg f280 f281 f282 f283 f284 f285 f286 f287 l288 l289 l290 l291
      go_wp2_with fail
      refine (heldProf_any n1s _ n1 _ _ hll HR308.out).mono ?_
      rintro e w_22 ⟨rfl, hb⟩
      have f310 : w_22.cell? ⟨w.heap.size, 0, none⟩ = some (.string s0) := (below_cell hb _ _ l303).trans f295
      have f311 : w_22.cell? ⟨w.heap.size, 1, none⟩ = some (v0) := (below_cell hb _ _ l303).trans f296
      have f312 : w_22.cell? ⟨w_6.heap.size, 0, none⟩ = some (.string n1s) := (below_cell hb _ _ l304).trans f297
      have f313 : w_22.cell? ⟨w_6.heap.size, 1, none⟩ = some (.slice aW n1 cW) := (below_cell hb _ _ l304).trans f298
      have f314 : w_22.cell? ⟨w_7.heap.size, 0, none⟩ = some (.string s0) := (below_cell hb _ _ l305).trans f299
      have f315 : w_22.cell? ⟨w_7.heap.size, 1, none⟩ = some (.slice aX0 len0 cX0) := (below_cell hb _ _ l305).trans f300
      have f316 : w_22.cell? ⟨w_10.heap.size, 0, none⟩ = some (.string n1s) := (below_cell hb _ _ l306).trans f301
      have f317 : w_22.cell? ⟨w_10.heap.size, 1, none⟩ = some (.slice aG n1 cG) := (below_cell hb _ _ l306).trans f302
      have l318 : w.heap.size < w_22.heap.size := Nat.lt_of_lt_of_le l303 (hb).size
      have l319 : w_6.heap.size < w_22.heap.size := Nat.lt_of_lt_of_le l304 (hb).size
      have l320 : w_7.heap.size < w_22.heap.size := Nat.lt_of_lt_of_le l305 (hb).size
      have l321 : w_10.heap.size < w_22.heap.size := Nat.lt_of_lt_of_le l306 (hb).size
      clear f295 f296 f297 f298 f299 f300 f301 f302 l303 l304 l305 l306
      have HB322 := Lib.hid (below_of HB309.out hb HB309.out.size)
      have HR323 := Lib.hid (rv_kept hb HR307.out)
      clear HR307
      have HR324 := Lib.hid (rv_kept hb HR308.out)
      clear HR308
      clear hb 
      go_wp2_with fail
      refine (toProf_any s0 v0 zs0 _ (rings_kept HB322.out HZ0.out)).mono ?_
      rintro e w_23 ⟨vx0, rfl, ho, hb⟩
      have HO325 := Lib.hid (rvW HZL0.out (rv_of_ownAt ho))
      have f326 : w_23.cell? ⟨w.heap.size, 0, none⟩ = some (.string s0) := (below_cell hb _ _ l318).trans f310
      have f327 : w_23.cell? ⟨w.heap.size, 1, none⟩ = some (v0) := (below_cell hb _ _ l318).trans f311
      have f328 : w_23.cell? ⟨w_6.heap.size, 0, none⟩ = some (.string n1s) := (below_cell hb _ _ l319).trans f312
      have f329 : w_23.cell? ⟨w_6.heap.size, 1, none⟩ = some (.slice aW n1 cW) := (below_cell hb _ _ l319).trans f313
      have f330 : w_23.cell? ⟨w_7.heap.size, 0, none⟩ = some (.string s0) := (below_cell hb _ _ l320).trans f314
      have f331 : w_23.cell? ⟨w_7.heap.size, 1, none⟩ = some (.slice aX0 len0 cX0) := (below_cell hb _ _ l320).trans f315
      have f332 : w_23.cell? ⟨w_10.heap.size, 0, none⟩ = some (.string n1s) := (below_cell hb _ _ l321).trans f316
      have f333 : w_23.cell? ⟨w_10.heap.size, 1, none⟩ = some (.slice aG n1 cG) := (below_cell hb _ _ l321).trans f317
      have l334 : w.heap.size < w_23.heap.size := Nat.lt_of_lt_of_le l318 (hb).size
      have l335 : w_6.heap.size < w_23.heap.size := Nat.lt_of_lt_of_le l319 (hb).size
      have l336 : w_7.heap.size < w_23.heap.size := Nat.lt_of_lt_of_le l320 (hb).size
      have l337 : w_10.heap.size < w_23.heap.size := Nat.lt_of_lt_of_le l321 (hb).size
      clear f310 f311 f312 f313 f314 f315 f316 f317 l318 l319 l320 l321
      have HB338 := Lib.hid (below_of HB322.out hb HB322.out.size)
      have HR339 := Lib.hid (rv_kept hb HR323.out)
      clear HR323
      have HR340 := Lib.hid (rv_kept hb HR324.out)
      clear HR324
      clear hb ho
      go_wp2_with fail
      refine (toInts_any z1 _ _ (ints_kept HB338.out HY1.out)).mono ?_
      rintro e w_24 ⟨vx1, rfl, ho, hb⟩
      have HO341 := Lib.hid (ringsW_kept hb HO325.out)
      have HO342 := Lib.hid (own_ints HYL1.out ho)
      have f343 : w_24.cell? ⟨w.heap.size, 0, none⟩ = some (.string s0) := (below_cell hb _ _ l334).trans f326
      have f344 : w_24.cell? ⟨w.heap.size, 1, none⟩ = some (v0) := (below_cell hb _ _ l334).trans f327
      have f345 : w_24.cell? ⟨w_6.heap.size, 0, none⟩ = some (.string n1s) := (below_cell hb _ _ l335).trans f328
      have f346 : w_24.cell? ⟨w_6.heap.size, 1, none⟩ = some (.slice aW n1 cW) := (below_cell hb _ _ l335).trans f329
      have f347 : w_24.cell? ⟨w_7.heap.size, 0, none⟩ = some (.string s0) := (below_cell hb _ _ l336).trans f330
      have f348 : w_24.cell? ⟨w_7.heap.size, 1, none⟩ = some (.slice aX0 len0 cX0) := (below_cell hb _ _ l336).trans f331
      have f349 : w_24.cell? ⟨w_10.heap.size, 0, none⟩ = some (.string n1s) := (below_cell hb _ _ l337).trans f332
      have f350 : w_24.cell? ⟨w_10.heap.size, 1, none⟩ = some (.slice aG n1 cG) := (below_cell hb _ _ l337).trans f333
      have l351 : w.heap.size < w_24.heap.size := Nat.lt_of_lt_of_le l334 (hb).size
      have l352 : w_6.heap.size < w_24.heap.size := Nat.lt_of_lt_of_le l335 (hb).size
      have l353 : w_7.heap.size < w_24.heap.size := Nat.lt_of_lt_of_le l336 (hb).size
      have l354 : w_10.heap.size < w_24.heap.size := Nat.lt_of_lt_of_le l337 (hb).size
      clear f326 f327 f328 f329 f330 f331 f332 f333 l334 l335 l336 l337
      have HB355 := Lib.hid (below_of HB338.out hb HB338.out.size)
      have HR356 := Lib.hid (rv_kept hb HR339.out)
      clear HR339
      have HR357 := Lib.hid (rv_kept hb HR340.out)
      clear HR340
      clear hb ho
      go_wp2_with fail
      refine (toCuts_any z2 _ _ (cuts_kept HB355.out HY2.out)).mono ?_
      rintro e w_25 ⟨vx2, rfl, ho, hb⟩
      have HO358 := Lib.hid (ringsW_kept hb HO341.out)
      have HO359 := Lib.hid (ints_kept hb HO342.out)
      have HO360 := Lib.hid (own_cuts HYL2.out ho)
      have f361 : w_25.cell? ⟨w.heap.size, 0, none⟩ = some (.string s0) := (below_cell hb _ _ l351).trans f343
      have f362 : w_25.cell? ⟨w.heap.size, 1, none⟩ = some (v0) := (below_cell hb _ _ l351).trans f344
      have f363 : w_25.cell? ⟨w_6.heap.size, 0, none⟩ = some (.string n1s) := (below_cell hb _ _ l352).trans f345
      have f364 : w_25.cell? ⟨w_6.heap.size, 1, none⟩ = some (.slice aW n1 cW) := (below_cell hb _ _ l352).trans f346
      have f365 : w_25.cell? ⟨w_7.heap.size, 0, none⟩ = some (.string s0) := (below_cell hb _ _ l353).trans f347
      have f366 : w_25.cell? ⟨w_7.heap.size, 1, none⟩ = some (.slice aX0 len0 cX0) := (below_cell hb _ _ l353).trans f348
      have f367 : w_25.cell? ⟨w_10.heap.size, 0, none⟩ = some (.string n1s) := (below_cell hb _ _ l354).trans f349
      have f368 : w_25.cell? ⟨w_10.heap.size, 1, none⟩ = some (.slice aG n1 cG) := (below_cell hb _ _ l354).trans f350
      have l369 : w.heap.size < w_25.heap.size := Nat.lt_of_lt_of_le l351 (hb).size
      have l370 : w_6.heap.size < w_25.heap.size := Nat.lt_of_lt_of_le l352 (hb).size
      have l371 : w_7.heap.size < w_25.heap.size := Nat.lt_of_lt_of_le l353 (hb).size
      have l372 : w_10.heap.size < w_25.heap.size := Nat.lt_of_lt_of_le l354 (hb).size
      clear f343 f344 f345 f346 f347 f348 f349 f350 l351 l352 l353 l354
      have HB373 := Lib.hid (below_of HB355.out hb HB355.out.size)
      have HR374 := Lib.hid (rv_kept hb HR356.out)
      clear HR356
      have HR375 := Lib.hid (rv_kept hb HR357.out)
      clear HR357
      clear hb ho
      go_wp2_with fail
      refine (HIM.out vx0 vx1 vx2 _ HO358.out HO359.out HO360.out).mono ?_
      rintro e w_26 ⟨vh, rfl, hv, hb⟩
      have OH : w_25.heap.size ≤ w_26.heap.size := hb.size
      obtain ⟨aH, cH, rfl⟩ := rv_form hv
      rw [HN1.out] at hv ⊢
      have HHI := Lib.hid (rv_in hv)
      have HHR := Lib.hid hv
      clear hv
      have f376 : w_26.cell? ⟨w.heap.size, 0, none⟩ = some (.string s0) := (below_cell hb _ _ l369).trans f361
      have f377 : w_26.cell? ⟨w.heap.size, 1, none⟩ = some (v0) := (below_cell hb _ _ l369).trans f362
      have f378 : w_26.cell? ⟨w_6.heap.size, 0, none⟩ = some (.string n1s) := (below_cell hb _ _ l370).trans f363
      have f379 : w_26.cell? ⟨w_6.heap.size, 1, none⟩ = some (.slice aW n1 cW) := (below_cell hb _ _ l370).trans f364
      have f380 : w_26.cell? ⟨w_7.heap.size, 0, none⟩ = some (.string s0) := (below_cell hb _ _ l371).trans f365
      have f381 : w_26.cell? ⟨w_7.heap.size, 1, none⟩ = some (.slice aX0 len0 cX0) := (below_cell hb _ _ l371).trans f366
      have f382 : w_26.cell? ⟨w_10.heap.size, 0, none⟩ = some (.string n1s) := (below_cell hb _ _ l372).trans f367
      have f383 : w_26.cell? ⟨w_10.heap.size, 1, none⟩ = some (.slice aG n1 cG) := (below_cell hb _ _ l372).trans f368
      have l384 : w.heap.size < w_26.heap.size := Nat.lt_of_lt_of_le l369 (hb).size
      have l385 : w_6.heap.size < w_26.heap.size := Nat.lt_of_lt_of_le l370 (hb).size
      have l386 : w_7.heap.size < w_26.heap.size := Nat.lt_of_lt_of_le l371 (hb).size
      have l387 : w_10.heap.size < w_26.heap.size := Nat.lt_of_lt_of_le l372 (hb).size
      clear f361 f362 f363 f364 f365 f366 f367 f368 l369 l370 l371 l372
      have HB388 := Lib.hid (below_of HB373.out hb HB373.out.size)
      have HR389 := Lib.hid (rv_kept hb HR374.out)
      clear HR374
      have HR390 := Lib.hid (rv_kept hb HR375.out)
      clear HR375
      clear hb 
      have f391 : (w_26.alloc (.cells #[.string n1s, .slice aH n1 cH] 30)).cell? ⟨w.heap.size, 0, none⟩ = some (.string s0) := (below_cell (below_al w_26 (.cells #[.string n1s, .slice aH n1 cH] 30)) _ _ l384).trans f376
      have f392 : (w_26.alloc (.cells #[.string n1s, .slice aH n1 cH] 30)).cell? ⟨w.heap.size, 1, none⟩ = some (v0) := (below_cell (below_al w_26 (.cells #[.string n1s, .slice aH n1 cH] 30)) _ _ l384).trans f377
      have f393 : (w_26.alloc (.cells #[.string n1s, .slice aH n1 cH] 30)).cell? ⟨w_6.heap.size, 0, none⟩ = some (.string n1s) := (below_cell (below_al w_26 (.cells #[.string n1s, .slice aH n1 cH] 30)) _ _ l385).trans f378
      have f394 : (w_26.alloc (.cells #[.string n1s, .slice aH n1 cH] 30)).cell? ⟨w_6.heap.size, 1, none⟩ = some (.slice aW n1 cW) := (below_cell (below_al w_26 (.cells #[.string n1s, .slice aH n1 cH] 30)) _ _ l385).trans f379
      have f395 : (w_26.alloc (.cells #[.string n1s, .slice aH n1 cH] 30)).cell? ⟨w_7.heap.size, 0, none⟩ = some (.string s0) := (below_cell (below_al w_26 (.cells #[.string n1s, .slice aH n1 cH] 30)) _ _ l386).trans f380
      have f396 : (w_26.alloc (.cells #[.string n1s, .slice aH n1 cH] 30)).cell? ⟨w_7.heap.size, 1, none⟩ = some (.slice aX0 len0 cX0) := (below_cell (below_al w_26 (.cells #[.string n1s, .slice aH n1 cH] 30)) _ _ l386).trans f381
      have f397 : (w_26.alloc (.cells #[.string n1s, .slice aH n1 cH] 30)).cell? ⟨w_10.heap.size, 0, none⟩ = some (.string n1s) := (below_cell (below_al w_26 (.cells #[.string n1s, .slice aH n1 cH] 30)) _ _ l387).trans f382
      have f398 : (w_26.alloc (.cells #[.string n1s, .slice aH n1 cH] 30)).cell? ⟨w_10.heap.size, 1, none⟩ = some (.slice aG n1 cG) := (below_cell (below_al w_26 (.cells #[.string n1s, .slice aH n1 cH] 30)) _ _ l387).trans f383
      have l399 : w.heap.size < (w_26.alloc (.cells #[.string n1s, .slice aH n1 cH] 30)).heap.size := Nat.lt_of_lt_of_le l384 ((below_al w_26 (.cells #[.string n1s, .slice aH n1 cH] 30))).size
      have l400 : w_6.heap.size < (w_26.alloc (.cells #[.string n1s, .slice aH n1 cH] 30)).heap.size := Nat.lt_of_lt_of_le l385 ((below_al w_26 (.cells #[.string n1s, .slice aH n1 cH] 30))).size
      have l401 : w_7.heap.size < (w_26.alloc (.cells #[.string n1s, .slice aH n1 cH] 30)).heap.size := Nat.lt_of_lt_of_le l386 ((below_al w_26 (.cells #[.string n1s, .slice aH n1 cH] 30))).size
      have l402 : w_10.heap.size < (w_26.alloc (.cells #[.string n1s, .slice aH n1 cH] 30)).heap.size := Nat.lt_of_lt_of_le l387 ((below_al w_26 (.cells #[.string n1s, .slice aH n1 cH] 30))).size
      clear f376 f377 f378 f379 f380 f381 f382 f383 l384 l385 l386 l387
      have f403 : (w_26.alloc (.cells #[.string n1s, .slice aH n1 cH] 30)).cell? ⟨w_26.heap.size, 0, none⟩ = some (.string n1s) := by go_simp
      have f404 : (w_26.alloc (.cells #[.string n1s, .slice aH n1 cH] 30)).cell? ⟨w_26.heap.size, 1, none⟩ = some (.slice aH n1 cH) := by go_simp
      have l405 : w_26.heap.size < (w_26.alloc (.cells #[.string n1s, .slice aH n1 cH] 30)).heap.size := alloc_lt2 _ _
      have HB406 := Lib.hid (below_of HB388.out (below_al w_26 (.cells #[.string n1s, .slice aH n1 cH] 30)) HB388.out.size)
      have HR407 := Lib.hid (rv_kept (below_al w_26 (.cells #[.string n1s, .slice aH n1 cH] 30)) HR389.out)
      clear HR389
      have HR408 := Lib.hid (rv_kept (below_al w_26 (.cells #[.string n1s, .slice aH n1 cH] 30)) HR390.out)
      clear HR390
      have HR409 := Lib.hid (rv_kept (below_al w_26 (.cells #[.string n1s, .slice aH n1 cH] 30)) HHR.out)
      clear HHR
      go_wp2_with fail
      have OHb : w_26.heap.size < (w_26.alloc (.cells #[.string n1s, .slice aH n1 cH] 30)).heap.size := alloc_lt2 _ _
      generalize (w_26.alloc (.cells #[.string n1s, .slice aH n1 cH] 30)) = wb410 at *
      refine (eqProf_any n1s _ _ L1 _ (rv_rings HLL.out HR409.out) (rv_rings HLL.out HR407.out)).mono ?_
      rintro e w_27 ⟨rfl, hb⟩
      have f411 : w_27.cell? ⟨w.heap.size, 0, none⟩ = some (.string s0) := (below_cell hb _ _ l399).trans f391
      have f412 : w_27.cell? ⟨w.heap.size, 1, none⟩ = some (v0) := (below_cell hb _ _ l399).trans f392
      have f413 : w_27.cell? ⟨w_6.heap.size, 0, none⟩ = some (.string n1s) := (below_cell hb _ _ l400).trans f393
      have f414 : w_27.cell? ⟨w_6.heap.size, 1, none⟩ = some (.slice aW n1 cW) := (below_cell hb _ _ l400).trans f394
      have f415 : w_27.cell? ⟨w_7.heap.size, 0, none⟩ = some (.string s0) := (below_cell hb _ _ l401).trans f395
      have f416 : w_27.cell? ⟨w_7.heap.size, 1, none⟩ = some (.slice aX0 len0 cX0) := (below_cell hb _ _ l401).trans f396
      have f417 : w_27.cell? ⟨w_10.heap.size, 0, none⟩ = some (.string n1s) := (below_cell hb _ _ l402).trans f397
      have f418 : w_27.cell? ⟨w_10.heap.size, 1, none⟩ = some (.slice aG n1 cG) := (below_cell hb _ _ l402).trans f398
      have f419 : w_27.cell? ⟨w_26.heap.size, 0, none⟩ = some (.string n1s) := (below_cell hb _ _ l405).trans f403
      have f420 : w_27.cell? ⟨w_26.heap.size, 1, none⟩ = some (.slice aH n1 cH) := (below_cell hb _ _ l405).trans f404
      have l421 : w.heap.size < w_27.heap.size := Nat.lt_of_lt_of_le l399 (hb).size
      have l422 : w_6.heap.size < w_27.heap.size := Nat.lt_of_lt_of_le l400 (hb).size
      have l423 : w_7.heap.size < w_27.heap.size := Nat.lt_of_lt_of_le l401 (hb).size
      have l424 : w_10.heap.size < w_27.heap.size := Nat.lt_of_lt_of_le l402 (hb).size
      have l425 : w_26.heap.size < w_27.heap.size := Nat.lt_of_lt_of_le l405 (hb).size
      clear f391 f392 f393 f394 f395 f396 f397 f398 f403 f404 l399 l400 l401 l402 l405
      have HB426 := Lib.hid (below_of HB406.out hb HB406.out.size)
      have HR427 := Lib.hid (rv_kept hb HR407.out)
      clear HR407
      have HR428 := Lib.hid (rv_kept hb HR408.out)
      clear HR408
      have HR429 := Lib.hid (rv_kept hb HR409.out)
      clear HR409
      clear hb 
      go_wp2_with fail
      refine (heldProf_any n1s _ n1 _ _ hll HR428.out).mono ?_
      rintro e w_28 ⟨rfl, hb⟩
      have f430 : w_28.cell? ⟨w.heap.size, 0, none⟩ = some (.string s0) := (below_cell hb _ _ l421).trans f411
      have f431 : w_28.cell? ⟨w.heap.size, 1, none⟩ = some (v0) := (below_cell hb _ _ l421).trans f412
      have f432 : w_28.cell? ⟨w_6.heap.size, 0, none⟩ = some (.string n1s) := (below_cell hb _ _ l422).trans f413
      have f433 : w_28.cell? ⟨w_6.heap.size, 1, none⟩ = some (.slice aW n1 cW) := (below_cell hb _ _ l422).trans f414
      have f434 : w_28.cell? ⟨w_7.heap.size, 0, none⟩ = some (.string s0) := (below_cell hb _ _ l423).trans f415
      have f435 : w_28.cell? ⟨w_7.heap.size, 1, none⟩ = some (.slice aX0 len0 cX0) := (below_cell hb _ _ l423).trans f416
      have f436 : w_28.cell? ⟨w_10.heap.size, 0, none⟩ = some (.string n1s) := (below_cell hb _ _ l424).trans f417
      have f437 : w_28.cell? ⟨w_10.heap.size, 1, none⟩ = some (.slice aG n1 cG) := (below_cell hb _ _ l424).trans f418
      have f438 : w_28.cell? ⟨w_26.heap.size, 0, none⟩ = some (.string n1s) := (below_cell hb _ _ l425).trans f419
      have f439 : w_28.cell? ⟨w_26.heap.size, 1, none⟩ = some (.slice aH n1 cH) := (below_cell hb _ _ l425).trans f420
      have l440 : w.heap.size < w_28.heap.size := Nat.lt_of_lt_of_le l421 (hb).size
      have l441 : w_6.heap.size < w_28.heap.size := Nat.lt_of_lt_of_le l422 (hb).size
      have l442 : w_7.heap.size < w_28.heap.size := Nat.lt_of_lt_of_le l423 (hb).size
      have l443 : w_10.heap.size < w_28.heap.size := Nat.lt_of_lt_of_le l424 (hb).size
      have l444 : w_26.heap.size < w_28.heap.size := Nat.lt_of_lt_of_le l425 (hb).size
      clear f411 f412 f413 f414 f415 f416 f417 f418 f419 f420 l421 l422 l423 l424 l425
      have HB445 := Lib.hid (below_of HB426.out hb HB426.out.size)
      have HR446 := Lib.hid (rv_kept hb HR427.out)
      clear HR427
      have HR447 := Lib.hid (rv_kept hb HR428.out)
      clear HR428
      have HR448 := Lib.hid (rv_kept hb HR429.out)
      clear HR429
      clear hb 
      go_wp2
      go_ret
      exact ⟨rfl, HB445.out⟩
    · have HL1 := Lib.hid (show (if (1048576 - (T1 : Int)) - (len2 : Int) < 0 then (-1 : Int) else (1048576 - (T1 : Int)) - (len2 : Int)) = -1 by rw [if_pos (by omega)])
      clear hI2
      go_enter Try.func8, Try.ntmps8
      go_wp2_with fail
      refine (szProf_v s0 v0 len0 (1048576) _ HV0 hs0 hlen0 (by omega) (by omega)).mono ?_
      rintro e w_29 ⟨rfl, hb⟩
      rw [HL0.out]
      have HBF := Lib.hid (below_of (below_al _ _) hb (by simp))
      clear hb
      go_wp2_with fail
      refine (szCuts_any _ len2 _ (1048576 - (T1 : Int)) _ hlen2 (by omega) (by omega)).mono ?_
      rintro e wz ⟨rfl, rfl⟩
      rw [HL1.out]
      go_wp2
      go_ret
      exact ⟨rfl, HBF.out⟩
  · have HL0 := Lib.hid (show leftP s0.size len0 (1048576) = -1 by exact leftP_no (by omega))
    clear hI0 hI2
    go_enter Try.func8, Try.ntmps8
    go_wp2_with fail
    refine (szProf_v s0 v0 len0 (1048576) _ HV0 hs0 hlen0 (by omega) (by omega)).mono ?_
    rintro e w_30 ⟨rfl, hb⟩
    rw [HL0.out]
    have HBF := Lib.hid (below_of (below_al _ _) hb (by simp))
    clear hb
    go_wp2
    go_ret
    exact ⟨rfl, HBF.out⟩

set_option maxRecDepth 100000 in
theorem contract (H : Type) (enc : TypeId × Value → H) (W : World) (base : Nat) (args : Array Value) (ds gs : List (DataW H)) (before : List MemPlace)
    (hval : ∀ (j : Nat) t v, Try.f8.params[j]? = some t → args[j]? = some v → Value.okWide Try.prog W .any base t v)
    (hW : DataW.Whole enc Try.prog Try.f8.params.toList Rows.fnExactApplyCutsSpec.vars false W args.toList ds gs before) :
    Calls Try.prog 8 args W fun e W' => ∃ v, e = .returned v ∧ Rows.fnExactApplyCutsSpec.post enc Try.prog Try.f8 false true false false W args v W' := by
  have hW' := hW
  obtain ⟨p, q, hA0, hV, rfl, hfz, hnd⟩ := hW
  have hA : DataW.TrodAll enc Try.prog W 0 (fun _ => true) true Try.f8.params.toList args.toList ds p := hA0
  rw [Try.params8] at hA hval
  obtain ⟨v0, vs0, d0, ds0, p0, q0, hargs, rfl, rfl, h0, r0⟩ := trodAll_cons hA
  obtain ⟨v1, vs1, d1, ds1, p1, q1, hargs1, rfl, rfl, h1, r1⟩ := trodAll_cons r0
  subst hargs1
  obtain ⟨v2, vs2, d2, ds2, p2, q2, hargs2, rfl, rfl, h2, r2⟩ := trodAll_cons r1
  subst hargs2
  obtain ⟨rfl, rfl, rfl⟩ := trodAll_nil r2
  obtain rfl : args = #[v0, v1, v2] := by cases args; simp_all
  obtain ⟨rfl, rfl⟩ := trodVars_none hV
  simp only [List.append_nil] at hW'
  have hlt0 : ∀ x ∈ p0, x.block < W.heap.size := fun x hx => hW'.lt x (by simp [hx])
  have kept0 := fun (W2 : World) (hb : Below W.heap.size W W2) => Below.trod laidOut (by kernel_rfl) (of_decide_eq_true (by kernel_rfl)) h0 hb hlt0
  obtain ⟨s0, a0, len0, cap0, rfl, w0, hI0⟩ := prof_arg (hval 0 24 v0 rfl rfl) h0 hlt0
  have hlt1 : ∀ x ∈ p1, x.block < W.heap.size := fun x hx => hW'.lt x (by simp [hx])
  have kept1 := fun (W2 : World) (hb : Below W.heap.size W W2) => Below.trod laidOut (by kernel_rfl) (of_decide_eq_true (by kernel_rfl)) h1 hb hlt1
  obtain ⟨a1, len1, cap1, rfl⟩ := okWide_slice Try.underlying25 (hval 1 25 v1 rfl rfl)
  obtain ⟨fuel1, hf1⟩ := h1
  obtain ⟨w1, hI1⟩ := ints_arg hf1 hlt1
  have hlt2 : ∀ x ∈ p2, x.block < W.heap.size := fun x hx => hW'.lt x (by simp [hx])
  have kept2 := fun (W2 : World) (hb : Below W.heap.size W W2) => Below.trod laidOut (by kernel_rfl) (of_decide_eq_true (by kernel_rfl)) h2 hb hlt2
  obtain ⟨a2, len2, cap2, rfl⟩ := okWide_slice Try.underlying39 (hval 2 39 v2 rfl rfl)
  obtain ⟨fuel2, hf2⟩ := h2
  obtain ⟨w2, hI2⟩ := cuts_arg hf2 hlt2
  clear hA0
  refine (walk s0 a0 len0 cap0 a1 len1 cap1 a2 len2 cap2 w0 w1 w2 W hI0 hI1 hI2).mono fun e W' ⟨he, hg⟩ => ?_
  subst he
  refine ⟨_, rfl, post_at (pa := p0 ++ (p1 ++ p2)) (pv := []) hW' (by simp) hg (fun _ _ => (trodAll_cons_mk (shut_bool Try.underlying4 _) trodAll_mk0)) ?_ rfl⟩
  have hk := (trodAll_cons_mk (kept0 W' hg) (trodAll_cons_mk (kept1 W' hg) (trodAll_cons_mk (kept2 W' hg) trodAll_mk0)))
  simp only [List.append_nil] at hk
  exact hk

set_option maxRecDepth 100000 in
theorem lifted (os : Os) (started : os.Started) (H : Type) (enc : TypeId × Value → H) :
    ReturnsInHanded {} Try.checked os 8 .any (Rows.fnExactApplyCutsSpec.pre6 enc Try.prog Try.f8 Rows.fnExactApplyCutsRow.domain false) (Rows.fnExactApplyCutsSpec.post enc Try.prog Try.f8 false true false false) := by
  refine returnsInHanded_of_change (C := Try.checked) own started (by kernel_rfl) Try.func8
    (ChangeSpec.witness6 (enc := enc) (C := Try.checked) false ⟨#[], #[.agg #[.string ⟨#[]⟩, .slice none 0 0], .slice none 0 0, .slice none 0 0], []⟩ 8 (by kernel_rfl) (by kernel_rfl) (by kernel_rfl) (by kernel_rfl)) ?_
  intro W base args ds gs before hval0 hW hcnd _
  have hval : ∀ (j : Nat) t v, Try.f8.params[j]? = some t → args[j]? = some v → Value.okWide Try.prog W .any base t v := hval0
  exact contract H enc W base args ds gs before hval hW

theorem over : Rows.fnExactApplyCutsRow.holds Try.pinned (OpenSpec.ofChange Rows.fnExactApplyCutsSpec) :=
  OpenClaim.holds_of_wide 8 Try.f8 rfl rfl rfl rfl rfl rfl rfl ⟨rfl, rfl, rfl, rfl, rfl⟩ rfl rfl rfl rfl rfl (by kernel_rfl) Try.func8 (by kernel_rfl)
    (of_decide_eq_true (by kernel_rfl)) (by unfold Func.isWrapper; first | (rw [if_pos (by decide +kernel)]; kernel_rfl) | (rw [if_neg (by decide +kernel)]; exact ⟨rfl, rfl⟩))
    (fun os started H enc _ => lifted os started H enc)
end Go.Proofs.Ytjdnjlakafcglaa.fnExactApplyCuts

namespace Go.Proofs.Ytjdnjlakafcglaa
/-- The given statement. -/
theorem fnExactApplyCuts_holds : Rows.FnExactApplyCutsSaid := fnExactApplyCuts.over
#print axioms fnExactApplyCuts_holds
end Go.Proofs.Ytjdnjlakafcglaa
