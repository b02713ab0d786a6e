/- The law FnExactScaleForPitch answers true at every profile and every two pitches and changes nothing: the program's profile of another size and its code are the reference model's, and the profile handed back is shared with nothing. -/
import Derived.Test.YtndmakimkghihabRows
import Derived.Test.YtndmakimkghihabBase
import Derived.Test.YtndmakimkghihabLaidOut
import Derived.Test.YtndmakimkghihabRingRes
import Derived.Test.YtndmakimkghihabProfArg
import Derived.Test.YtndmakimkghihabAppOwn
import Derived.Test.YtndmakimkghihabFitR
import Derived.Deep.RegionHeld3
namespace Go.Proofs.Ytndmakimkghihab.fnExactScaleForPitch
open Go.ChangeShapes Go.WideShapes Go.ChangeAt Go.RowKit
open Go.ChangeMaps (open_string shut_string)
set_option linter.unusedVariables false

theorem own : ownKnob Try.prog.godebug = none := by kernel_rfl

set_option maxRecDepth 100000 in
set_option maxHeartbeats 1200000 in
theorem walk (s : ByteArray) (a : Option Addr) (len cap : Nat) (a1 : Int) (a2 : Int) (w0 : s.size ≤ 9223372036854775807 ∧ len ≤ 9223372036854775807) (w1 : (Lit.int .i64 a1).wf = true) (w2 : (Lit.int .i64 a2).wf = true) (w : World) (hI : len ≤ 1048576 → ∃ zs : List Rg, zs.length = len ∧ RingsAt w (.slice a len cap) zs) :
    Calls Try.prog 4 #[.agg #[.string s, .slice a len cap], .int .i64 a1, .int .i64 a2] w fun e w' => e = .returned (.bool true) ∧ Below w.heap.size w w' := by
  obtain ⟨hs, hlen⟩ := w0
  have bd1 := wf_bd w1
  clear w1
  have bd2 := wf_bd w2
  clear w2
  by_cases hbig : s.size + len ≤ 1048576
  · obtain ⟨zs, hz, hzs⟩ := hI (by omega)
    have HZ := Lib.hid hzs
    have HN := Lib.hid hz
    have HL := Lib.hid (leftP_yes (show ((s.size : Int) + len ≤ 1048576) by omega))
    have hzl : zs.length ≤ 1048576 := by omega
    clear hI hz hzs
    have HV := Lib.hid (show ∃ a' c', Value.slice a len cap = .slice a' len c' from ⟨_, _, rfl⟩)
    generalize Value.slice a len cap = v at *
    obtain ⟨s1, zs1, c1, hl1, hsp, him⟩ : ∃ (s1 : ByteArray) (zs1 : List Rg) (c1 : Int), zs1.length ≤ 64 ∧ (∀ v w, RingsC w v zs → Calls Try.prog 13 #[.agg #[.string s, v], .int .i64 a1, .int .i64 a2] w (ProfU s1 zs1 c1 w)) ∧ (∀ v w, RingsC w v zs → Calls Try.prog 15 #[.agg #[.string s, v], .int .i64 a1, .int .i64 a2] w (ProfU s1 zs1 c1 w)) :=
      ⟨(resS s (fitC s zs a1 a2)), (resL (szL zs a1 a2) (fitC s zs a1 a2)), (fitC s zs a1 a2), fit_len s zs a1 a2, fun v w h => specFit_any s v zs a1 a2 w h.1 hs, fun v w h => implFit_any s v zs a1 a2 w h.1 hs⟩
    have HSP := Lib.hid hsp
    have HIM := Lib.hid him
    clear hsp him
    have hll : zs1.length ≤ 1048576 := by omega
    obtain ⟨n1, hn1⟩ : ∃ n1, zs1.length = n1 := ⟨_, rfl⟩
    have HN1 := Lib.hid hn1
    have HLL := Lib.hid hll
    have HZL := Lib.hid hzl
    rw [hn1] at hl1 hll
    clear hn1 hzl
    have hcc : (c1 != c1) = false := by simp
    have hq3 : ((1 + 3 * (n1 : Int)) != (1 + 3 * (n1 : Int))) = false := by simp
    have hpos : ¬ (1 + 3 * (n1 : Int)) < 0 := by omega
    have hpos2 : ¬ (1 + 3 * (len : Int)) < 0 := by omega
    go_enter Try.func4, Try.ntmps4
    have f1 : (w.alloc (.cells #[.string s, v] 44)).cell? ⟨w.heap.size, 0, none⟩ = some (.string s) := by go_simp
    have f2 : (w.alloc (.cells #[.string s, v] 44)).cell? ⟨w.heap.size, 1, none⟩ = some (v) := by go_simp
    have l3 : w.heap.size < (w.alloc (.cells #[.string s, v] 44)).heap.size := alloc_lt2 _ _
    have HB4 := Lib.hid ((below_al w (.cells #[.string s, v] 44)))
    go_wp2_with fail
    generalize (w.alloc (.cells #[.string s, v] 44)) = wb5 at *
    refine (szProf_v s v len 1048576 _ HV hs hlen (by omega) (by omega)).mono ?_
    rintro e w1 ⟨rfl, hb⟩
    rw [HL.out]
    have f7 : w1.cell? ⟨w.heap.size, 0, none⟩ = some (.string s) := (below_cell hb _ _ l3).trans f1
    have f8 : w1.cell? ⟨w.heap.size, 1, none⟩ = some (v) := (below_cell hb _ _ l3).trans f2
    have l9 : w.heap.size < w1.heap.size := Nat.lt_of_lt_of_le l3 (hb).size
    clear f1 f2 l3
    have HB10 := Lib.hid (below_of HB4.out hb HB4.out.size)
    clear hb 
    go_wp2_with fail
    refine (toProf_any s v zs _ (rings_kept HB10.out HZ.out)).mono ?_
    rintro e w2 ⟨vx, rfl, ho, hb⟩
    have HO2 := Lib.hid (rv_ringsC HZL.out (rv_of_ownAt ho))
    have f11 : w2.cell? ⟨w.heap.size, 0, none⟩ = some (.string s) := (below_cell hb _ _ l9).trans f7
    have f12 : w2.cell? ⟨w.heap.size, 1, none⟩ = some (v) := (below_cell hb _ _ l9).trans f8
    have l13 : w.heap.size < w2.heap.size := Nat.lt_of_lt_of_le l9 (hb).size
    clear f7 f8 l9
    have HB14 := Lib.hid (below_of HB10.out hb HB10.out.size)
    clear hb ho
    have OZ : w.heap.size < w2.heap.size := l13
    go_wp2_with fail
    refine (HSP.out vx _ HO2.out).mono ?_
    rintro e w3 ⟨vw, rfl, hv, hb⟩
    have OW : w2.heap.size ≤ w3.heap.size := hb.size
    obtain ⟨aW, cW, rfl⟩ := rv_form hv
    rw [HN1.out] at hv ⊢
    have HWI := Lib.hid (rv_in hv)
    have HWR := Lib.hid hv
    clear hv
    have f15 : w3.cell? ⟨w.heap.size, 0, none⟩ = some (.string s) := (below_cell hb _ _ l13).trans f11
    have f16 : w3.cell? ⟨w.heap.size, 1, none⟩ = some (v) := (below_cell hb _ _ l13).trans f12
    have l17 : w.heap.size < w3.heap.size := Nat.lt_of_lt_of_le l13 (hb).size
    clear f11 f12 l13
    have HB18 := Lib.hid (below_of HB14.out hb HB14.out.size)
    clear hb 
    have f19 : (w3.alloc (.cells #[.string s1, .slice aW n1 cW] 30)).cell? ⟨w.heap.size, 0, none⟩ = some (.string s) := (below_cell (below_al w3 (.cells #[.string s1, .slice aW n1 cW] 30)) _ _ l17).trans f15
    have f20 : (w3.alloc (.cells #[.string s1, .slice aW n1 cW] 30)).cell? ⟨w.heap.size, 1, none⟩ = some (v) := (below_cell (below_al w3 (.cells #[.string s1, .slice aW n1 cW] 30)) _ _ l17).trans f16
    have l21 : w.heap.size < (w3.alloc (.cells #[.string s1, .slice aW n1 cW] 30)).heap.size := Nat.lt_of_lt_of_le l17 ((below_al w3 (.cells #[.string s1, .slice aW n1 cW] 30))).size
    clear f15 f16 l17
    have f22 : (w3.alloc (.cells #[.string s1, .slice aW n1 cW] 30)).cell? ⟨w3.heap.size, 0, none⟩ = some (.string s1) := by go_simp
    have f23 : (w3.alloc (.cells #[.string s1, .slice aW n1 cW] 30)).cell? ⟨w3.heap.size, 1, none⟩ = some (.slice aW n1 cW) := by go_simp
    have l24 : w3.heap.size < (w3.alloc (.cells #[.string s1, .slice aW n1 cW] 30)).heap.size := alloc_lt2 _ _
    have HB25 := Lib.hid (below_of HB18.out (below_al w3 (.cells #[.string s1, .slice aW n1 cW] 30)) HB18.out.size)
    have HR26 := Lib.hid (rv_kept (below_al w3 (.cells #[.string s1, .slice aW n1 cW] 30)) HWR.out)
    clear HWR
    go_wp2_with fail
    have Ow : w3.heap.size < (w3.alloc (.cells #[.string s1, .slice aW n1 cW] 30)).heap.size := alloc_lt2 _ _
    generalize (w3.alloc (.cells #[.string s1, .slice aW n1 cW] 30)) = wb27 at *
    refine (toProf_any s v zs _ (rings_kept HB25.out HZ.out)).mono ?_
    rintro e w4 ⟨vx, rfl, ho, hb⟩
    have HXR0 := rv_of_ownAt ho
    obtain ⟨aX, cX, rfl⟩ := rv_form HXR0
    rw [HN.out] at HXR0 ⊢
    have HXI := Lib.hid (rv_in HXR0)
    have HXR := Lib.hid HXR0
    have OX : wb27.heap.size ≤ w4.heap.size := hb.size
    have f29 : w4.cell? ⟨w.heap.size, 0, none⟩ = some (.string s) := (below_cell hb _ _ l21).trans f19
    have f30 : w4.cell? ⟨w.heap.size, 1, none⟩ = some (v) := (below_cell hb _ _ l21).trans f20
    have f31 : w4.cell? ⟨w3.heap.size, 0, none⟩ = some (.string s1) := (below_cell hb _ _ l24).trans f22
    have f32 : w4.cell? ⟨w3.heap.size, 1, none⟩ = some (.slice aW n1 cW) := (below_cell hb _ _ l24).trans f23
    have l33 : w.heap.size < w4.heap.size := Nat.lt_of_lt_of_le l21 (hb).size
    have l34 : w3.heap.size < w4.heap.size := Nat.lt_of_lt_of_le l24 (hb).size
    clear f19 f20 f22 f23 l21 l24
    have HB35 := Lib.hid (below_of HB25.out hb HB25.out.size)
    have HR36 := Lib.hid (rv_kept hb HR26.out)
    clear HR26
    clear hb ho HXR0
    have f37 : (w4.alloc (.cells #[.string s, .slice aX len cX] 30)).cell? ⟨w.heap.size, 0, none⟩ = some (.string s) := (below_cell (below_al w4 (.cells #[.string s, .slice aX len cX] 30)) _ _ l33).trans f29
    have f38 : (w4.alloc (.cells #[.string s, .slice aX len cX] 30)).cell? ⟨w.heap.size, 1, none⟩ = some (v) := (below_cell (below_al w4 (.cells #[.string s, .slice aX len cX] 30)) _ _ l33).trans f30
    have f39 : (w4.alloc (.cells #[.string s, .slice aX len cX] 30)).cell? ⟨w3.heap.size, 0, none⟩ = some (.string s1) := (below_cell (below_al w4 (.cells #[.string s, .slice aX len cX] 30)) _ _ l34).trans f31
    have f40 : (w4.alloc (.cells #[.string s, .slice aX len cX] 30)).cell? ⟨w3.heap.size, 1, none⟩ = some (.slice aW n1 cW) := (below_cell (below_al w4 (.cells #[.string s, .slice aX len cX] 30)) _ _ l34).trans f32
    have l41 : w.heap.size < (w4.alloc (.cells #[.string s, .slice aX len cX] 30)).heap.size := Nat.lt_of_lt_of_le l33 ((below_al w4 (.cells #[.string s, .slice aX len cX] 30))).size
    have l42 : w3.heap.size < (w4.alloc (.cells #[.string s, .slice aX len cX] 30)).heap.size := Nat.lt_of_lt_of_le l34 ((below_al w4 (.cells #[.string s, .slice aX len cX] 30))).size
    clear f29 f30 f31 f32 l33 l34
    have f43 : (w4.alloc (.cells #[.string s, .slice aX len cX] 30)).cell? ⟨w4.heap.size, 0, none⟩ = some (.string s) := by go_simp
    have f44 : (w4.alloc (.cells #[.string s, .slice aX len cX] 30)).cell? ⟨w4.heap.size, 1, none⟩ = some (.slice aX len cX) := by go_simp
    have l45 : w4.heap.size < (w4.alloc (.cells #[.string s, .slice aX len cX] 30)).heap.size := alloc_lt2 _ _
    have HB46 := Lib.hid (below_of HB35.out (below_al w4 (.cells #[.string s, .slice aX len cX] 30)) HB35.out.size)
    have HR47 := Lib.hid (rv_kept (below_al w4 (.cells #[.string s, .slice aX len cX] 30)) HR36.out)
    clear HR36
    have HR48 := Lib.hid (rv_kept (below_al w4 (.cells #[.string s, .slice aX len cX] 30)) HXR.out)
    clear HXR
    go_wp2_with fail
    have Ox : w4.heap.size < (w4.alloc (.cells #[.string s, .slice aX len cX] 30)).heap.size := alloc_lt2 _ _
    generalize (w4.alloc (.cells #[.string s, .slice aX len cX] 30)) = wb49 at *
    refine (HIM.out _ _ (rv_ringsC HZL.out HR48.out)).mono ?_
    rintro e w5 ⟨vg, rfl, hv, hb⟩
    obtain ⟨aG, cG, rfl⟩ := rv_form hv
    rw [HN1.out] at hv ⊢
    have HGI := Lib.hid (rv_in hv)
    have HGR := Lib.hid hv
    clear hv
    have OG : wb49.heap.size ≤ w5.heap.size := hb.size
    have f51 : w5.cell? ⟨w.heap.size, 0, none⟩ = some (.string s) := (below_cell hb _ _ l41).trans f37
    have f52 : w5.cell? ⟨w.heap.size, 1, none⟩ = some (v) := (below_cell hb _ _ l41).trans f38
    have f53 : w5.cell? ⟨w3.heap.size, 0, none⟩ = some (.string s1) := (below_cell hb _ _ l42).trans f39
    have f54 : w5.cell? ⟨w3.heap.size, 1, none⟩ = some (.slice aW n1 cW) := (below_cell hb _ _ l42).trans f40
    have f55 : w5.cell? ⟨w4.heap.size, 0, none⟩ = some (.string s) := (below_cell hb _ _ l45).trans f43
    have f56 : w5.cell? ⟨w4.heap.size, 1, none⟩ = some (.slice aX len cX) := (below_cell hb _ _ l45).trans f44
    have l57 : w.heap.size < w5.heap.size := Nat.lt_of_lt_of_le l41 (hb).size
    have l58 : w3.heap.size < w5.heap.size := Nat.lt_of_lt_of_le l42 (hb).size
    have l59 : w4.heap.size < w5.heap.size := Nat.lt_of_lt_of_le l45 (hb).size
    clear f37 f38 f39 f40 f43 f44 l41 l42 l45
    have HB60 := Lib.hid (below_of HB46.out hb HB46.out.size)
    have HR61 := Lib.hid (rv_kept hb HR47.out)
    clear HR47
    have HR62 := Lib.hid (rv_kept hb HR48.out)
    clear HR48
    clear hb 
    have f63 : (w5.alloc (.cells #[.string s1, .slice aG n1 cG] 30)).cell? ⟨w.heap.size, 0, none⟩ = some (.string s) := (below_cell (below_al w5 (.cells #[.string s1, .slice aG n1 cG] 30)) _ _ l57).trans f51
    have f64 : (w5.alloc (.cells #[.string s1, .slice aG n1 cG] 30)).cell? ⟨w.heap.size, 1, none⟩ = some (v) := (below_cell (below_al w5 (.cells #[.string s1, .slice aG n1 cG] 30)) _ _ l57).trans f52
    have f65 : (w5.alloc (.cells #[.string s1, .slice aG n1 cG] 30)).cell? ⟨w3.heap.size, 0, none⟩ = some (.string s1) := (below_cell (below_al w5 (.cells #[.string s1, .slice aG n1 cG] 30)) _ _ l58).trans f53
    have f66 : (w5.alloc (.cells #[.string s1, .slice aG n1 cG] 30)).cell? ⟨w3.heap.size, 1, none⟩ = some (.slice aW n1 cW) := (below_cell (below_al w5 (.cells #[.string s1, .slice aG n1 cG] 30)) _ _ l58).trans f54
    have f67 : (w5.alloc (.cells #[.string s1, .slice aG n1 cG] 30)).cell? ⟨w4.heap.size, 0, none⟩ = some (.string s) := (below_cell (below_al w5 (.cells #[.string s1, .slice aG n1 cG] 30)) _ _ l59).trans f55
    have f68 : (w5.alloc (.cells #[.string s1, .slice aG n1 cG] 30)).cell? ⟨w4.heap.size, 1, none⟩ = some (.slice aX len cX) := (below_cell (below_al w5 (.cells #[.string s1, .slice aG n1 cG] 30)) _ _ l59).trans f56
    have l69 : w.heap.size < (w5.alloc (.cells #[.string s1, .slice aG n1 cG] 30)).heap.size := Nat.lt_of_lt_of_le l57 ((below_al w5 (.cells #[.string s1, .slice aG n1 cG] 30))).size
    have l70 : w3.heap.size < (w5.alloc (.cells #[.string s1, .slice aG n1 cG] 30)).heap.size := Nat.lt_of_lt_of_le l58 ((below_al w5 (.cells #[.string s1, .slice aG n1 cG] 30))).size
    have l71 : w4.heap.size < (w5.alloc (.cells #[.string s1, .slice aG n1 cG] 30)).heap.size := Nat.lt_of_lt_of_le l59 ((below_al w5 (.cells #[.string s1, .slice aG n1 cG] 30))).size
    clear f51 f52 f53 f54 f55 f56 l57 l58 l59
    have f72 : (w5.alloc (.cells #[.string s1, .slice aG n1 cG] 30)).cell? ⟨w5.heap.size, 0, none⟩ = some (.string s1) := by go_simp
    have f73 : (w5.alloc (.cells #[.string s1, .slice aG n1 cG] 30)).cell? ⟨w5.heap.size, 1, none⟩ = some (.slice aG n1 cG) := by go_simp
    have l74 : w5.heap.size < (w5.alloc (.cells #[.string s1, .slice aG n1 cG] 30)).heap.size := alloc_lt2 _ _
    have HB75 := Lib.hid (below_of HB60.out (below_al w5 (.cells #[.string s1, .slice aG n1 cG] 30)) HB60.out.size)
    have HR76 := Lib.hid (rv_kept (below_al w5 (.cells #[.string s1, .slice aG n1 cG] 30)) HR61.out)
    clear HR61
    have HR77 := Lib.hid (rv_kept (below_al w5 (.cells #[.string s1, .slice aG n1 cG] 30)) HR62.out)
    clear HR62
    have HR78 := Lib.hid (rv_kept (below_al w5 (.cells #[.string s1, .slice aG n1 cG] 30)) HGR.out)
    clear HGR
    go_wp2_with fail
    have Og : w5.heap.size < (w5.alloc (.cells #[.string s1, .slice aG n1 cG] 30)).heap.size := alloc_lt2 _ _
    generalize (w5.alloc (.cells #[.string s1, .slice aG n1 cG] 30)) = wb79 at *
    refine (eqProf_any s1 _ _ zs1 _ (rv_rings HLL.out HR78.out) (rv_rings HLL.out HR76.out)).mono ?_
    rintro e w6 ⟨rfl, hb⟩
    have f81 : w6.cell? ⟨w.heap.size, 0, none⟩ = some (.string s) := (below_cell hb _ _ l69).trans f63
    have f82 : w6.cell? ⟨w.heap.size, 1, none⟩ = some (v) := (below_cell hb _ _ l69).trans f64
    have f83 : w6.cell? ⟨w3.heap.size, 0, none⟩ = some (.string s1) := (below_cell hb _ _ l70).trans f65
    have f84 : w6.cell? ⟨w3.heap.size, 1, none⟩ = some (.slice aW n1 cW) := (below_cell hb _ _ l70).trans f66
    have f85 : w6.cell? ⟨w4.heap.size, 0, none⟩ = some (.string s) := (below_cell hb _ _ l71).trans f67
    have f86 : w6.cell? ⟨w4.heap.size, 1, none⟩ = some (.slice aX len cX) := (below_cell hb _ _ l71).trans f68
    have f87 : w6.cell? ⟨w5.heap.size, 0, none⟩ = some (.string s1) := (below_cell hb _ _ l74).trans f72
    have f88 : w6.cell? ⟨w5.heap.size, 1, none⟩ = some (.slice aG n1 cG) := (below_cell hb _ _ l74).trans f73
    have l89 : w.heap.size < w6.heap.size := Nat.lt_of_lt_of_le l69 (hb).size
    have l90 : w3.heap.size < w6.heap.size := Nat.lt_of_lt_of_le l70 (hb).size
    have l91 : w4.heap.size < w6.heap.size := Nat.lt_of_lt_of_le l71 (hb).size
    have l92 : w5.heap.size < w6.heap.size := Nat.lt_of_lt_of_le l74 (hb).size
    clear f63 f64 f65 f66 f67 f68 f72 f73 l69 l70 l71 l74
    have HB93 := Lib.hid (below_of HB75.out hb HB75.out.size)
    have HR94 := Lib.hid (rv_kept hb HR76.out)
    clear HR76
    have HR95 := Lib.hid (rv_kept hb HR77.out)
    clear HR77
    have HR96 := Lib.hid (rv_kept hb HR78.out)
    clear HR78
    clear hb 
    go_wp2
    have HIv := Lib.hid (rings_kept HB93.out HZ.out)
    have HXr := Lib.hid (rv_rings HZL.out HR95.out)
    go_region_held3 (fun w' => w'.cell? ⟨w.heap.size, 0, none⟩ = some (.string s) ∧ w'.cell? ⟨w.heap.size, 1, none⟩ = some v ∧ w'.cell? ⟨w4.heap.size, 0, none⟩ = some (.string s) ∧ w'.cell? ⟨w4.heap.size, 1, none⟩ = some (.slice aX len cX) ∧ Below w6.heap.size w6 w')
      (first | exact ⟨f81, f82, f85, f86, ⟨rfl, rfl, rfl, Nat.le_refl _, fun _ _ => rfl⟩⟩ | exact held4 (W := w6.drew) ⟨l91, l89⟩ f81 f82 f85 f86 ⟨rfl, rfl, rfl, Nat.le_refl _, fun _ _ => rfl⟩ hb7 | exact held4 (W := w7) ⟨l91, l89⟩ f81 f82 f85 f86 (below_of (w1 := w6.drew) ⟨rfl, rfl, rfl, Nat.le_refl _, fun _ _ => rfl⟩ hb7 (Nat.le_refl _)) hb8 | assumption)
      (first
        | (go_at_call 14; refine (toProf_any s v zs w6.drew (rings_kept (w := w6) (w' := w6.drew) ⟨rfl, rfl, rfl, Nat.le_refl _, fun _ _ => rfl⟩ HIv.out)).mono ?_; rintro e w7 ⟨v7, rfl, ho7, hb7⟩)
        | (go_at_call 16; refine (eqProf_any s _ v7 zs w7 (rings_kept hb7 (rings_kept (w := w6) (w' := w6.drew) ⟨rfl, rfl, rfl, Nat.le_refl _, fun _ _ => rfl⟩ HXr.out)) (ownRAt_rings HZL.out ho7)).mono ?_; rintro e w8 ⟨rfl, hb8⟩))
    have hb : Below w6.heap.size w6 w8 := below_of (below_of (w1 := w6.drew) ⟨rfl, rfl, rfl, Nat.le_refl _, fun _ _ => rfl⟩ hb7 (Nat.le_refl _)) hb8 (below_of (w1 := w6.drew) ⟨rfl, rfl, rfl, Nat.le_refl _, fun _ _ => rfl⟩ hb7 (Nat.le_refl _)).size
    have f97 : w8.cell? ⟨w.heap.size, 0, none⟩ = some (.string s) := (below_cell hb _ _ l89).trans f81
    have f98 : w8.cell? ⟨w.heap.size, 1, none⟩ = some (v) := (below_cell hb _ _ l89).trans f82
    have f99 : w8.cell? ⟨w3.heap.size, 0, none⟩ = some (.string s1) := (below_cell hb _ _ l90).trans f83
    have f100 : w8.cell? ⟨w3.heap.size, 1, none⟩ = some (.slice aW n1 cW) := (below_cell hb _ _ l90).trans f84
    have f101 : w8.cell? ⟨w4.heap.size, 0, none⟩ = some (.string s) := (below_cell hb _ _ l91).trans f85
    have f102 : w8.cell? ⟨w4.heap.size, 1, none⟩ = some (.slice aX len cX) := (below_cell hb _ _ l91).trans f86
    have f103 : w8.cell? ⟨w5.heap.size, 0, none⟩ = some (.string s1) := (below_cell hb _ _ l92).trans f87
    have f104 : w8.cell? ⟨w5.heap.size, 1, none⟩ = some (.slice aG n1 cG) := (below_cell hb _ _ l92).trans f88
    have l105 : w.heap.size < w8.heap.size := Nat.lt_of_lt_of_le l89 (hb).size
    have l106 : w3.heap.size < w8.heap.size := Nat.lt_of_lt_of_le l90 (hb).size
    have l107 : w4.heap.size < w8.heap.size := Nat.lt_of_lt_of_le l91 (hb).size
    have l108 : w5.heap.size < w8.heap.size := Nat.lt_of_lt_of_le l92 (hb).size
    clear f81 f82 f83 f84 f85 f86 f87 f88 l89 l90 l91 l92
    have HB109 := Lib.hid (below_of HB93.out hb HB93.out.size)
    have HR110 := Lib.hid (rv_kept hb HR94.out)
    clear HR94
    have HR111 := Lib.hid (rv_kept hb HR95.out)
    clear HR95
    have HR112 := Lib.hid (rv_kept hb HR96.out)
    clear HR96
    clear hb hb7 hb8 ho7
    go_wp2_with fail
    refine (markProf_any s _ zs _ _ HZL.out HR111.out).mono ?_
    rintro e w9 ⟨rfl, hv, hg⟩
    rw [HN.out] at hv ⊢
    have f113 : w9.cell? ⟨w.heap.size, 0, none⟩ = some (.string s) := (gb_cell hg _ _ l105 (apart_box HXI.out (by omega))).trans f97
    have f114 : w9.cell? ⟨w.heap.size, 1, none⟩ = some (v) := (gb_cell hg _ _ l105 (apart_box HXI.out (by omega))).trans f98
    have f115 : w9.cell? ⟨w3.heap.size, 0, none⟩ = some (.string s1) := (gb_cell hg _ _ l106 (apart_box HXI.out (by omega))).trans f99
    have f116 : w9.cell? ⟨w3.heap.size, 1, none⟩ = some (.slice aW n1 cW) := (gb_cell hg _ _ l106 (apart_box HXI.out (by omega))).trans f100
    have f117 : w9.cell? ⟨w4.heap.size, 0, none⟩ = some (.string s) := (gb_cell hg _ _ l107 (apart_box HXI.out (by omega))).trans f101
    have f118 : w9.cell? ⟨w4.heap.size, 1, none⟩ = some (.slice aX len cX) := (gb_cell hg _ _ l107 (apart_box HXI.out (by omega))).trans f102
    have f119 : w9.cell? ⟨w5.heap.size, 0, none⟩ = some (.string s1) := (gb_cell hg _ _ l108 (apart_box HXI.out (by omega))).trans f103
    have f120 : w9.cell? ⟨w5.heap.size, 1, none⟩ = some (.slice aG n1 cG) := (gb_cell hg _ _ l108 (apart_box HXI.out (by omega))).trans f104
    have l121 : w.heap.size < w9.heap.size := Nat.lt_of_lt_of_le l105 hg.size
    have l122 : w3.heap.size < w9.heap.size := Nat.lt_of_lt_of_le l106 hg.size
    have l123 : w4.heap.size < w9.heap.size := Nat.lt_of_lt_of_le l107 hg.size
    have l124 : w5.heap.size < w9.heap.size := Nat.lt_of_lt_of_le l108 hg.size
    have HR125 := Lib.hid (rv_grown hg HR110.out (apart_of HWI.out HXI.out (by omega)))
    clear HR110
    have HR126 := Lib.hid (rv_grown hg HR112.out (apart_of HGI.out HXI.out (by omega)))
    clear HR112
    have HR127 := Lib.hid hv
    clear HR111
    have HB128 := Lib.hid (HB109.out.trans (gb_below hg HB109.out.size (fun k hk => by have := HXI.out k hk; omega)))
    clear hv hg f97 f98 f99 f100 f101 f102 f103 f104 l105 l106 l107 l108
    go_wp2_with fail
    refine (eqProf_any s1 _ _ zs1 _ (rv_rings HLL.out HR126.out) (rv_rings HLL.out HR125.out)).mono ?_
    rintro e w10 ⟨rfl, hb⟩
    have f129 : w10.cell? ⟨w.heap.size, 0, none⟩ = some (.string s) := (below_cell hb _ _ l121).trans f113
    have f130 : w10.cell? ⟨w.heap.size, 1, none⟩ = some (v) := (below_cell hb _ _ l121).trans f114
    have f131 : w10.cell? ⟨w3.heap.size, 0, none⟩ = some (.string s1) := (below_cell hb _ _ l122).trans f115
    have f132 : w10.cell? ⟨w3.heap.size, 1, none⟩ = some (.slice aW n1 cW) := (below_cell hb _ _ l122).trans f116
    have f133 : w10.cell? ⟨w4.heap.size, 0, none⟩ = some (.string s) := (below_cell hb _ _ l123).trans f117
    have f134 : w10.cell? ⟨w4.heap.size, 1, none⟩ = some (.slice aX len cX) := (below_cell hb _ _ l123).trans f118
    have f135 : w10.cell? ⟨w5.heap.size, 0, none⟩ = some (.string s1) := (below_cell hb _ _ l124).trans f119
    have f136 : w10.cell? ⟨w5.heap.size, 1, none⟩ = some (.slice aG n1 cG) := (below_cell hb _ _ l124).trans f120
    have l137 : w.heap.size < w10.heap.size := Nat.lt_of_lt_of_le l121 (hb).size
    have l138 : w3.heap.size < w10.heap.size := Nat.lt_of_lt_of_le l122 (hb).size
    have l139 : w4.heap.size < w10.heap.size := Nat.lt_of_lt_of_le l123 (hb).size
    have l140 : w5.heap.size < w10.heap.size := Nat.lt_of_lt_of_le l124 (hb).size
    clear f113 f114 f115 f116 f117 f118 f119 f120 l121 l122 l123 l124
    have HB141 := Lib.hid (below_of HB128.out hb HB128.out.size)
    have HR142 := Lib.hid (rv_kept hb HR125.out)
    clear HR125
    have HR143 := Lib.hid (rv_kept hb HR126.out)
    clear HR126
    clear hb 
    go_wp2_with fail
    refine (markProf_any s1 _ zs1 _ _ HLL.out HR143.out).mono ?_
    rintro e w11 ⟨rfl, hv, hg⟩
    rw [HN1.out] at hv ⊢
    have f144 : w11.cell? ⟨w.heap.size, 0, none⟩ = some (.string s) := (gb_cell hg _ _ l137 (apart_box HGI.out (by omega))).trans f129
    have f145 : w11.cell? ⟨w.heap.size, 1, none⟩ = some (v) := (gb_cell hg _ _ l137 (apart_box HGI.out (by omega))).trans f130
    have f146 : w11.cell? ⟨w3.heap.size, 0, none⟩ = some (.string s1) := (gb_cell hg _ _ l138 (apart_box HGI.out (by omega))).trans f131
    have f147 : w11.cell? ⟨w3.heap.size, 1, none⟩ = some (.slice aW n1 cW) := (gb_cell hg _ _ l138 (apart_box HGI.out (by omega))).trans f132
    have f148 : w11.cell? ⟨w4.heap.size, 0, none⟩ = some (.string s) := (gb_cell hg _ _ l139 (apart_box HGI.out (by omega))).trans f133
    have f149 : w11.cell? ⟨w4.heap.size, 1, none⟩ = some (.slice aX len cX) := (gb_cell hg _ _ l139 (apart_box HGI.out (by omega))).trans f134
    have f150 : w11.cell? ⟨w5.heap.size, 0, none⟩ = some (.string s1) := (gb_cell hg _ _ l140 (apart_box HGI.out (by omega))).trans f135
    have f151 : w11.cell? ⟨w5.heap.size, 1, none⟩ = some (.slice aG n1 cG) := (gb_cell hg _ _ l140 (apart_box HGI.out (by omega))).trans f136
    have l152 : w.heap.size < w11.heap.size := Nat.lt_of_lt_of_le l137 hg.size
    have l153 : w3.heap.size < w11.heap.size := Nat.lt_of_lt_of_le l138 hg.size
    have l154 : w4.heap.size < w11.heap.size := Nat.lt_of_lt_of_le l139 hg.size
    have l155 : w5.heap.size < w11.heap.size := Nat.lt_of_lt_of_le l140 hg.size
    have HR156 := Lib.hid (rv_grown hg HR142.out (apart_of HWI.out HGI.out (by omega)))
    clear HR142
    have HR157 := Lib.hid hv
    clear HR143
    have HB158 := Lib.hid (HB141.out.trans (gb_below hg HB141.out.size (fun k hk => by have := HGI.out k hk; omega)))
    clear hv hg f129 f130 f131 f132 f133 f134 f135 f136 l137 l138 l139 l140
    go_wp2_with fail
    refine (heldProf_any s1 _ n1 _ _ hll HR157.out).mono ?_
    rintro e w12 ⟨rfl, hb⟩
    have f159 : w12.cell? ⟨w.heap.size, 0, none⟩ = some (.string s) := (below_cell hb _ _ l152).trans f144
    have f160 : w12.cell? ⟨w.heap.size, 1, none⟩ = some (v) := (below_cell hb _ _ l152).trans f145
    have f161 : w12.cell? ⟨w3.heap.size, 0, none⟩ = some (.string s1) := (below_cell hb _ _ l153).trans f146
    have f162 : w12.cell? ⟨w3.heap.size, 1, none⟩ = some (.slice aW n1 cW) := (below_cell hb _ _ l153).trans f147
    have f163 : w12.cell? ⟨w4.heap.size, 0, none⟩ = some (.string s) := (below_cell hb _ _ l154).trans f148
    have f164 : w12.cell? ⟨w4.heap.size, 1, none⟩ = some (.slice aX len cX) := (below_cell hb _ _ l154).trans f149
    have f165 : w12.cell? ⟨w5.heap.size, 0, none⟩ = some (.string s1) := (below_cell hb _ _ l155).trans f150
    have f166 : w12.cell? ⟨w5.heap.size, 1, none⟩ = some (.slice aG n1 cG) := (below_cell hb _ _ l155).trans f151
    have l167 : w.heap.size < w12.heap.size := Nat.lt_of_lt_of_le l152 (hb).size
    have l168 : w3.heap.size < w12.heap.size := Nat.lt_of_lt_of_le l153 (hb).size
    have l169 : w4.heap.size < w12.heap.size := Nat.lt_of_lt_of_le l154 (hb).size
    have l170 : w5.heap.size < w12.heap.size := Nat.lt_of_lt_of_le l155 (hb).size
    clear f144 f145 f146 f147 f148 f149 f150 f151 l152 l153 l154 l155
    have HB171 := Lib.hid (below_of HB158.out hb HB158.out.size)
    have HR172 := Lib.hid (rv_kept hb HR156.out)
    clear HR156
    have HR173 := Lib.hid (rv_kept hb HR157.out)
    clear HR157
    clear hb 
    go_wp2_with fail
    refine (toProf_any s v zs _ (rings_kept HB171.out HZ.out)).mono ?_
    rintro e w13 ⟨vx, rfl, ho, hb⟩
    have HO3 := Lib.hid (rv_ringsC HZL.out (rv_of_ownAt ho))
    have f174 : w13.cell? ⟨w.heap.size, 0, none⟩ = some (.string s) := (below_cell hb _ _ l167).trans f159
    have f175 : w13.cell? ⟨w.heap.size, 1, none⟩ = some (v) := (below_cell hb _ _ l167).trans f160
    have f176 : w13.cell? ⟨w3.heap.size, 0, none⟩ = some (.string s1) := (below_cell hb _ _ l168).trans f161
    have f177 : w13.cell? ⟨w3.heap.size, 1, none⟩ = some (.slice aW n1 cW) := (below_cell hb _ _ l168).trans f162
    have f178 : w13.cell? ⟨w4.heap.size, 0, none⟩ = some (.string s) := (below_cell hb _ _ l169).trans f163
    have f179 : w13.cell? ⟨w4.heap.size, 1, none⟩ = some (.slice aX len cX) := (below_cell hb _ _ l169).trans f164
    have f180 : w13.cell? ⟨w5.heap.size, 0, none⟩ = some (.string s1) := (below_cell hb _ _ l170).trans f165
    have f181 : w13.cell? ⟨w5.heap.size, 1, none⟩ = some (.slice aG n1 cG) := (below_cell hb _ _ l170).trans f166
    have l182 : w.heap.size < w13.heap.size := Nat.lt_of_lt_of_le l167 (hb).size
    have l183 : w3.heap.size < w13.heap.size := Nat.lt_of_lt_of_le l168 (hb).size
    have l184 : w4.heap.size < w13.heap.size := Nat.lt_of_lt_of_le l169 (hb).size
    have l185 : w5.heap.size < w13.heap.size := Nat.lt_of_lt_of_le l170 (hb).size
    clear f159 f160 f161 f162 f163 f164 f165 f166 l167 l168 l169 l170
    have HB186 := Lib.hid (below_of HB171.out hb HB171.out.size)
    have HR187 := Lib.hid (rv_kept hb HR172.out)
    clear HR172
    have HR188 := Lib.hid (rv_kept hb HR173.out)
    clear HR173
    clear hb ho
    go_wp2_with fail
    refine (HIM.out _ _ HO3.out).mono ?_
    rintro e w14 ⟨vh, rfl, hv, hb⟩
    obtain ⟨aH, cH, rfl⟩ := rv_form hv
    rw [HN1.out] at hv ⊢
    have HHR := Lib.hid hv
    clear hv
    have f189 : w14.cell? ⟨w.heap.size, 0, none⟩ = some (.string s) := (below_cell hb _ _ l182).trans f174
    have f190 : w14.cell? ⟨w.heap.size, 1, none⟩ = some (v) := (below_cell hb _ _ l182).trans f175
    have f191 : w14.cell? ⟨w3.heap.size, 0, none⟩ = some (.string s1) := (below_cell hb _ _ l183).trans f176
    have f192 : w14.cell? ⟨w3.heap.size, 1, none⟩ = some (.slice aW n1 cW) := (below_cell hb _ _ l183).trans f177
    have f193 : w14.cell? ⟨w4.heap.size, 0, none⟩ = some (.string s) := (below_cell hb _ _ l184).trans f178
    have f194 : w14.cell? ⟨w4.heap.size, 1, none⟩ = some (.slice aX len cX) := (below_cell hb _ _ l184).trans f179
    have f195 : w14.cell? ⟨w5.heap.size, 0, none⟩ = some (.string s1) := (below_cell hb _ _ l185).trans f180
    have f196 : w14.cell? ⟨w5.heap.size, 1, none⟩ = some (.slice aG n1 cG) := (below_cell hb _ _ l185).trans f181
    have l197 : w.heap.size < w14.heap.size := Nat.lt_of_lt_of_le l182 (hb).size
    have l198 : w3.heap.size < w14.heap.size := Nat.lt_of_lt_of_le l183 (hb).size
    have l199 : w4.heap.size < w14.heap.size := Nat.lt_of_lt_of_le l184 (hb).size
    have l200 : w5.heap.size < w14.heap.size := Nat.lt_of_lt_of_le l185 (hb).size
    clear f174 f175 f176 f177 f178 f179 f180 f181 l182 l183 l184 l185
    have HB201 := Lib.hid (below_of HB186.out hb HB186.out.size)
    have HR202 := Lib.hid (rv_kept hb HR187.out)
    clear HR187
    have HR203 := Lib.hid (rv_kept hb HR188.out)
    clear HR188
    clear hb 
    have f204 : (w14.alloc (.cells #[.string s1, .slice aH n1 cH] 30)).cell? ⟨w.heap.size, 0, none⟩ = some (.string s) := (below_cell (below_al w14 (.cells #[.string s1, .slice aH n1 cH] 30)) _ _ l197).trans f189
    have f205 : (w14.alloc (.cells #[.string s1, .slice aH n1 cH] 30)).cell? ⟨w.heap.size, 1, none⟩ = some (v) := (below_cell (below_al w14 (.cells #[.string s1, .slice aH n1 cH] 30)) _ _ l197).trans f190
    have f206 : (w14.alloc (.cells #[.string s1, .slice aH n1 cH] 30)).cell? ⟨w3.heap.size, 0, none⟩ = some (.string s1) := (below_cell (below_al w14 (.cells #[.string s1, .slice aH n1 cH] 30)) _ _ l198).trans f191
    have f207 : (w14.alloc (.cells #[.string s1, .slice aH n1 cH] 30)).cell? ⟨w3.heap.size, 1, none⟩ = some (.slice aW n1 cW) := (below_cell (below_al w14 (.cells #[.string s1, .slice aH n1 cH] 30)) _ _ l198).trans f192
    have f208 : (w14.alloc (.cells #[.string s1, .slice aH n1 cH] 30)).cell? ⟨w4.heap.size, 0, none⟩ = some (.string s) := (below_cell (below_al w14 (.cells #[.string s1, .slice aH n1 cH] 30)) _ _ l199).trans f193
    have f209 : (w14.alloc (.cells #[.string s1, .slice aH n1 cH] 30)).cell? ⟨w4.heap.size, 1, none⟩ = some (.slice aX len cX) := (below_cell (below_al w14 (.cells #[.string s1, .slice aH n1 cH] 30)) _ _ l199).trans f194
    have f210 : (w14.alloc (.cells #[.string s1, .slice aH n1 cH] 30)).cell? ⟨w5.heap.size, 0, none⟩ = some (.string s1) := (below_cell (below_al w14 (.cells #[.string s1, .slice aH n1 cH] 30)) _ _ l200).trans f195
    have f211 : (w14.alloc (.cells #[.string s1, .slice aH n1 cH] 30)).cell? ⟨w5.heap.size, 1, none⟩ = some (.slice aG n1 cG) := (below_cell (below_al w14 (.cells #[.string s1, .slice aH n1 cH] 30)) _ _ l200).trans f196
    have l212 : w.heap.size < (w14.alloc (.cells #[.string s1, .slice aH n1 cH] 30)).heap.size := Nat.lt_of_lt_of_le l197 ((below_al w14 (.cells #[.string s1, .slice aH n1 cH] 30))).size
    have l213 : w3.heap.size < (w14.alloc (.cells #[.string s1, .slice aH n1 cH] 30)).heap.size := Nat.lt_of_lt_of_le l198 ((below_al w14 (.cells #[.string s1, .slice aH n1 cH] 30))).size
    have l214 : w4.heap.size < (w14.alloc (.cells #[.string s1, .slice aH n1 cH] 30)).heap.size := Nat.lt_of_lt_of_le l199 ((below_al w14 (.cells #[.string s1, .slice aH n1 cH] 30))).size
    have l215 : w5.heap.size < (w14.alloc (.cells #[.string s1, .slice aH n1 cH] 30)).heap.size := Nat.lt_of_lt_of_le l200 ((below_al w14 (.cells #[.string s1, .slice aH n1 cH] 30))).size
    clear f189 f190 f191 f192 f193 f194 f195 f196 l197 l198 l199 l200
    have f216 : (w14.alloc (.cells #[.string s1, .slice aH n1 cH] 30)).cell? ⟨w14.heap.size, 0, none⟩ = some (.string s1) := by go_simp
    have f217 : (w14.alloc (.cells #[.string s1, .slice aH n1 cH] 30)).cell? ⟨w14.heap.size, 1, none⟩ = some (.slice aH n1 cH) := by go_simp
    have l218 : w14.heap.size < (w14.alloc (.cells #[.string s1, .slice aH n1 cH] 30)).heap.size := alloc_lt2 _ _
    have HB219 := Lib.hid (below_of HB201.out (below_al w14 (.cells #[.string s1, .slice aH n1 cH] 30)) HB201.out.size)
    have HR220 := Lib.hid (rv_kept (below_al w14 (.cells #[.string s1, .slice aH n1 cH] 30)) HR202.out)
    clear HR202
    have HR221 := Lib.hid (rv_kept (below_al w14 (.cells #[.string s1, .slice aH n1 cH] 30)) HR203.out)
    clear HR203
    have HR222 := Lib.hid (rv_kept (below_al w14 (.cells #[.string s1, .slice aH n1 cH] 30)) HHR.out)
    clear HHR
    go_wp2_with fail
    have Oh : w14.heap.size < (w14.alloc (.cells #[.string s1, .slice aH n1 cH] 30)).heap.size := alloc_lt2 _ _
    generalize (w14.alloc (.cells #[.string s1, .slice aH n1 cH] 30)) = wb223 at *
    refine (eqProf_any s1 _ _ zs1 _ (rv_rings HLL.out HR222.out) (rv_rings HLL.out HR220.out)).mono ?_
    rintro e w15 ⟨rfl, hb⟩
    have f225 : w15.cell? ⟨w.heap.size, 0, none⟩ = some (.string s) := (below_cell hb _ _ l212).trans f204
    have f226 : w15.cell? ⟨w.heap.size, 1, none⟩ = some (v) := (below_cell hb _ _ l212).trans f205
    have f227 : w15.cell? ⟨w3.heap.size, 0, none⟩ = some (.string s1) := (below_cell hb _ _ l213).trans f206
    have f228 : w15.cell? ⟨w3.heap.size, 1, none⟩ = some (.slice aW n1 cW) := (below_cell hb _ _ l213).trans f207
    have f229 : w15.cell? ⟨w4.heap.size, 0, none⟩ = some (.string s) := (below_cell hb _ _ l214).trans f208
    have f230 : w15.cell? ⟨w4.heap.size, 1, none⟩ = some (.slice aX len cX) := (below_cell hb _ _ l214).trans f209
    have f231 : w15.cell? ⟨w5.heap.size, 0, none⟩ = some (.string s1) := (below_cell hb _ _ l215).trans f210
    have f232 : w15.cell? ⟨w5.heap.size, 1, none⟩ = some (.slice aG n1 cG) := (below_cell hb _ _ l215).trans f211
    have f233 : w15.cell? ⟨w14.heap.size, 0, none⟩ = some (.string s1) := (below_cell hb _ _ l218).trans f216
    have f234 : w15.cell? ⟨w14.heap.size, 1, none⟩ = some (.slice aH n1 cH) := (below_cell hb _ _ l218).trans f217
    have l235 : w.heap.size < w15.heap.size := Nat.lt_of_lt_of_le l212 (hb).size
    have l236 : w3.heap.size < w15.heap.size := Nat.lt_of_lt_of_le l213 (hb).size
    have l237 : w4.heap.size < w15.heap.size := Nat.lt_of_lt_of_le l214 (hb).size
    have l238 : w5.heap.size < w15.heap.size := Nat.lt_of_lt_of_le l215 (hb).size
    have l239 : w14.heap.size < w15.heap.size := Nat.lt_of_lt_of_le l218 (hb).size
    clear f204 f205 f206 f207 f208 f209 f210 f211 f216 f217 l212 l213 l214 l215 l218
    have HB240 := Lib.hid (below_of HB219.out hb HB219.out.size)
    have HR241 := Lib.hid (rv_kept hb HR220.out)
    clear HR220
    have HR242 := Lib.hid (rv_kept hb HR221.out)
    clear HR221
    have HR243 := Lib.hid (rv_kept hb HR222.out)
    clear HR222
    clear hb 
    go_wp2_with fail
    refine (heldProf_any s1 _ n1 _ _ hll HR242.out).mono ?_
    rintro e w16 ⟨rfl, hb⟩
    have f244 : w16.cell? ⟨w.heap.size, 0, none⟩ = some (.string s) := (below_cell hb _ _ l235).trans f225
    have f245 : w16.cell? ⟨w.heap.size, 1, none⟩ = some (v) := (below_cell hb _ _ l235).trans f226
    have f246 : w16.cell? ⟨w3.heap.size, 0, none⟩ = some (.string s1) := (below_cell hb _ _ l236).trans f227
    have f247 : w16.cell? ⟨w3.heap.size, 1, none⟩ = some (.slice aW n1 cW) := (below_cell hb _ _ l236).trans f228
    have f248 : w16.cell? ⟨w4.heap.size, 0, none⟩ = some (.string s) := (below_cell hb _ _ l237).trans f229
    have f249 : w16.cell? ⟨w4.heap.size, 1, none⟩ = some (.slice aX len cX) := (below_cell hb _ _ l237).trans f230
    have f250 : w16.cell? ⟨w5.heap.size, 0, none⟩ = some (.string s1) := (below_cell hb _ _ l238).trans f231
    have f251 : w16.cell? ⟨w5.heap.size, 1, none⟩ = some (.slice aG n1 cG) := (below_cell hb _ _ l238).trans f232
    have f252 : w16.cell? ⟨w14.heap.size, 0, none⟩ = some (.string s1) := (below_cell hb _ _ l239).trans f233
    have f253 : w16.cell? ⟨w14.heap.size, 1, none⟩ = some (.slice aH n1 cH) := (below_cell hb _ _ l239).trans f234
    have l254 : w.heap.size < w16.heap.size := Nat.lt_of_lt_of_le l235 (hb).size
    have l255 : w3.heap.size < w16.heap.size := Nat.lt_of_lt_of_le l236 (hb).size
    have l256 : w4.heap.size < w16.heap.size := Nat.lt_of_lt_of_le l237 (hb).size
    have l257 : w5.heap.size < w16.heap.size := Nat.lt_of_lt_of_le l238 (hb).size
    have l258 : w14.heap.size < w16.heap.size := Nat.lt_of_lt_of_le l239 (hb).size
    clear f225 f226 f227 f228 f229 f230 f231 f232 f233 f234 l235 l236 l237 l238 l239
    have HB259 := Lib.hid (below_of HB240.out hb HB240.out.size)
    have HR260 := Lib.hid (rv_kept hb HR241.out)
    clear HR241
    have HR261 := Lib.hid (rv_kept hb HR242.out)
    clear HR242
    have HR262 := Lib.hid (rv_kept hb HR243.out)
    clear HR243
    clear hb 
    go_wp2
    go_ret
    exact ⟨rfl, HB259.out⟩
  · have HL := Lib.hid (leftP_no (show (1048576 : Int) < s.size + len by omega))
    clear hI
    go_enter Try.func4, Try.ntmps4
    go_wp2_with fail
    refine (szProf_any s a len cap 1048576 _ hs hlen (by omega) (by omega)).mono ?_
    rintro e w1 ⟨rfl, hb⟩
    rw [HL.out]
    have HB := Lib.hid (below_of ((Below.refl _ _).alloc (Nat.le_refl _) _) hb (by simp))
    clear hb
    go_wp2
    go_ret
    exact ⟨rfl, HB.out⟩

set_option maxRecDepth 100000 in
theorem contract (H : Type) (enc : TypeId × Value → H) (W : World) (base : Nat) (args : Array Value) (ds gs : List (DataW H)) (before : List MemPlace)
    (hval : ∀ (j : Nat) t v, Try.f4.params[j]? = some t → args[j]? = some v → Value.okWide Try.prog W .any base t v)
    (hW : DataW.Whole enc Try.prog Try.f4.params.toList Rows.fnExactScaleForPitchSpec.vars false W args.toList ds gs before) :
    Calls Try.prog 4 args W fun e W' => ∃ v, e = .returned v ∧ Rows.fnExactScaleForPitchSpec.post enc Try.prog Try.f4 false true false false W args v W' := by
  have hW' := hW
  obtain ⟨p, q, hA0, hV, rfl, hfz, hnd⟩ := hW
  have hA : DataW.TrodAll enc Try.prog W 0 (fun _ => true) true Try.f4.params.toList args.toList ds p := hA0
  rw [Try.params4] at hA hval
  obtain ⟨v0, vs0, d0, ds0, p0, q0, hargs, rfl, rfl, h0, r0⟩ := trodAll_cons hA
  obtain ⟨v1, vs1, d1, ds1, p1, q1, hargs1, rfl, rfl, h1, r1⟩ := trodAll_cons r0
  subst hargs1
  obtain ⟨v2, vs2, d2, ds2, p2, q2, hargs2, rfl, rfl, h2, r2⟩ := trodAll_cons r1
  subst hargs2
  obtain ⟨rfl, rfl, rfl⟩ := trodAll_nil r2
  obtain rfl : args = #[v0, v1, v2] := by cases args; simp_all
  obtain ⟨rfl, rfl⟩ := trodVars_none hV
  simp only [List.append_nil] at hW'
  have hlt0 : ∀ x ∈ p0, x.block < W.heap.size := fun x hx => hW'.lt x (by simp [hx])
  have kept0 := fun (W2 : World) (hb : Below W.heap.size W W2) => Below.trod laidOut (by kernel_rfl) (of_decide_eq_true (by kernel_rfl)) h0 hb hlt0
  obtain ⟨s0, a0, len0, cap0, rfl, w0, hI0⟩ := prof_arg (hval 0 44 v0 rfl rfl) h0 hlt0
  have hlt1 : ∀ x ∈ p1, x.block < W.heap.size := fun x hx => hW'.lt x (by simp [hx])
  have kept1 := fun (W2 : World) (hb : Below W.heap.size W W2) => Below.trod laidOut (by kernel_rfl) (of_decide_eq_true (by kernel_rfl)) h1 hb hlt1
  obtain ⟨a1, rfl, -, -, w1⟩ := open_int Try.underlying2 (hval 1 2 v1 rfl rfl) h1
  have hlt2 : ∀ x ∈ p2, x.block < W.heap.size := fun x hx => hW'.lt x (by simp [hx])
  have kept2 := fun (W2 : World) (hb : Below W.heap.size W W2) => Below.trod laidOut (by kernel_rfl) (of_decide_eq_true (by kernel_rfl)) h2 hb hlt2
  obtain ⟨a2, rfl, -, -, w2⟩ := open_int Try.underlying2 (hval 2 2 v2 rfl rfl) h2
  clear hA0
  refine (walk s0 a0 len0 cap0 a1 a2 w0 w1 w2 W hI0).mono fun e W' ⟨he, hg⟩ => ?_
  subst he
  refine ⟨_, rfl, post_at (pa := p0 ++ (p1 ++ p2)) (pv := []) hW' (by simp) hg (fun _ _ => (trodAll_cons_mk (shut_bool Try.underlying4 _) trodAll_mk0)) ?_ rfl⟩
  have hk := (trodAll_cons_mk (kept0 W' hg) (trodAll_cons_mk (kept1 W' hg) (trodAll_cons_mk (kept2 W' hg) trodAll_mk0)))
  simp only [List.append_nil] at hk
  exact hk

set_option maxRecDepth 100000 in
theorem lifted (os : Os) (started : os.Started) (H : Type) (enc : TypeId × Value → H) :
    ReturnsInHanded {} Try.checked os 4 .any (Rows.fnExactScaleForPitchSpec.pre6 enc Try.prog Try.f4 Rows.fnExactScaleForPitchRow.domain false) (Rows.fnExactScaleForPitchSpec.post enc Try.prog Try.f4 false true false false) := by
  refine returnsInHanded_of_change (C := Try.checked) own started (by kernel_rfl) Try.func4
    (ChangeSpec.witness6 (enc := enc) (C := Try.checked) false ⟨#[], #[.agg #[.string ⟨#[]⟩, .slice none 0 0], .int .i64 0, .int .i64 0], []⟩ 8 (by kernel_rfl) (by kernel_rfl) (by kernel_rfl) (by kernel_rfl)) ?_
  intro W base args ds gs before hval0 hW hcnd _
  have hval : ∀ (j : Nat) t v, Try.f4.params[j]? = some t → args[j]? = some v → Value.okWide Try.prog W .any base t v := hval0
  exact contract H enc W base args ds gs before hval hW

theorem over : Rows.fnExactScaleForPitchRow.holds Try.pinned (OpenSpec.ofChange Rows.fnExactScaleForPitchSpec) :=
  OpenClaim.holds_of_wide 4 Try.f4 rfl rfl rfl rfl rfl rfl rfl ⟨rfl, rfl, rfl, rfl, rfl⟩ rfl rfl rfl rfl rfl (by kernel_rfl) Try.func4 (by kernel_rfl)
    (of_decide_eq_true (by kernel_rfl)) (by unfold Func.isWrapper; first | (rw [if_pos (by decide +kernel)]; kernel_rfl) | (rw [if_neg (by decide +kernel)]; exact ⟨rfl, rfl⟩))
    (fun os started H enc _ => lifted os started H enc)
end Go.Proofs.Ytndmakimkghihab.fnExactScaleForPitch

namespace Go.Proofs.Ytndmakimkghihab
/-- The given statement. -/
theorem fnExactScaleForPitch_holds : Rows.FnExactScaleForPitchSaid := fnExactScaleForPitch.over
#print axioms fnExactScaleForPitch_holds
end Go.Proofs.Ytndmakimkghihab
