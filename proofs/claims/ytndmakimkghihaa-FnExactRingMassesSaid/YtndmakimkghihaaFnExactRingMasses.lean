/- The law FnExactRingMasses answers true at every profile and every density and changes nothing: the program's masses and code are the reference model's, and the list handed back is shared with nothing. -/
import Derived.Test.YtndmakimkghihaaRows
import Derived.Test.YtndmakimkghihaaBase
import Derived.Test.YtndmakimkghihaaLaidOut
import Derived.Test.YtndmakimkghihaaProfArg
import Derived.Test.YtndmakimkghihaaMasR
import Derived.Test.YtndmakimkghihaaIntRes
import Derived.Deep.RegionHeld3
namespace Go.Proofs.Ytndmakimkghihaa.fnExactRingMasses
open Go.ChangeShapes Go.WideShapes Go.ChangeAt Go.RowKit
open Go.ChangeMaps (open_string shut_string)
set_option linter.unusedVariables false

theorem own : ownKnob Try.prog.godebug = none := by kernel_rfl

set_option maxRecDepth 100000 in
set_option maxHeartbeats 1600000 in
theorem walk (s : ByteArray) (a : Option Addr) (len cap : Nat) (a1 : Int) (w0 : s.size ≤ 9223372036854775807 ∧ len ≤ 9223372036854775807) (w1 : (Lit.int .i64 a1).wf = true) (w : World) (hI : len ≤ 1048576 → ∃ zs : List Rg, zs.length = len ∧ RingsAt w (.slice a len cap) zs) :
    Calls Try.prog 12 #[.agg #[.string s, .slice a len cap], .int .i64 a1] w fun e w' => e = .returned (.bool true) ∧ Below w.heap.size w w' := by
  obtain ⟨hs, hlen⟩ := w0
  have bd1 := wf_bd w1
  clear w1
  by_cases hbig : s.size + len ≤ 1048576
  · obtain ⟨zs, hz, hzs⟩ := hI (by omega)
    have HZ := Lib.hid hzs
    have HN := Lib.hid hz
    have HL := Lib.hid (leftP_yes (show ((s.size : Int) + len ≤ 1048576) by omega))
    have hzl : zs.length ≤ 1048576 := by omega
    clear hI hz hzs
    have HV := Lib.hid (show ∃ a' c', Value.slice a len cap = .slice a' len c' from ⟨_, _, rfl⟩)
    generalize Value.slice a len cap = v at *
    obtain ⟨L1, c1, hl1, hsp, him⟩ : ∃ (L1 : List Int) (c1 : Int), L1.length ≤ 64 ∧ (∀ v w, RingsW w v zs → Calls Try.prog 48 #[.agg #[.string s, v], .int .i64 a1] w (IntU L1 c1 w)) ∧ (∀ v w, RingsW w v zs → Calls Try.prog 49 #[.agg #[.string s, v], .int .i64 a1] w (IntU L1 c1 w)) :=
      ⟨rmL s zs a1, askD s zs a1, rm_len s zs a1, fun v w h => specRM_any s v zs a1 w h.1 hs, fun v w h => implRM_any s v zs a1 w h.1 hs⟩
    have HSP := Lib.hid hsp
    have HIM := Lib.hid him
    clear hsp him
    obtain ⟨n1, hn1⟩ : ∃ n1, L1.length = n1 := ⟨_, rfl⟩
    have HN1 := Lib.hid hn1
    have HLL := Lib.hid (show L1.length ≤ 1048576 by omega)
    have HZL := Lib.hid hzl
    rw [hn1] at hl1
    have hll : n1 ≤ 1048576 := by omega
    clear hn1 hzl
    have hcc : (c1 != c1) = false := by simp
    have hq3 : ((1 + (n1 : Int)) != (1 + (n1 : Int))) = false := by simp
    have hpos : ¬ (1 + (n1 : Int)) < 0 := by omega
    have hpos2 : ¬ (1 + 3 * (len : Int)) < 0 := by omega
    go_enter Try.func12, Try.ntmps12
    have f1 : (w.alloc (.cells #[.string s, v] 42)).cell? ⟨w.heap.size, 0, none⟩ = some (.string s) := by go_simp
    have f2 : (w.alloc (.cells #[.string s, v] 42)).cell? ⟨w.heap.size, 1, none⟩ = some (v) := by go_simp
    have l3 : w.heap.size < (w.alloc (.cells #[.string s, v] 42)).heap.size := alloc_lt2 _ _
    have HB4 := Lib.hid ((below_al w (.cells #[.string s, v] 42)))
    go_wp2_with fail
    generalize (w.alloc (.cells #[.string s, v] 42)) = wb5 at *
    refine (szProf_v s v len 1048576 _ HV hs hlen (by omega) (by omega)).mono ?_
    rintro e w1 ⟨rfl, hb⟩
    rw [HL.out]
    have f6 : w1.cell? ⟨w.heap.size, 0, none⟩ = some (.string s) := (below_cell hb _ _ l3).trans f1
    have f7 : w1.cell? ⟨w.heap.size, 1, none⟩ = some (v) := (below_cell hb _ _ l3).trans f2
    have l8 : w.heap.size < w1.heap.size := Nat.lt_of_lt_of_le l3 (hb).size
    clear f1 f2 l3
    have HB9 := Lib.hid (below_of HB4.out hb HB4.out.size)
    clear hb 
    go_wp2_with fail
    refine (toProf_any s v zs _ (rings_kept HB9.out HZ.out)).mono ?_
    rintro e w2 ⟨vx, rfl, ho, hb⟩
    have HO2 := Lib.hid (rvW HZL.out (rv_of_ownAt ho))
    have f10 : w2.cell? ⟨w.heap.size, 0, none⟩ = some (.string s) := (below_cell hb _ _ l8).trans f6
    have f11 : w2.cell? ⟨w.heap.size, 1, none⟩ = some (v) := (below_cell hb _ _ l8).trans f7
    have l12 : w.heap.size < w2.heap.size := Nat.lt_of_lt_of_le l8 (hb).size
    clear f6 f7 l8
    have HB13 := Lib.hid (below_of HB9.out hb HB9.out.size)
    clear hb ho
    go_wp2_with fail
    have O0 : w.heap.size < w2.heap.size := l12
    refine (HSP.out vx _ HO2.out).mono ?_
    rintro e w3 ⟨vw, rfl, hv, hb⟩
    have OW : w2.heap.size ≤ w3.heap.size := hb.size
    obtain ⟨aW, cW, rfl⟩ := iv_form hv
    rw [HN1.out] at hv ⊢
    have HWI := Lib.hid (iv_in hv)
    have HWR := Lib.hid hv
    clear hv
    have f14 : w3.cell? ⟨w.heap.size, 0, none⟩ = some (.string s) := (below_cell hb _ _ l12).trans f10
    have f15 : w3.cell? ⟨w.heap.size, 1, none⟩ = some (v) := (below_cell hb _ _ l12).trans f11
    have l16 : w.heap.size < w3.heap.size := Nat.lt_of_lt_of_le l12 (hb).size
    clear f10 f11 l12
    have HB17 := Lib.hid (below_of HB13.out hb HB13.out.size)
    clear hb 
    go_wp2_with fail
    refine (toProf_any s v zs _ (rings_kept HB17.out HZ.out)).mono ?_
    rintro e w4 ⟨vx, rfl, ho, hb⟩
    have HXR0 := rv_of_ownAt ho
    obtain ⟨aX, cX, rfl⟩ := rv_form HXR0
    rw [HN.out] at HXR0 ⊢
    have HXI := Lib.hid (rv_in HXR0)
    have HXR := Lib.hid HXR0
    have OX : w3.heap.size ≤ w4.heap.size := hb.size
    have f18 : w4.cell? ⟨w.heap.size, 0, none⟩ = some (.string s) := (below_cell hb _ _ l16).trans f14
    have f19 : w4.cell? ⟨w.heap.size, 1, none⟩ = some (v) := (below_cell hb _ _ l16).trans f15
    have l20 : w.heap.size < w4.heap.size := Nat.lt_of_lt_of_le l16 (hb).size
    clear f14 f15 l16
    have HB21 := Lib.hid (below_of HB17.out hb HB17.out.size)
    have HR22 := Lib.hid (iv_kept hb HWR.out)
    clear HWR
    clear hb ho HXR0
    have f23 : (w4.alloc (.cells #[.string s, .slice aX len cX] 48)).cell? ⟨w.heap.size, 0, none⟩ = some (.string s) := (below_cell (below_al w4 (.cells #[.string s, .slice aX len cX] 48)) _ _ l20).trans f18
    have f24 : (w4.alloc (.cells #[.string s, .slice aX len cX] 48)).cell? ⟨w.heap.size, 1, none⟩ = some (v) := (below_cell (below_al w4 (.cells #[.string s, .slice aX len cX] 48)) _ _ l20).trans f19
    have l25 : w.heap.size < (w4.alloc (.cells #[.string s, .slice aX len cX] 48)).heap.size := Nat.lt_of_lt_of_le l20 ((below_al w4 (.cells #[.string s, .slice aX len cX] 48))).size
    clear f18 f19 l20
    have f26 : (w4.alloc (.cells #[.string s, .slice aX len cX] 48)).cell? ⟨w4.heap.size, 0, none⟩ = some (.string s) := by go_simp
    have f27 : (w4.alloc (.cells #[.string s, .slice aX len cX] 48)).cell? ⟨w4.heap.size, 1, none⟩ = some (.slice aX len cX) := by go_simp
    have l28 : w4.heap.size < (w4.alloc (.cells #[.string s, .slice aX len cX] 48)).heap.size := alloc_lt2 _ _
    have HB29 := Lib.hid (below_of HB21.out (below_al w4 (.cells #[.string s, .slice aX len cX] 48)) HB21.out.size)
    have HR30 := Lib.hid (iv_kept (below_al w4 (.cells #[.string s, .slice aX len cX] 48)) HR22.out)
    clear HR22
    have HR31 := Lib.hid (rv_kept (below_al w4 (.cells #[.string s, .slice aX len cX] 48)) HXR.out)
    clear HXR
    go_wp2_with fail
    have Ox : w4.heap.size < (w4.alloc (.cells #[.string s, .slice aX len cX] 48)).heap.size := alloc_lt2 _ _
    generalize (w4.alloc (.cells #[.string s, .slice aX len cX] 48)) = wb32 at *
    refine (HIM.out _ _ (rvW HZL.out HR31.out)).mono ?_
    rintro e w5 ⟨vg, rfl, hv, hb⟩
    have OG : wb32.heap.size ≤ w5.heap.size := hb.size
    obtain ⟨aG, cG, rfl⟩ := iv_form hv
    rw [HN1.out] at hv ⊢
    have HGI := Lib.hid (iv_in hv)
    have HGR := Lib.hid hv
    clear hv
    have f33 : w5.cell? ⟨w.heap.size, 0, none⟩ = some (.string s) := (below_cell hb _ _ l25).trans f23
    have f34 : w5.cell? ⟨w.heap.size, 1, none⟩ = some (v) := (below_cell hb _ _ l25).trans f24
    have f35 : w5.cell? ⟨w4.heap.size, 0, none⟩ = some (.string s) := (below_cell hb _ _ l28).trans f26
    have f36 : w5.cell? ⟨w4.heap.size, 1, none⟩ = some (.slice aX len cX) := (below_cell hb _ _ l28).trans f27
    have l37 : w.heap.size < w5.heap.size := Nat.lt_of_lt_of_le l25 (hb).size
    have l38 : w4.heap.size < w5.heap.size := Nat.lt_of_lt_of_le l28 (hb).size
    clear f23 f24 f26 f27 l25 l28
    have HB39 := Lib.hid (below_of HB29.out hb HB29.out.size)
    have HR40 := Lib.hid (iv_kept hb HR30.out)
    clear HR30
    have HR41 := Lib.hid (rv_kept hb HR31.out)
    clear HR31
    clear hb 
    go_wp2_with fail
    refine (eqInts_at L1 _ _ _ (iv_ints HLL.out HGR.out) (iv_ints HLL.out HR40.out)).mono ?_
    rintro e w6 ⟨rfl, hb⟩
    have f42 : w6.cell? ⟨w.heap.size, 0, none⟩ = some (.string s) := (below_cell hb _ _ l37).trans f33
    have f43 : w6.cell? ⟨w.heap.size, 1, none⟩ = some (v) := (below_cell hb _ _ l37).trans f34
    have f44 : w6.cell? ⟨w4.heap.size, 0, none⟩ = some (.string s) := (below_cell hb _ _ l38).trans f35
    have f45 : w6.cell? ⟨w4.heap.size, 1, none⟩ = some (.slice aX len cX) := (below_cell hb _ _ l38).trans f36
    have l46 : w.heap.size < w6.heap.size := Nat.lt_of_lt_of_le l37 (hb).size
    have l47 : w4.heap.size < w6.heap.size := Nat.lt_of_lt_of_le l38 (hb).size
    clear f33 f34 f35 f36 l37 l38
    have HB48 := Lib.hid (below_of HB39.out hb HB39.out.size)
    have HR49 := Lib.hid (iv_kept hb HR40.out)
    clear HR40
    have HR50 := Lib.hid (rv_kept hb HR41.out)
    clear HR41
    have HR51 := Lib.hid (iv_kept hb HGR.out)
    clear HGR
    clear hb 
    go_wp2
    have HIv := Lib.hid (rings_kept HB48.out HZ.out)
    have HXr := Lib.hid (rv_rings HZL.out HR50.out)
    go_region_held3 (fun w' => w'.cell? ⟨w.heap.size, 0, none⟩ = some (.string s) ∧ w'.cell? ⟨w.heap.size, 1, none⟩ = some v ∧ w'.cell? ⟨w4.heap.size, 0, none⟩ = some (.string s) ∧ w'.cell? ⟨w4.heap.size, 1, none⟩ = some (.slice aX len cX) ∧ Below w6.heap.size w6 w')
      (first | exact ⟨f42, f43, f44, f45, ⟨rfl, rfl, rfl, Nat.le_refl _, fun _ _ => rfl⟩⟩ | exact held4 (W := w6.drew) ⟨l47, l46⟩ f42 f43 f44 f45 ⟨rfl, rfl, rfl, Nat.le_refl _, fun _ _ => rfl⟩ hb7 | exact held4 (W := wq7) ⟨l47, l46⟩ f42 f43 f44 f45 (below_of (w1 := w6.drew) ⟨rfl, rfl, rfl, Nat.le_refl _, fun _ _ => rfl⟩ hb7 (Nat.le_refl _)) hb8 | assumption)
      (first
        | (go_at_call 31; refine (toProf_any s v zs w6.drew (rings_kept (w := w6) (w' := w6.drew) ⟨rfl, rfl, rfl, Nat.le_refl _, fun _ _ => rfl⟩ HIv.out)).mono ?_; rintro e wq7 ⟨v7, rfl, ho7, hb7⟩)
        | (go_at_call 33; refine (eqProf_any s _ v7 zs wq7 (rings_kept hb7 (rings_kept (w := w6) (w' := w6.drew) ⟨rfl, rfl, rfl, Nat.le_refl _, fun _ _ => rfl⟩ HXr.out)) (ownRAt_rings HZL.out ho7)).mono ?_; rintro e wq8 ⟨rfl, hb8⟩))
    have hb : Below w6.heap.size w6 wq8 := below_of (below_of (w1 := w6.drew) ⟨rfl, rfl, rfl, Nat.le_refl _, fun _ _ => rfl⟩ hb7 (Nat.le_refl _)) hb8 (below_of (w1 := w6.drew) ⟨rfl, rfl, rfl, Nat.le_refl _, fun _ _ => rfl⟩ hb7 (Nat.le_refl _)).size
    have f52 : wq8.cell? ⟨w.heap.size, 0, none⟩ = some (.string s) := (below_cell hb _ _ l46).trans f42
    have f53 : wq8.cell? ⟨w.heap.size, 1, none⟩ = some (v) := (below_cell hb _ _ l46).trans f43
    have f54 : wq8.cell? ⟨w4.heap.size, 0, none⟩ = some (.string s) := (below_cell hb _ _ l47).trans f44
    have f55 : wq8.cell? ⟨w4.heap.size, 1, none⟩ = some (.slice aX len cX) := (below_cell hb _ _ l47).trans f45
    have l56 : w.heap.size < wq8.heap.size := Nat.lt_of_lt_of_le l46 (hb).size
    have l57 : w4.heap.size < wq8.heap.size := Nat.lt_of_lt_of_le l47 (hb).size
    clear f42 f43 f44 f45 l46 l47
    have HB58 := Lib.hid (below_of HB48.out hb HB48.out.size)
    have HR59 := Lib.hid (iv_kept hb HR49.out)
    clear HR49
    have HR60 := Lib.hid (rv_kept hb HR50.out)
    clear HR50
    have HR61 := Lib.hid (iv_kept hb HR51.out)
    clear HR51
    clear hb hb7 hb8 ho7
    go_wp2_with fail
    refine (markProf_any s _ zs _ _ HZL.out HR60.out).mono ?_
    rintro e w7 ⟨rfl, hv, hg⟩
    rw [HN.out] at hv ⊢
    have f62 : w7.cell? ⟨w.heap.size, 0, none⟩ = some (.string s) := (gb_cell hg _ _ l56 (apart_box HXI.out (by omega))).trans f52
    have f63 : w7.cell? ⟨w.heap.size, 1, none⟩ = some (v) := (gb_cell hg _ _ l56 (apart_box HXI.out (by omega))).trans f53
    have f64 : w7.cell? ⟨w4.heap.size, 0, none⟩ = some (.string s) := (gb_cell hg _ _ l57 (apart_box HXI.out (by omega))).trans f54
    have f65 : w7.cell? ⟨w4.heap.size, 1, none⟩ = some (.slice aX len cX) := (gb_cell hg _ _ l57 (apart_box HXI.out (by omega))).trans f55
    have l66 : w.heap.size < w7.heap.size := Nat.lt_of_lt_of_le l56 hg.size
    have l67 : w4.heap.size < w7.heap.size := Nat.lt_of_lt_of_le l57 hg.size
    have HR68 := Lib.hid (iv_grown hg HR59.out (apart_of HWI.out HXI.out (by omega)))
    clear HR59
    have HR69 := Lib.hid (iv_grown hg HR61.out (apart_of HGI.out HXI.out (by omega)))
    clear HR61
    have HR70 := Lib.hid hv
    clear HR60
    have HB71 := Lib.hid (HB58.out.trans (gb_below hg HB58.out.size (fun k hk => by have := HXI.out k hk; omega)))
    clear hv hg f52 f53 f54 f55 l56 l57
    go_wp2_with fail
    refine (eqInts_at L1 _ _ _ (iv_ints HLL.out HR69.out) (iv_ints HLL.out HR68.out)).mono ?_
    rintro e w8 ⟨rfl, hb⟩
    have f72 : w8.cell? ⟨w.heap.size, 0, none⟩ = some (.string s) := (below_cell hb _ _ l66).trans f62
    have f73 : w8.cell? ⟨w.heap.size, 1, none⟩ = some (v) := (below_cell hb _ _ l66).trans f63
    have f74 : w8.cell? ⟨w4.heap.size, 0, none⟩ = some (.string s) := (below_cell hb _ _ l67).trans f64
    have f75 : w8.cell? ⟨w4.heap.size, 1, none⟩ = some (.slice aX len cX) := (below_cell hb _ _ l67).trans f65
    have l76 : w.heap.size < w8.heap.size := Nat.lt_of_lt_of_le l66 (hb).size
    have l77 : w4.heap.size < w8.heap.size := Nat.lt_of_lt_of_le l67 (hb).size
    clear f62 f63 f64 f65 l66 l67
    have HB78 := Lib.hid (below_of HB71.out hb HB71.out.size)
    have HR79 := Lib.hid (iv_kept hb HR68.out)
    clear HR68
    have HR80 := Lib.hid (iv_kept hb HR69.out)
    clear HR69
    clear hb 
    go_wp2_with fail
    refine (markIv_any 1 (by omega) _ L1 _ _ HLL.out HR80.out).mono ?_
    rintro e w9 ⟨rfl, hv, hg⟩
    rw [HN1.out] at hv ⊢
    have f81 : w9.cell? ⟨w.heap.size, 0, none⟩ = some (.string s) := (gb_cell hg _ _ l76 (apart_box HGI.out (by omega))).trans f72
    have f82 : w9.cell? ⟨w.heap.size, 1, none⟩ = some (v) := (gb_cell hg _ _ l76 (apart_box HGI.out (by omega))).trans f73
    have f83 : w9.cell? ⟨w4.heap.size, 0, none⟩ = some (.string s) := (gb_cell hg _ _ l77 (apart_box HGI.out (by omega))).trans f74
    have f84 : w9.cell? ⟨w4.heap.size, 1, none⟩ = some (.slice aX len cX) := (gb_cell hg _ _ l77 (apart_box HGI.out (by omega))).trans f75
    have l85 : w.heap.size < w9.heap.size := Nat.lt_of_lt_of_le l76 hg.size
    have l86 : w4.heap.size < w9.heap.size := Nat.lt_of_lt_of_le l77 hg.size
    have HR87 := Lib.hid (iv_grown hg HR79.out (apart_of HWI.out HGI.out (by omega)))
    clear HR79
    have HR88 := Lib.hid hv
    clear HR80
    have HB89 := Lib.hid (HB78.out.trans (gb_below hg HB78.out.size (fun k hk => by have := HGI.out k hk; omega)))
    clear hv hg f72 f73 f74 f75 l76 l77
    go_wp2_with fail
    refine (heldIv_any 1 (by omega) _ n1 _ _ hll HR88.out).mono ?_
    rintro e w9 ⟨rfl, rfl⟩
    go_wp2_with fail
    refine (toProf_any s v zs _ (rings_kept HB89.out HZ.out)).mono ?_
    rintro e w11 ⟨vx, rfl, ho, hb⟩
    have HO3 := Lib.hid (rvW HZL.out (rv_of_ownAt ho))
    have f90 : w11.cell? ⟨w.heap.size, 0, none⟩ = some (.string s) := (below_cell hb _ _ l85).trans f81
    have f91 : w11.cell? ⟨w.heap.size, 1, none⟩ = some (v) := (below_cell hb _ _ l85).trans f82
    have f92 : w11.cell? ⟨w4.heap.size, 0, none⟩ = some (.string s) := (below_cell hb _ _ l86).trans f83
    have f93 : w11.cell? ⟨w4.heap.size, 1, none⟩ = some (.slice aX len cX) := (below_cell hb _ _ l86).trans f84
    have l94 : w.heap.size < w11.heap.size := Nat.lt_of_lt_of_le l85 (hb).size
    have l95 : w4.heap.size < w11.heap.size := Nat.lt_of_lt_of_le l86 (hb).size
    clear f81 f82 f83 f84 l85 l86
    have HB96 := Lib.hid (below_of HB89.out hb HB89.out.size)
    have HR97 := Lib.hid (iv_kept hb HR87.out)
    clear HR87
    have HR98 := Lib.hid (iv_kept hb HR88.out)
    clear HR88
    clear hb ho
    go_wp2_with fail
    refine (HIM.out vx _ HO3.out).mono ?_
    rintro e w12 ⟨vh, rfl, hv, hb⟩
    obtain ⟨aH, cH, rfl⟩ := iv_form hv
    rw [HN1.out] at hv ⊢
    have HHR := Lib.hid hv
    clear hv
    have f99 : w12.cell? ⟨w.heap.size, 0, none⟩ = some (.string s) := (below_cell hb _ _ l94).trans f90
    have f100 : w12.cell? ⟨w.heap.size, 1, none⟩ = some (v) := (below_cell hb _ _ l94).trans f91
    have f101 : w12.cell? ⟨w4.heap.size, 0, none⟩ = some (.string s) := (below_cell hb _ _ l95).trans f92
    have f102 : w12.cell? ⟨w4.heap.size, 1, none⟩ = some (.slice aX len cX) := (below_cell hb _ _ l95).trans f93
    have l103 : w.heap.size < w12.heap.size := Nat.lt_of_lt_of_le l94 (hb).size
    have l104 : w4.heap.size < w12.heap.size := Nat.lt_of_lt_of_le l95 (hb).size
    clear f90 f91 f92 f93 l94 l95
    have HB105 := Lib.hid (below_of HB96.out hb HB96.out.size)
    have HR106 := Lib.hid (iv_kept hb HR97.out)
    clear HR97
    have HR107 := Lib.hid (iv_kept hb HR98.out)
    clear HR98
    clear hb 
    go_wp2_with fail
    refine (eqInts_at L1 _ _ _ (iv_ints HLL.out HHR.out) (iv_ints HLL.out HR106.out)).mono ?_
    rintro e w13 ⟨rfl, hb⟩
    have f108 : w13.cell? ⟨w.heap.size, 0, none⟩ = some (.string s) := (below_cell hb _ _ l103).trans f99
    have f109 : w13.cell? ⟨w.heap.size, 1, none⟩ = some (v) := (below_cell hb _ _ l103).trans f100
    have f110 : w13.cell? ⟨w4.heap.size, 0, none⟩ = some (.string s) := (below_cell hb _ _ l104).trans f101
    have f111 : w13.cell? ⟨w4.heap.size, 1, none⟩ = some (.slice aX len cX) := (below_cell hb _ _ l104).trans f102
    have l112 : w.heap.size < w13.heap.size := Nat.lt_of_lt_of_le l103 (hb).size
    have l113 : w4.heap.size < w13.heap.size := Nat.lt_of_lt_of_le l104 (hb).size
    clear f99 f100 f101 f102 l103 l104
    have HB114 := Lib.hid (below_of HB105.out hb HB105.out.size)
    have HR115 := Lib.hid (iv_kept hb HR106.out)
    clear HR106
    have HR116 := Lib.hid (iv_kept hb HR107.out)
    clear HR107
    have HR117 := Lib.hid (iv_kept hb HHR.out)
    clear HHR
    clear hb 
    go_wp2_with fail
    refine (heldIv_any 1 (by omega) _ n1 _ _ hll HR116.out).mono ?_
    rintro e w13 ⟨rfl, rfl⟩
    go_wp2
    go_ret
    exact ⟨rfl, HB114.out⟩
  · have HL := Lib.hid (leftP_no (show (1048576 : Int) < s.size + len by omega))
    clear hI
    go_enter Try.func12, Try.ntmps12
    go_wp2_with fail
    refine (szProf_any s a len cap 1048576 _ hs hlen (by omega) (by omega)).mono ?_
    rintro e w1 ⟨rfl, hb⟩
    rw [HL.out]
    have HB := Lib.hid (below_of ((Below.refl _ _).alloc (Nat.le_refl _) _) hb (by simp))
    clear hb
    go_wp2
    go_ret
    exact ⟨rfl, HB.out⟩

set_option maxRecDepth 100000 in
theorem contract (H : Type) (enc : TypeId × Value → H) (W : World) (base : Nat) (args : Array Value) (ds gs : List (DataW H)) (before : List MemPlace)
    (hval : ∀ (j : Nat) t v, Try.f12.params[j]? = some t → args[j]? = some v → Value.okWide Try.prog W .any base t v)
    (hW : DataW.Whole enc Try.prog Try.f12.params.toList Rows.fnExactRingMassesSpec.vars false W args.toList ds gs before) :
    Calls Try.prog 12 args W fun e W' => ∃ v, e = .returned v ∧ Rows.fnExactRingMassesSpec.post enc Try.prog Try.f12 false true false false W args v W' := by
  have hW' := hW
  obtain ⟨p, q, hA0, hV, rfl, hfz, hnd⟩ := hW
  have hA : DataW.TrodAll enc Try.prog W 0 (fun _ => true) true Try.f12.params.toList args.toList ds p := hA0
  rw [Try.params12] at hA hval
  obtain ⟨v0, vs0, d0, ds0, p0, q0, hargs, rfl, rfl, h0, r0⟩ := trodAll_cons hA
  obtain ⟨v1, vs1, d1, ds1, p1, q1, hargs1, rfl, rfl, h1, r1⟩ := trodAll_cons r0
  subst hargs1
  obtain ⟨rfl, rfl, rfl⟩ := trodAll_nil r1
  obtain rfl : args = #[v0, v1] := by cases args; simp_all
  obtain ⟨rfl, rfl⟩ := trodVars_none hV
  simp only [List.append_nil] at hW'
  have hlt0 : ∀ x ∈ p0, x.block < W.heap.size := fun x hx => hW'.lt x (by simp [hx])
  have kept0 := fun (W2 : World) (hb : Below W.heap.size W W2) => Below.trod laidOut (by kernel_rfl) (of_decide_eq_true (by kernel_rfl)) h0 hb hlt0
  obtain ⟨s0, a0, len0, cap0, rfl, w0, hI0⟩ := prof_arg (hval 0 42 v0 rfl rfl) h0 hlt0
  have hlt1 : ∀ x ∈ p1, x.block < W.heap.size := fun x hx => hW'.lt x (by simp [hx])
  have kept1 := fun (W2 : World) (hb : Below W.heap.size W W2) => Below.trod laidOut (by kernel_rfl) (of_decide_eq_true (by kernel_rfl)) h1 hb hlt1
  obtain ⟨a1, rfl, -, -, w1⟩ := open_int Try.underlying2 (hval 1 2 v1 rfl rfl) h1
  clear hA0
  refine (walk s0 a0 len0 cap0 a1 w0 w1 W hI0).mono fun e W' ⟨he, hg⟩ => ?_
  subst he
  refine ⟨_, rfl, post_at (pa := p0 ++ p1) (pv := []) hW' (by simp) hg (fun _ _ => (trodAll_cons_mk (shut_bool Try.underlying4 _) trodAll_mk0)) ?_ rfl⟩
  have hk := (trodAll_cons_mk (kept0 W' hg) (trodAll_cons_mk (kept1 W' hg) trodAll_mk0))
  simp only [List.append_nil] at hk
  exact hk

set_option maxRecDepth 100000 in
theorem lifted (os : Os) (started : os.Started) (H : Type) (enc : TypeId × Value → H) :
    ReturnsInHanded {} Try.checked os 12 .any (Rows.fnExactRingMassesSpec.pre6 enc Try.prog Try.f12 Rows.fnExactRingMassesRow.domain false) (Rows.fnExactRingMassesSpec.post enc Try.prog Try.f12 false true false false) := by
  refine returnsInHanded_of_change (C := Try.checked) own started (by kernel_rfl) Try.func12
    (ChangeSpec.witness6 (enc := enc) (C := Try.checked) false ⟨#[], #[.agg #[.string ⟨#[]⟩, .slice none 0 0], .int .i64 0], []⟩ 8 (by kernel_rfl) (by kernel_rfl) (by kernel_rfl) (by kernel_rfl)) ?_
  intro W base args ds gs before hval0 hW hcnd _
  have hval : ∀ (j : Nat) t v, Try.f12.params[j]? = some t → args[j]? = some v → Value.okWide Try.prog W .any base t v := hval0
  exact contract H enc W base args ds gs before hval hW

theorem over : Rows.fnExactRingMassesRow.holds Try.pinned (OpenSpec.ofChange Rows.fnExactRingMassesSpec) :=
  OpenClaim.holds_of_wide 12 Try.f12 rfl rfl rfl rfl rfl rfl rfl ⟨rfl, rfl, rfl, rfl, rfl⟩ rfl rfl rfl rfl rfl (by kernel_rfl) Try.func12 (by kernel_rfl)
    (of_decide_eq_true (by kernel_rfl)) (by unfold Func.isWrapper; first | (rw [if_pos (by decide +kernel)]; kernel_rfl) | (rw [if_neg (by decide +kernel)]; exact ⟨rfl, rfl⟩))
    (fun os started H enc _ => lifted os started H enc)
end Go.Proofs.Ytndmakimkghihaa.fnExactRingMasses

namespace Go.Proofs.Ytndmakimkghihaa
/-- The given statement. -/
theorem fnExactRingMasses_holds : Rows.FnExactRingMassesSaid := fnExactRingMasses.over
#print axioms fnExactRingMasses_holds
end Go.Proofs.Ytndmakimkghihaa
