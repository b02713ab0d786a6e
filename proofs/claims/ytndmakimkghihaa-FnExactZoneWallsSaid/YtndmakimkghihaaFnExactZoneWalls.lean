/- The law FnExactZoneWalls answers true at every profile and every list of zones and changes nothing: the program's walls and code are the reference model's, and the list handed back is shared with nothing. -/
import Derived.Test.YtndmakimkghihaaRows
import Derived.Test.YtndmakimkghihaaBase
import Derived.Test.YtndmakimkghihaaLaidOut
import Derived.Test.YtndmakimkghihaaProfArg
import Derived.Test.YtndmakimkghihaaZone
import Derived.Deep.RegionHeld3
namespace Go.Proofs.Ytndmakimkghihaa.fnExactZoneWalls
open Go.ChangeShapes Go.WideShapes Go.ChangeAt Go.RowKit
open Go.ChangeMaps (open_string shut_string)
set_option linter.unusedVariables false

theorem own : ownKnob Try.prog.godebug = none := by kernel_rfl

set_option maxRecDepth 100000 in
set_option maxHeartbeats 1600000 in
theorem walk (s : ByteArray) (a : Option Addr) (len cap : Nat) (p1 : Option Addr) (len1 cap1 : Nat) (w0 : s.size ≤ 9223372036854775807 ∧ len ≤ 9223372036854775807) (w1 : len1 ≤ 9223372036854775807) (w : World) (hI : len ≤ 1048576 → ∃ zs : List Rg, zs.length = len ∧ RingsAt w (.slice a len cap) zs) (hI1 : len1 ≤ 1048576 → ∃ zs : List Int, zs.length = len1 ∧ IntsAt w (.slice p1 len1 cap1) zs ∧ ∀ z ∈ zs, (Lit.int .i64 z).wf = true) :
    Calls Try.prog 6 #[.agg #[.string s, .slice a len cap], .slice p1 len1 cap1] w fun e w' => e = .returned (.bool true) ∧ Below w.heap.size w w' := by
  obtain ⟨hs, hlen⟩ := w0
  by_cases hbz1 : 1048576 < len1
  · clear hI
    go_enter Try.func6, Try.ntmps6
    go_wp2
    go_ret
    exact ⟨rfl, below_al _ _⟩
  obtain ⟨z1, hzn1, hzi1, -⟩ := hI1 (by omega)
  have HZN1 := Lib.hid hzn1
  have HY1 := Lib.hid hzi1
  have HYL1 := Lib.hid (show z1.length ≤ 1048576 by omega)
  clear hzn1 hzi1 hI1
  by_cases hbig : s.size + len ≤ 1048576
  · obtain ⟨zs, hz, hzs⟩ := hI (by omega)
    have HZ := Lib.hid hzs
    have HN := Lib.hid hz
    have HL := Lib.hid (leftP_yes (show ((s.size : Int) + len ≤ 1048576) by omega))
    have hzl : zs.length ≤ 1048576 := by omega
    clear hI hz hzs
    have HV := Lib.hid (show ∃ a' c', Value.slice a len cap = .slice a' len c' from ⟨_, _, rfl⟩)
    generalize Value.slice a len cap = v at *
    obtain ⟨L1, c1, hl1, hsp, him⟩ : ∃ (L1 : List Int) (c1 : Int), L1.length ≤ 64 ∧ (∀ v u1 w, RingsW w v zs → IntsAt w u1 z1 → Calls Try.prog 30 #[.agg #[.string s, v], u1] w (IntU L1 c1 w)) ∧ (∀ v u1 w, RingsW w v zs → IntsAt w u1 z1 → Calls Try.prog 32 #[.agg #[.string s, v], u1] w (IntU L1 c1 w)) :=
      ⟨zwL s zs z1, zwC s zs z1, zw_len s zs z1, fun v u1 w h h1 => specZW_any s v u1 zs z1 w h.1 hs h1, fun v u1 w h h1 => implZW_any s v u1 zs z1 w h hs h1⟩
    have HSP := Lib.hid hsp
    have HIM := Lib.hid him
    clear hsp him
    obtain ⟨n1, hn1⟩ : ∃ n1, L1.length = n1 := ⟨_, rfl⟩
    have HN1 := Lib.hid hn1
    have HLL := Lib.hid (show L1.length ≤ 1048576 by omega)
    have HZL := Lib.hid hzl
    rw [hn1] at hl1
    have hll : n1 ≤ 1048576 := by omega
    clear hn1 hzl
    have hcc : (c1 != c1) = false := by simp
    have hq3 : ((1 + (n1 : Int)) != (1 + (n1 : Int))) = false := by simp
    have hpos : ¬ (1 + (n1 : Int)) < 0 := by omega
    have hpos2 : ¬ (1 + 3 * (len : Int) + (len1 : Int)) < 0 := by omega
    go_enter Try.func6, Try.ntmps6
    have f1 : (w.alloc (.cells #[.string s, v] 42)).cell? ⟨w.heap.size, 0, none⟩ = some (.string s) := by go_simp
    have f2 : (w.alloc (.cells #[.string s, v] 42)).cell? ⟨w.heap.size, 1, none⟩ = some (v) := by go_simp
    have l3 : w.heap.size < (w.alloc (.cells #[.string s, v] 42)).heap.size := alloc_lt2 _ _
    have HB4 := Lib.hid ((below_al w (.cells #[.string s, v] 42)))
    go_wp2_with fail
    generalize (w.alloc (.cells #[.string s, v] 42)) = wb5 at *
    refine (szProf_v s v len 1048576 _ HV hs hlen (by omega) (by omega)).mono ?_
    rintro e w1 ⟨rfl, hb⟩
    rw [HL.out]
    have f6 : w1.cell? ⟨w.heap.size, 0, none⟩ = some (.string s) := (below_cell hb _ _ l3).trans f1
    have f7 : w1.cell? ⟨w.heap.size, 1, none⟩ = some (v) := (below_cell hb _ _ l3).trans f2
    have l8 : w.heap.size < w1.heap.size := Nat.lt_of_lt_of_le l3 (hb).size
    clear f1 f2 l3
    have HB9 := Lib.hid (below_of HB4.out hb HB4.out.size)
    clear hb 
    go_wp2_with fail
    refine (toProf_any s v zs _ (rings_kept HB9.out HZ.out)).mono ?_
    rintro e w2 ⟨vx, rfl, ho, hb⟩
    have HO2 := Lib.hid (rvW HZL.out (rv_of_ownAt ho))
    have f10 : w2.cell? ⟨w.heap.size, 0, none⟩ = some (.string s) := (below_cell hb _ _ l8).trans f6
    have f11 : w2.cell? ⟨w.heap.size, 1, none⟩ = some (v) := (below_cell hb _ _ l8).trans f7
    have l12 : w.heap.size < w2.heap.size := Nat.lt_of_lt_of_le l8 (hb).size
    clear f6 f7 l8
    have HB13 := Lib.hid (below_of HB9.out hb HB9.out.size)
    clear hb ho
    go_wp2_with fail
    refine (toInts_any z1 _ _ (ints_kept HB13.out HY1.out)).mono ?_
    rintro e w3 ⟨y1, rfl, hoz, hb⟩
    have HO14 := Lib.hid (ringsW_kept hb HO2.out)
    have HY15 := Lib.hid (own_ints HYL1.out hoz)
    have f16 : w3.cell? ⟨w.heap.size, 0, none⟩ = some (.string s) := (below_cell hb _ _ l12).trans f10
    have f17 : w3.cell? ⟨w.heap.size, 1, none⟩ = some (v) := (below_cell hb _ _ l12).trans f11
    have l18 : w.heap.size < w3.heap.size := Nat.lt_of_lt_of_le l12 (hb).size
    clear f10 f11 l12
    have HB19 := Lib.hid (below_of HB13.out hb HB13.out.size)
    clear hb hoz
    go_wp2_with fail
    have O0 : w.heap.size < w3.heap.size := l18
    refine (HSP.out vx y1 _ HO14.out HY15.out).mono ?_
    rintro e w4 ⟨vw, rfl, hv, hb⟩
    have OW : w3.heap.size ≤ w4.heap.size := hb.size
    obtain ⟨aW, cW, rfl⟩ := iv_form hv
    rw [HN1.out] at hv ⊢
    have HWI := Lib.hid (iv_in hv)
    have HWR := Lib.hid hv
    clear hv
    have f20 : w4.cell? ⟨w.heap.size, 0, none⟩ = some (.string s) := (below_cell hb _ _ l18).trans f16
    have f21 : w4.cell? ⟨w.heap.size, 1, none⟩ = some (v) := (below_cell hb _ _ l18).trans f17
    have l22 : w.heap.size < w4.heap.size := Nat.lt_of_lt_of_le l18 (hb).size
    clear f16 f17 l18
    have HB23 := Lib.hid (below_of HB19.out hb HB19.out.size)
    clear hb 
    go_wp2_with fail
    refine (toProf_any s v zs _ (rings_kept HB23.out HZ.out)).mono ?_
    rintro e w5 ⟨vx, rfl, ho, hb⟩
    have HXR0 := rv_of_ownAt ho
    obtain ⟨aX, cX, rfl⟩ := rv_form HXR0
    rw [HN.out] at HXR0 ⊢
    have HXI := Lib.hid (rv_in HXR0)
    have HXR := Lib.hid HXR0
    have OX : w4.heap.size ≤ w5.heap.size := hb.size
    have f24 : w5.cell? ⟨w.heap.size, 0, none⟩ = some (.string s) := (below_cell hb _ _ l22).trans f20
    have f25 : w5.cell? ⟨w.heap.size, 1, none⟩ = some (v) := (below_cell hb _ _ l22).trans f21
    have l26 : w.heap.size < w5.heap.size := Nat.lt_of_lt_of_le l22 (hb).size
    clear f20 f21 l22
    have HB27 := Lib.hid (below_of HB23.out hb HB23.out.size)
    have HR28 := Lib.hid (iv_kept hb HWR.out)
    clear HWR
    clear hb ho HXR0
    have f29 : (w5.alloc (.cells #[.string s, .slice aX len cX] 48)).cell? ⟨w.heap.size, 0, none⟩ = some (.string s) := (below_cell (below_al w5 (.cells #[.string s, .slice aX len cX] 48)) _ _ l26).trans f24
    have f30 : (w5.alloc (.cells #[.string s, .slice aX len cX] 48)).cell? ⟨w.heap.size, 1, none⟩ = some (v) := (below_cell (below_al w5 (.cells #[.string s, .slice aX len cX] 48)) _ _ l26).trans f25
    have l31 : w.heap.size < (w5.alloc (.cells #[.string s, .slice aX len cX] 48)).heap.size := Nat.lt_of_lt_of_le l26 ((below_al w5 (.cells #[.string s, .slice aX len cX] 48))).size
    clear f24 f25 l26
    have f32 : (w5.alloc (.cells #[.string s, .slice aX len cX] 48)).cell? ⟨w5.heap.size, 0, none⟩ = some (.string s) := by go_simp
    have f33 : (w5.alloc (.cells #[.string s, .slice aX len cX] 48)).cell? ⟨w5.heap.size, 1, none⟩ = some (.slice aX len cX) := by go_simp
    have l34 : w5.heap.size < (w5.alloc (.cells #[.string s, .slice aX len cX] 48)).heap.size := alloc_lt2 _ _
    have HB35 := Lib.hid (below_of HB27.out (below_al w5 (.cells #[.string s, .slice aX len cX] 48)) HB27.out.size)
    have HR36 := Lib.hid (iv_kept (below_al w5 (.cells #[.string s, .slice aX len cX] 48)) HR28.out)
    clear HR28
    have HR37 := Lib.hid (rv_kept (below_al w5 (.cells #[.string s, .slice aX len cX] 48)) HXR.out)
    clear HXR
    go_wp2_with fail
    have Ox : w5.heap.size < (w5.alloc (.cells #[.string s, .slice aX len cX] 48)).heap.size := alloc_lt2 _ _
    generalize (w5.alloc (.cells #[.string s, .slice aX len cX] 48)) = wb38 at *
    refine (toInts_any z1 _ _ (ints_kept HB35.out HY1.out)).mono ?_
    rintro e w6 ⟨yz, rfl, hoz, hb⟩
    have hv := iv_own hoz
    obtain ⟨aZ1, cZ1, rfl⟩ := iv_form hv
    rw [HZN1.out] at hv ⊢
    have HZI1 := Lib.hid (iv_in hv)
    have HZR1 := Lib.hid hv
    have OZ1 : wb38.heap.size ≤ w6.heap.size := hb.size
    clear hv hoz
    have f39 : w6.cell? ⟨w.heap.size, 0, none⟩ = some (.string s) := (below_cell hb _ _ l31).trans f29
    have f40 : w6.cell? ⟨w.heap.size, 1, none⟩ = some (v) := (below_cell hb _ _ l31).trans f30
    have f41 : w6.cell? ⟨w5.heap.size, 0, none⟩ = some (.string s) := (below_cell hb _ _ l34).trans f32
    have f42 : w6.cell? ⟨w5.heap.size, 1, none⟩ = some (.slice aX len cX) := (below_cell hb _ _ l34).trans f33
    have l43 : w.heap.size < w6.heap.size := Nat.lt_of_lt_of_le l31 (hb).size
    have l44 : w5.heap.size < w6.heap.size := Nat.lt_of_lt_of_le l34 (hb).size
    clear f29 f30 f32 f33 l31 l34
    have HB45 := Lib.hid (below_of HB35.out hb HB35.out.size)
    have HR46 := Lib.hid (iv_kept hb HR36.out)
    clear HR36
    have HR47 := Lib.hid (rv_kept hb HR37.out)
    clear HR37
    clear hb 
    go_wp2_with fail
    refine (HIM.out _ _ _ (rvW HZL.out HR47.out) (iv_ints HYL1.out HZR1.out)).mono ?_
    rintro e w7 ⟨vg, rfl, hv, hb⟩
    have OG : w6.heap.size ≤ w7.heap.size := hb.size
    obtain ⟨aG, cG, rfl⟩ := iv_form hv
    rw [HN1.out] at hv ⊢
    have HGI := Lib.hid (iv_in hv)
    have HGR := Lib.hid hv
    clear hv
    have f48 : w7.cell? ⟨w.heap.size, 0, none⟩ = some (.string s) := (below_cell hb _ _ l43).trans f39
    have f49 : w7.cell? ⟨w.heap.size, 1, none⟩ = some (v) := (below_cell hb _ _ l43).trans f40
    have f50 : w7.cell? ⟨w5.heap.size, 0, none⟩ = some (.string s) := (below_cell hb _ _ l44).trans f41
    have f51 : w7.cell? ⟨w5.heap.size, 1, none⟩ = some (.slice aX len cX) := (below_cell hb _ _ l44).trans f42
    have l52 : w.heap.size < w7.heap.size := Nat.lt_of_lt_of_le l43 (hb).size
    have l53 : w5.heap.size < w7.heap.size := Nat.lt_of_lt_of_le l44 (hb).size
    clear f39 f40 f41 f42 l43 l44
    have HB54 := Lib.hid (below_of HB45.out hb HB45.out.size)
    have HR55 := Lib.hid (iv_kept hb HR46.out)
    clear HR46
    have HR56 := Lib.hid (rv_kept hb HR47.out)
    clear HR47
    have HR57 := Lib.hid (iv_kept hb HZR1.out)
    clear HZR1
    clear hb 
    go_wp2_with fail
    refine (eqInts_at L1 _ _ _ (iv_ints HLL.out HGR.out) (iv_ints HLL.out HR55.out)).mono ?_
    rintro e w8 ⟨rfl, hb⟩
    have f58 : w8.cell? ⟨w.heap.size, 0, none⟩ = some (.string s) := (below_cell hb _ _ l52).trans f48
    have f59 : w8.cell? ⟨w.heap.size, 1, none⟩ = some (v) := (below_cell hb _ _ l52).trans f49
    have f60 : w8.cell? ⟨w5.heap.size, 0, none⟩ = some (.string s) := (below_cell hb _ _ l53).trans f50
    have f61 : w8.cell? ⟨w5.heap.size, 1, none⟩ = some (.slice aX len cX) := (below_cell hb _ _ l53).trans f51
    have l62 : w.heap.size < w8.heap.size := Nat.lt_of_lt_of_le l52 (hb).size
    have l63 : w5.heap.size < w8.heap.size := Nat.lt_of_lt_of_le l53 (hb).size
    clear f48 f49 f50 f51 l52 l53
    have HB64 := Lib.hid (below_of HB54.out hb HB54.out.size)
    have HR65 := Lib.hid (iv_kept hb HR55.out)
    clear HR55
    have HR66 := Lib.hid (rv_kept hb HR56.out)
    clear HR56
    have HR67 := Lib.hid (iv_kept hb HR57.out)
    clear HR57
    have HR68 := Lib.hid (iv_kept hb HGR.out)
    clear HGR
    clear hb 
    go_wp2
    have HIv := Lib.hid (rings_kept HB64.out HZ.out)
    have HXr := Lib.hid (rv_rings HZL.out HR66.out)
    go_region_held3 (fun w' => w'.cell? ⟨w.heap.size, 0, none⟩ = some (.string s) ∧ w'.cell? ⟨w.heap.size, 1, none⟩ = some v ∧ w'.cell? ⟨w5.heap.size, 0, none⟩ = some (.string s) ∧ w'.cell? ⟨w5.heap.size, 1, none⟩ = some (.slice aX len cX) ∧ Below w8.heap.size w8 w')
      (first | exact ⟨f58, f59, f60, f61, ⟨rfl, rfl, rfl, Nat.le_refl _, fun _ _ => rfl⟩⟩ | exact held4 (W := w8.drew) ⟨l63, l62⟩ f58 f59 f60 f61 ⟨rfl, rfl, rfl, Nat.le_refl _, fun _ _ => rfl⟩ hb7 | exact held4 (W := wq7) ⟨l63, l62⟩ f58 f59 f60 f61 (below_of (w1 := w8.drew) ⟨rfl, rfl, rfl, Nat.le_refl _, fun _ _ => rfl⟩ hb7 (Nat.le_refl _)) hb8 | assumption)
      (first
        | (go_at_call 31; refine (toProf_any s v zs w8.drew (rings_kept (w := w8) (w' := w8.drew) ⟨rfl, rfl, rfl, Nat.le_refl _, fun _ _ => rfl⟩ HIv.out)).mono ?_; rintro e wq7 ⟨v7, rfl, ho7, hb7⟩)
        | (go_at_call 33; refine (eqProf_any s _ v7 zs wq7 (rings_kept hb7 (rings_kept (w := w8) (w' := w8.drew) ⟨rfl, rfl, rfl, Nat.le_refl _, fun _ _ => rfl⟩ HXr.out)) (ownRAt_rings HZL.out ho7)).mono ?_; rintro e wq8 ⟨rfl, hb8⟩))
    have hb : Below w8.heap.size w8 wq8 := below_of (below_of (w1 := w8.drew) ⟨rfl, rfl, rfl, Nat.le_refl _, fun _ _ => rfl⟩ hb7 (Nat.le_refl _)) hb8 (below_of (w1 := w8.drew) ⟨rfl, rfl, rfl, Nat.le_refl _, fun _ _ => rfl⟩ hb7 (Nat.le_refl _)).size
    have f69 : wq8.cell? ⟨w.heap.size, 0, none⟩ = some (.string s) := (below_cell hb _ _ l62).trans f58
    have f70 : wq8.cell? ⟨w.heap.size, 1, none⟩ = some (v) := (below_cell hb _ _ l62).trans f59
    have f71 : wq8.cell? ⟨w5.heap.size, 0, none⟩ = some (.string s) := (below_cell hb _ _ l63).trans f60
    have f72 : wq8.cell? ⟨w5.heap.size, 1, none⟩ = some (.slice aX len cX) := (below_cell hb _ _ l63).trans f61
    have l73 : w.heap.size < wq8.heap.size := Nat.lt_of_lt_of_le l62 (hb).size
    have l74 : w5.heap.size < wq8.heap.size := Nat.lt_of_lt_of_le l63 (hb).size
    clear f58 f59 f60 f61 l62 l63
    have HB75 := Lib.hid (below_of HB64.out hb HB64.out.size)
    have HR76 := Lib.hid (iv_kept hb HR65.out)
    clear HR65
    have HR77 := Lib.hid (rv_kept hb HR66.out)
    clear HR66
    have HR78 := Lib.hid (iv_kept hb HR67.out)
    clear HR67
    have HR79 := Lib.hid (iv_kept hb HR68.out)
    clear HR68
    clear hb hb7 hb8 ho7
    go_wp2_with fail
    refine (toInts_any z1 _ _ (ints_kept HB75.out HY1.out)).mono ?_
    rintro e w9 ⟨yt, rfl, hoz, hb⟩
    have HT := Lib.hid (own_ints HYL1.out hoz)
    have f80 : w9.cell? ⟨w.heap.size, 0, none⟩ = some (.string s) := (below_cell hb _ _ l73).trans f69
    have f81 : w9.cell? ⟨w.heap.size, 1, none⟩ = some (v) := (below_cell hb _ _ l73).trans f70
    have f82 : w9.cell? ⟨w5.heap.size, 0, none⟩ = some (.string s) := (below_cell hb _ _ l74).trans f71
    have f83 : w9.cell? ⟨w5.heap.size, 1, none⟩ = some (.slice aX len cX) := (below_cell hb _ _ l74).trans f72
    have l84 : w.heap.size < w9.heap.size := Nat.lt_of_lt_of_le l73 (hb).size
    have l85 : w5.heap.size < w9.heap.size := Nat.lt_of_lt_of_le l74 (hb).size
    clear f69 f70 f71 f72 l73 l74
    have HB86 := Lib.hid (below_of HB75.out hb HB75.out.size)
    have HR87 := Lib.hid (iv_kept hb HR76.out)
    clear HR76
    have HR88 := Lib.hid (rv_kept hb HR77.out)
    clear HR77
    have HR89 := Lib.hid (iv_kept hb HR78.out)
    clear HR78
    have HR90 := Lib.hid (iv_kept hb HR79.out)
    clear HR79
    clear hb hoz
    go_wp2_with fail
    refine (eqInts_at z1 _ _ _ (iv_ints HYL1.out HR89.out) HT.out).mono ?_
    rintro e w10 ⟨rfl, hb⟩
    have f91 : w10.cell? ⟨w.heap.size, 0, none⟩ = some (.string s) := (below_cell hb _ _ l84).trans f80
    have f92 : w10.cell? ⟨w.heap.size, 1, none⟩ = some (v) := (below_cell hb _ _ l84).trans f81
    have f93 : w10.cell? ⟨w5.heap.size, 0, none⟩ = some (.string s) := (below_cell hb _ _ l85).trans f82
    have f94 : w10.cell? ⟨w5.heap.size, 1, none⟩ = some (.slice aX len cX) := (below_cell hb _ _ l85).trans f83
    have l95 : w.heap.size < w10.heap.size := Nat.lt_of_lt_of_le l84 (hb).size
    have l96 : w5.heap.size < w10.heap.size := Nat.lt_of_lt_of_le l85 (hb).size
    clear f80 f81 f82 f83 l84 l85
    have HB97 := Lib.hid (below_of HB86.out hb HB86.out.size)
    have HR98 := Lib.hid (iv_kept hb HR87.out)
    clear HR87
    have HR99 := Lib.hid (rv_kept hb HR88.out)
    clear HR88
    have HR100 := Lib.hid (iv_kept hb HR89.out)
    clear HR89
    have HR101 := Lib.hid (iv_kept hb HR90.out)
    clear HR90
    clear hb 
    go_wp2_with fail
    refine (markProf_any s _ zs _ _ HZL.out HR99.out).mono ?_
    rintro e w11 ⟨rfl, hv, hg⟩
    rw [HN.out] at hv ⊢
    have f102 : w11.cell? ⟨w.heap.size, 0, none⟩ = some (.string s) := (gb_cell hg _ _ l95 (apart_box HXI.out (by omega))).trans f91
    have f103 : w11.cell? ⟨w.heap.size, 1, none⟩ = some (v) := (gb_cell hg _ _ l95 (apart_box HXI.out (by omega))).trans f92
    have f104 : w11.cell? ⟨w5.heap.size, 0, none⟩ = some (.string s) := (gb_cell hg _ _ l96 (apart_box HXI.out (by omega))).trans f93
    have f105 : w11.cell? ⟨w5.heap.size, 1, none⟩ = some (.slice aX len cX) := (gb_cell hg _ _ l96 (apart_box HXI.out (by omega))).trans f94
    have l106 : w.heap.size < w11.heap.size := Nat.lt_of_lt_of_le l95 hg.size
    have l107 : w5.heap.size < w11.heap.size := Nat.lt_of_lt_of_le l96 hg.size
    have HR108 := Lib.hid (iv_grown hg HR98.out (apart_of HWI.out HXI.out (by omega)))
    clear HR98
    have HR109 := Lib.hid (iv_grown hg HR100.out (apart_of HZI1.out HXI.out (by omega)))
    clear HR100
    have HR110 := Lib.hid (iv_grown hg HR101.out (apart_of HGI.out HXI.out (by omega)))
    clear HR101
    have HR111 := Lib.hid hv
    clear HR99
    have HB112 := Lib.hid (HB97.out.trans (gb_below hg HB97.out.size (fun k hk => by have := HXI.out k hk; omega)))
    clear hv hg f91 f92 f93 f94 l95 l96
    go_wp2_with fail
    refine (markIv_any (1 + 3 * (len : Int)) (by omega) _ z1 _ _ HYL1.out HR109.out).mono ?_
    rintro e w12 ⟨rfl, hv, hg⟩
    rw [HZN1.out] at hv ⊢
    have f113 : w12.cell? ⟨w.heap.size, 0, none⟩ = some (.string s) := (gb_cell hg _ _ l106 (apart_box HZI1.out (by omega))).trans f102
    have f114 : w12.cell? ⟨w.heap.size, 1, none⟩ = some (v) := (gb_cell hg _ _ l106 (apart_box HZI1.out (by omega))).trans f103
    have f115 : w12.cell? ⟨w5.heap.size, 0, none⟩ = some (.string s) := (gb_cell hg _ _ l107 (apart_box HZI1.out (by omega))).trans f104
    have f116 : w12.cell? ⟨w5.heap.size, 1, none⟩ = some (.slice aX len cX) := (gb_cell hg _ _ l107 (apart_box HZI1.out (by omega))).trans f105
    have l117 : w.heap.size < w12.heap.size := Nat.lt_of_lt_of_le l106 hg.size
    have l118 : w5.heap.size < w12.heap.size := Nat.lt_of_lt_of_le l107 hg.size
    have HR119 := Lib.hid (iv_grown hg HR108.out (apart_of HWI.out HZI1.out (by omega)))
    clear HR108
    have HR120 := Lib.hid (iv_grown hg HR110.out (apart_of HGI.out HZI1.out (by omega)))
    clear HR110
    have HR121 := Lib.hid hv
    clear HR109
    have HB122 := Lib.hid (HB112.out.trans (gb_below hg HB112.out.size (fun k hk => by have := HZI1.out k hk; omega)))
    clear hv hg f102 f103 f104 f105 l106 l107
    go_wp2_with fail
    refine (eqInts_at L1 _ _ _ (iv_ints HLL.out HR120.out) (iv_ints HLL.out HR119.out)).mono ?_
    rintro e w13 ⟨rfl, hb⟩
    have f123 : w13.cell? ⟨w.heap.size, 0, none⟩ = some (.string s) := (below_cell hb _ _ l117).trans f113
    have f124 : w13.cell? ⟨w.heap.size, 1, none⟩ = some (v) := (below_cell hb _ _ l117).trans f114
    have f125 : w13.cell? ⟨w5.heap.size, 0, none⟩ = some (.string s) := (below_cell hb _ _ l118).trans f115
    have f126 : w13.cell? ⟨w5.heap.size, 1, none⟩ = some (.slice aX len cX) := (below_cell hb _ _ l118).trans f116
    have l127 : w.heap.size < w13.heap.size := Nat.lt_of_lt_of_le l117 (hb).size
    have l128 : w5.heap.size < w13.heap.size := Nat.lt_of_lt_of_le l118 (hb).size
    clear f113 f114 f115 f116 l117 l118
    have HB129 := Lib.hid (below_of HB122.out hb HB122.out.size)
    have HR130 := Lib.hid (iv_kept hb HR119.out)
    clear HR119
    have HR131 := Lib.hid (iv_kept hb HR120.out)
    clear HR120
    clear hb 
    go_wp2_with fail
    refine (markIv_any 1 (by omega) _ L1 _ _ HLL.out HR131.out).mono ?_
    rintro e w14 ⟨rfl, hv, hg⟩
    rw [HN1.out] at hv ⊢
    have f132 : w14.cell? ⟨w.heap.size, 0, none⟩ = some (.string s) := (gb_cell hg _ _ l127 (apart_box HGI.out (by omega))).trans f123
    have f133 : w14.cell? ⟨w.heap.size, 1, none⟩ = some (v) := (gb_cell hg _ _ l127 (apart_box HGI.out (by omega))).trans f124
    have f134 : w14.cell? ⟨w5.heap.size, 0, none⟩ = some (.string s) := (gb_cell hg _ _ l128 (apart_box HGI.out (by omega))).trans f125
    have f135 : w14.cell? ⟨w5.heap.size, 1, none⟩ = some (.slice aX len cX) := (gb_cell hg _ _ l128 (apart_box HGI.out (by omega))).trans f126
    have l136 : w.heap.size < w14.heap.size := Nat.lt_of_lt_of_le l127 hg.size
    have l137 : w5.heap.size < w14.heap.size := Nat.lt_of_lt_of_le l128 hg.size
    have HR138 := Lib.hid (iv_grown hg HR130.out (apart_of HWI.out HGI.out (by omega)))
    clear HR130
    have HR139 := Lib.hid hv
    clear HR131
    have HB140 := Lib.hid (HB129.out.trans (gb_below hg HB129.out.size (fun k hk => by have := HGI.out k hk; omega)))
    clear hv hg f123 f124 f125 f126 l127 l128
    go_wp2_with fail
    refine (heldIv_any 1 (by omega) _ n1 _ _ hll HR139.out).mono ?_
    rintro e w14 ⟨rfl, rfl⟩
    go_wp2_with fail
    refine (toProf_any s v zs _ (rings_kept HB140.out HZ.out)).mono ?_
    rintro e w16 ⟨vx, rfl, ho, hb⟩
    have HO3 := Lib.hid (rvW HZL.out (rv_of_ownAt ho))
    have f141 : w16.cell? ⟨w.heap.size, 0, none⟩ = some (.string s) := (below_cell hb _ _ l136).trans f132
    have f142 : w16.cell? ⟨w.heap.size, 1, none⟩ = some (v) := (below_cell hb _ _ l136).trans f133
    have f143 : w16.cell? ⟨w5.heap.size, 0, none⟩ = some (.string s) := (below_cell hb _ _ l137).trans f134
    have f144 : w16.cell? ⟨w5.heap.size, 1, none⟩ = some (.slice aX len cX) := (below_cell hb _ _ l137).trans f135
    have l145 : w.heap.size < w16.heap.size := Nat.lt_of_lt_of_le l136 (hb).size
    have l146 : w5.heap.size < w16.heap.size := Nat.lt_of_lt_of_le l137 (hb).size
    clear f132 f133 f134 f135 l136 l137
    have HB147 := Lib.hid (below_of HB140.out hb HB140.out.size)
    have HR148 := Lib.hid (iv_kept hb HR138.out)
    clear HR138
    have HR149 := Lib.hid (iv_kept hb HR139.out)
    clear HR139
    clear hb ho
    go_wp2_with fail
    refine (toInts_any z1 _ _ (ints_kept HB147.out HY1.out)).mono ?_
    rintro e w17 ⟨y1, rfl, hoz, hb⟩
    have HO150 := Lib.hid (ringsW_kept hb HO3.out)
    have HY151 := Lib.hid (own_ints HYL1.out hoz)
    have f152 : w17.cell? ⟨w.heap.size, 0, none⟩ = some (.string s) := (below_cell hb _ _ l145).trans f141
    have f153 : w17.cell? ⟨w.heap.size, 1, none⟩ = some (v) := (below_cell hb _ _ l145).trans f142
    have f154 : w17.cell? ⟨w5.heap.size, 0, none⟩ = some (.string s) := (below_cell hb _ _ l146).trans f143
    have f155 : w17.cell? ⟨w5.heap.size, 1, none⟩ = some (.slice aX len cX) := (below_cell hb _ _ l146).trans f144
    have l156 : w.heap.size < w17.heap.size := Nat.lt_of_lt_of_le l145 (hb).size
    have l157 : w5.heap.size < w17.heap.size := Nat.lt_of_lt_of_le l146 (hb).size
    clear f141 f142 f143 f144 l145 l146
    have HB158 := Lib.hid (below_of HB147.out hb HB147.out.size)
    have HR159 := Lib.hid (iv_kept hb HR148.out)
    clear HR148
    have HR160 := Lib.hid (iv_kept hb HR149.out)
    clear HR149
    clear hb hoz
    go_wp2_with fail
    refine (HIM.out vx y1 _ HO150.out HY151.out).mono ?_
    rintro e w18 ⟨vh, rfl, hv, hb⟩
    obtain ⟨aH, cH, rfl⟩ := iv_form hv
    rw [HN1.out] at hv ⊢
    have HHR := Lib.hid hv
    clear hv
    have f161 : w18.cell? ⟨w.heap.size, 0, none⟩ = some (.string s) := (below_cell hb _ _ l156).trans f152
    have f162 : w18.cell? ⟨w.heap.size, 1, none⟩ = some (v) := (below_cell hb _ _ l156).trans f153
    have f163 : w18.cell? ⟨w5.heap.size, 0, none⟩ = some (.string s) := (below_cell hb _ _ l157).trans f154
    have f164 : w18.cell? ⟨w5.heap.size, 1, none⟩ = some (.slice aX len cX) := (below_cell hb _ _ l157).trans f155
    have l165 : w.heap.size < w18.heap.size := Nat.lt_of_lt_of_le l156 (hb).size
    have l166 : w5.heap.size < w18.heap.size := Nat.lt_of_lt_of_le l157 (hb).size
    clear f152 f153 f154 f155 l156 l157
    have HB167 := Lib.hid (below_of HB158.out hb HB158.out.size)
    have HR168 := Lib.hid (iv_kept hb HR159.out)
    clear HR159
    have HR169 := Lib.hid (iv_kept hb HR160.out)
    clear HR160
    clear hb 
    go_wp2_with fail
    refine (eqInts_at L1 _ _ _ (iv_ints HLL.out HHR.out) (iv_ints HLL.out HR168.out)).mono ?_
    rintro e w19 ⟨rfl, hb⟩
    have f170 : w19.cell? ⟨w.heap.size, 0, none⟩ = some (.string s) := (below_cell hb _ _ l165).trans f161
    have f171 : w19.cell? ⟨w.heap.size, 1, none⟩ = some (v) := (below_cell hb _ _ l165).trans f162
    have f172 : w19.cell? ⟨w5.heap.size, 0, none⟩ = some (.string s) := (below_cell hb _ _ l166).trans f163
    have f173 : w19.cell? ⟨w5.heap.size, 1, none⟩ = some (.slice aX len cX) := (below_cell hb _ _ l166).trans f164
    have l174 : w.heap.size < w19.heap.size := Nat.lt_of_lt_of_le l165 (hb).size
    have l175 : w5.heap.size < w19.heap.size := Nat.lt_of_lt_of_le l166 (hb).size
    clear f161 f162 f163 f164 l165 l166
    have HB176 := Lib.hid (below_of HB167.out hb HB167.out.size)
    have HR177 := Lib.hid (iv_kept hb HR168.out)
    clear HR168
    have HR178 := Lib.hid (iv_kept hb HR169.out)
    clear HR169
    have HR179 := Lib.hid (iv_kept hb HHR.out)
    clear HHR
    clear hb 
    go_wp2_with fail
    refine (heldIv_any 1 (by omega) _ n1 _ _ hll HR178.out).mono ?_
    rintro e w19 ⟨rfl, rfl⟩
    go_wp2
    go_ret
    exact ⟨rfl, HB176.out⟩
  · have HL := Lib.hid (leftP_no (show (1048576 : Int) < s.size + len by omega))
    clear hI
    go_enter Try.func6, Try.ntmps6
    go_wp2_with fail
    refine (szProf_any s a len cap 1048576 _ hs hlen (by omega) (by omega)).mono ?_
    rintro e w1 ⟨rfl, hb⟩
    rw [HL.out]
    have HB := Lib.hid (below_of ((Below.refl _ _).alloc (Nat.le_refl _) _) hb (by simp))
    clear hb
    go_wp2
    go_ret
    exact ⟨rfl, HB.out⟩

set_option maxRecDepth 100000 in
theorem contract (H : Type) (enc : TypeId × Value → H) (W : World) (base : Nat) (args : Array Value) (ds gs : List (DataW H)) (before : List MemPlace)
    (hval : ∀ (j : Nat) t v, Try.f6.params[j]? = some t → args[j]? = some v → Value.okWide Try.prog W .any base t v)
    (hW : DataW.Whole enc Try.prog Try.f6.params.toList Rows.fnExactZoneWallsSpec.vars false W args.toList ds gs before) :
    Calls Try.prog 6 args W fun e W' => ∃ v, e = .returned v ∧ Rows.fnExactZoneWallsSpec.post enc Try.prog Try.f6 false true false false W args v W' := by
  have hW' := hW
  obtain ⟨p, q, hA0, hV, rfl, hfz, hnd⟩ := hW
  have hA : DataW.TrodAll enc Try.prog W 0 (fun _ => true) true Try.f6.params.toList args.toList ds p := hA0
  rw [Try.params6] at hA hval
  obtain ⟨v0, vs0, d0, ds0, p0, q0, hargs, rfl, rfl, h0, r0⟩ := trodAll_cons hA
  obtain ⟨v1, vs1, d1, ds1, p1, q1, hargs1, rfl, rfl, h1, r1⟩ := trodAll_cons r0
  subst hargs1
  obtain ⟨rfl, rfl, rfl⟩ := trodAll_nil r1
  obtain rfl : args = #[v0, v1] := by cases args; simp_all
  obtain ⟨rfl, rfl⟩ := trodVars_none hV
  simp only [List.append_nil] at hW'
  have hlt0 : ∀ x ∈ p0, x.block < W.heap.size := fun x hx => hW'.lt x (by simp [hx])
  have kept0 := fun (W2 : World) (hb : Below W.heap.size W W2) => Below.trod laidOut (by kernel_rfl) (of_decide_eq_true (by kernel_rfl)) h0 hb hlt0
  obtain ⟨s0, a0, len0, cap0, rfl, w0, hI0⟩ := prof_arg (hval 0 42 v0 rfl rfl) h0 hlt0
  have hlt1 : ∀ x ∈ p1, x.block < W.heap.size := fun x hx => hW'.lt x (by simp [hx])
  have kept1 := fun (W2 : World) (hb : Below W.heap.size W W2) => Below.trod laidOut (by kernel_rfl) (of_decide_eq_true (by kernel_rfl)) h1 hb hlt1
  obtain ⟨a1, len1, cap1, rfl⟩ := okWide_slice Try.underlying22 (hval 1 22 v1 rfl rfl)
  obtain ⟨fuel1, hf1⟩ := h1
  obtain ⟨w1, hI1⟩ := ints_arg hf1 hlt1
  clear hA0
  refine (walk s0 a0 len0 cap0 a1 len1 cap1 w0 w1 W hI0 hI1).mono fun e W' ⟨he, hg⟩ => ?_
  subst he
  refine ⟨_, rfl, post_at (pa := p0 ++ p1) (pv := []) hW' (by simp) hg (fun _ _ => (trodAll_cons_mk (shut_bool Try.underlying4 _) trodAll_mk0)) ?_ rfl⟩
  have hk := (trodAll_cons_mk (kept0 W' hg) (trodAll_cons_mk (kept1 W' hg) trodAll_mk0))
  simp only [List.append_nil] at hk
  exact hk

set_option maxRecDepth 100000 in
theorem lifted (os : Os) (started : os.Started) (H : Type) (enc : TypeId × Value → H) :
    ReturnsInHanded {} Try.checked os 6 .any (Rows.fnExactZoneWallsSpec.pre6 enc Try.prog Try.f6 Rows.fnExactZoneWallsRow.domain false) (Rows.fnExactZoneWallsSpec.post enc Try.prog Try.f6 false true false false) := by
  refine returnsInHanded_of_change (C := Try.checked) own started (by kernel_rfl) Try.func6
    (ChangeSpec.witness6 (enc := enc) (C := Try.checked) false ⟨#[], #[.agg #[.string ⟨#[]⟩, .slice none 0 0], .slice none 0 0], []⟩ 8 (by kernel_rfl) (by kernel_rfl) (by kernel_rfl) (by kernel_rfl)) ?_
  intro W base args ds gs before hval0 hW hcnd _
  have hval : ∀ (j : Nat) t v, Try.f6.params[j]? = some t → args[j]? = some v → Value.okWide Try.prog W .any base t v := hval0
  exact contract H enc W base args ds gs before hval hW

theorem over : Rows.fnExactZoneWallsRow.holds Try.pinned (OpenSpec.ofChange Rows.fnExactZoneWallsSpec) :=
  OpenClaim.holds_of_wide 6 Try.f6 rfl rfl rfl rfl rfl rfl rfl ⟨rfl, rfl, rfl, rfl, rfl⟩ rfl rfl rfl rfl rfl (by kernel_rfl) Try.func6 (by kernel_rfl)
    (of_decide_eq_true (by kernel_rfl)) (by unfold Func.isWrapper; first | (rw [if_pos (by decide +kernel)]; kernel_rfl) | (rw [if_neg (by decide +kernel)]; exact ⟨rfl, rfl⟩))
    (fun os started H enc _ => lifted os started H enc)
end Go.Proofs.Ytndmakimkghihaa.fnExactZoneWalls

namespace Go.Proofs.Ytndmakimkghihaa
/-- The given statement. -/
theorem fnExactZoneWalls_holds : Rows.FnExactZoneWallsSaid := fnExactZoneWalls.over
#print axioms fnExactZoneWalls_holds
end Go.Proofs.Ytndmakimkghihaa
