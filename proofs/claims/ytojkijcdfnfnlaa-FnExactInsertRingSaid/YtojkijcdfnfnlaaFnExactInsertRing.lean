/- InsertRing answers as its model at every profile, index and ring, in memory of its own. -/
import Derived.Test.YtojkijcdfnfnlaaRows
import Derived.Test.YtojkijcdfnfnlaaBase
import Derived.Test.YtojkijcdfnfnlaaLaidOut
import Derived.Test.YtojkijcdfnfnlaaProfArg
import Derived.Test.YtojkijcdfnfnlaaRingCall
import Derived.Deep.Cut
namespace Go.Proofs.Ytojkijcdfnfnlaa.fnExactInsertRing
open Go.ChangeShapes Go.WideShapes Go.ChangeAt Go.RowKit
open Go.ChangeMaps (open_string shut_string)
set_option linter.unusedVariables false

theorem own : ownKnob Try.prog.godebug = none := by kernel_rfl

set_option maxRecDepth 100000 in
set_option maxHeartbeats 6000000 in
theorem walk (s : ByteArray) (a : Option Addr) (len cap : Nat) (a1 : Int) (rx ry rz : Int) (w0 : s.size ≤ 9223372036854775807 ∧ len ≤ 9223372036854775807) (w1 : (Lit.int .i64 a1).wf = true) (wr : (Lit.int .i64 rx).wf = true ∧ (Lit.int .i64 ry).wf = true ∧ (Lit.int .i64 rz).wf = true) (w : World) (hI : len ≤ 1048576 → ∃ zs : List Rg, zs.length = len ∧ RingsAt w (.slice a len cap) zs) :
    Calls Try.prog 12 #[.agg #[.string s, .slice a len cap], .int .i64 a1, .agg #[.int .i64 rx, .int .i64 ry, .int .i64 rz]] w fun e w' => e = .returned (.bool true) ∧ Below w.heap.size w w' := by
  obtain ⟨hs, hlen⟩ := w0
  have bd1 := wf_bd w1
  clear w1
  by_cases hbig : s.size + len ≤ 1048576
  · obtain ⟨zs, hz, hzs⟩ := hI (by omega)
    have HZ := Lib.hid hzs
    have HN := Lib.hid hz
    have HL := Lib.hid (leftP_yes (show ((s.size : Int) + len ≤ 1048576) by omega))
    have hzl : zs.length ≤ 1048576 := by omega
    clear hI hz hzs
    have HV := Lib.hid (show ∃ a' c', Value.slice a len cap = .slice a' len c' from ⟨_, _, rfl⟩)
    generalize Value.slice a len cap = v at *
    obtain ⟨s1, zs1, c1, hl1, hsp, him⟩ : ∃ (s1 : ByteArray) (zs1 : List Rg) (c1 : Int), zs1.length ≤ 64 ∧ (∀ v w, RingsC w v zs → Calls Try.prog 36 #[.agg #[.string s, v], .int .i64 a1, .agg #[.int .i64 rx, .int .i64 ry, .int .i64 rz]] w (ProfU s1 zs1 c1 w)) ∧ (∀ v w, RingsC w v zs → Calls Try.prog 37 #[.agg #[.string s, v], .int .i64 a1, .agg #[.int .i64 rx, .int .i64 ry, .int .i64 rz]] w (ProfU s1 zs1 c1 w)) :=
      ⟨resS s (insC s zs a1 (rx, ry, rz)), resL (insR zs a1.toNat (rx, ry, rz)) (insC s zs a1 (rx, ry, rz)), insC s zs a1 (rx, ry, rz), ins_len s zs a1 (rx, ry, rz), fun v w h => specInsert_any s v zs a1 rx ry rz w h hs, fun v w h => implInsert_any s v zs a1 rx ry rz w h.1 hs⟩
    have HSP := Lib.hid hsp
    have HIM := Lib.hid him
    clear hsp him bd1
    have hll : zs1.length ≤ 1048576 := by omega
    obtain ⟨n1, hn1⟩ : ∃ n1, zs1.length = n1 := ⟨_, rfl⟩
    have HN1 := Lib.hid hn1
    have HLL := Lib.hid hll
    have HZL := Lib.hid hzl
    rw [hn1] at hl1 hll
    clear hn1 hzl
    have hcc : (c1 != c1) = false := by simp
    have hq3 : ((1 + 3 * (n1 : Int)) != (1 + 3 * (n1 : Int))) = false := by simp
    have hpos : ¬ (1 + 3 * (n1 : Int)) < 0 := by omega
    have hpos2 : ¬ (1 + 3 * (len : Int)) < 0 := by omega
    go_enter Try.func12, Try.ntmps12
    have fp0 : ((w.alloc (.cells #[.string s, v] 30)).alloc (.cells #[.int .i64 rx, .int .i64 ry, .int .i64 rz] 23)).cell? ⟨w.heap.size, 0, none⟩ = some (.string s) := by go_simp
    have fp1 : ((w.alloc (.cells #[.string s, v] 30)).alloc (.cells #[.int .i64 rx, .int .i64 ry, .int .i64 rz] 23)).cell? ⟨w.heap.size, 1, none⟩ = some (v) := by go_simp
    have fr0 : ((w.alloc (.cells #[.string s, v] 30)).alloc (.cells #[.int .i64 rx, .int .i64 ry, .int .i64 rz] 23)).cell? ⟨w.heap.size + 1, 0, none⟩ = some (.int .i64 rx) := by go_simp
    have fr1 : ((w.alloc (.cells #[.string s, v] 30)).alloc (.cells #[.int .i64 rx, .int .i64 ry, .int .i64 rz] 23)).cell? ⟨w.heap.size + 1, 1, none⟩ = some (.int .i64 ry) := by go_simp
    have fr2 : ((w.alloc (.cells #[.string s, v] 30)).alloc (.cells #[.int .i64 rx, .int .i64 ry, .int .i64 rz] 23)).cell? ⟨w.heap.size + 1, 2, none⟩ = some (.int .i64 rz) := by go_simp
    have lp : w.heap.size < ((w.alloc (.cells #[.string s, v] 30)).alloc (.cells #[.int .i64 rx, .int .i64 ry, .int .i64 rz] 23)).heap.size := Nat.lt_trans (alloc_lt2 _ _) (alloc_lt2 _ _)
    have lr : w.heap.size + 1 < ((w.alloc (.cells #[.string s, v] 30)).alloc (.cells #[.int .i64 rx, .int .i64 ry, .int .i64 rz] 23)).heap.size := by simp
    have HB1 := Lib.hid (((Below.refl w.heap.size w).alloc (Nat.le_refl _) (.cells #[.string s, v] 30)).alloc (by simp) (.cells #[.int .i64 rx, .int .i64 ry, .int .i64 rz] 23))
    go_wp2_with fail
    generalize ((w.alloc (.cells #[.string s, v] 30)).alloc (.cells #[.int .i64 rx, .int .i64 ry, .int .i64 rz] 23)) = wq at *
    refine (szProf_v s v len 1048576 _ HV hs hlen (by omega) (by omega)).mono ?_
    rintro e w1 ⟨rfl, hb⟩
    rw [HL.out]
    have f2 : w1.cell? ⟨w.heap.size, 0, none⟩ = some (.string s) := (below_cell hb _ _ lp).trans fp0
    have f3 : w1.cell? ⟨w.heap.size, 1, none⟩ = some (v) := (below_cell hb _ _ lp).trans fp1
    have f4 : w1.cell? ⟨(w.heap.size + 1), 0, none⟩ = some (.int .i64 rx) := (below_cell hb _ _ lr).trans fr0
    have f5 : w1.cell? ⟨(w.heap.size + 1), 1, none⟩ = some (.int .i64 ry) := (below_cell hb _ _ lr).trans fr1
    have f6 : w1.cell? ⟨(w.heap.size + 1), 2, none⟩ = some (.int .i64 rz) := (below_cell hb _ _ lr).trans fr2
    have l7 : w.heap.size < w1.heap.size := Nat.lt_of_lt_of_le lp (hb).size
    have l8 : (w.heap.size + 1) < w1.heap.size := Nat.lt_of_lt_of_le lr (hb).size
    clear fp0 fp1 fr0 fr1 fr2 lp lr
    have HB9 := Lib.hid (below_of HB1.out hb HB1.out.size)
    clear hb 
    have OZ : w.heap.size + 1 < w1.heap.size := l8
    try go_upto_region 5 with fail
    have HN_W := Lib.hid (show ∀ w' w2 : World, (w'.cell? ⟨w.heap.size, 0, none⟩ = some (.string s) ∧ w'.cell? ⟨w.heap.size, 1, none⟩ = some (v) ∧ w'.cell? ⟨(w.heap.size + 1), 0, none⟩ = some (.int .i64 rx) ∧ w'.cell? ⟨(w.heap.size + 1), 1, none⟩ = some (.int .i64 ry) ∧ w'.cell? ⟨(w.heap.size + 1), 2, none⟩ = some (.int .i64 rz) ∧ Below w1.heap.size w1 w') → Below w'.heap.size w' w2 → (w2.cell? ⟨w.heap.size, 0, none⟩ = some (.string s) ∧ w2.cell? ⟨w.heap.size, 1, none⟩ = some (v) ∧ w2.cell? ⟨(w.heap.size + 1), 0, none⟩ = some (.int .i64 rx) ∧ w2.cell? ⟨(w.heap.size + 1), 1, none⟩ = some (.int .i64 ry) ∧ w2.cell? ⟨(w.heap.size + 1), 2, none⟩ = some (.int .i64 rz) ∧ Below w1.heap.size w1 w2) from fun _ _ h hb => five_next ⟨l7, l8⟩ h hb)
    have HT_W := Lib.hid (show ∀ (w' : World) (b : Nat) (x y : Value), (w'.cell? ⟨w.heap.size, 0, none⟩ = some (.string s) ∧ w'.cell? ⟨w.heap.size, 1, none⟩ = some (v) ∧ w'.cell? ⟨(w.heap.size + 1), 0, none⟩ = some (.int .i64 rx) ∧ w'.cell? ⟨(w.heap.size + 1), 1, none⟩ = some (.int .i64 ry) ∧ w'.cell? ⟨(w.heap.size + 1), 2, none⟩ = some (.int .i64 rz) ∧ Below w1.heap.size w1 w') → w1.heap.size ≤ b → (((w'.setCell ⟨b, 0, none⟩ x).setCell ⟨b, 1, none⟩ y).cell? ⟨w.heap.size, 0, none⟩ = some (.string s) ∧ ((w'.setCell ⟨b, 0, none⟩ x).setCell ⟨b, 1, none⟩ y).cell? ⟨w.heap.size, 1, none⟩ = some (v) ∧ ((w'.setCell ⟨b, 0, none⟩ x).setCell ⟨b, 1, none⟩ y).cell? ⟨(w.heap.size + 1), 0, none⟩ = some (.int .i64 rx) ∧ ((w'.setCell ⟨b, 0, none⟩ x).setCell ⟨b, 1, none⟩ y).cell? ⟨(w.heap.size + 1), 1, none⟩ = some (.int .i64 ry) ∧ ((w'.setCell ⟨b, 0, none⟩ x).setCell ⟨b, 1, none⟩ y).cell? ⟨(w.heap.size + 1), 2, none⟩ = some (.int .i64 rz) ∧ Below w1.heap.size w1 ((w'.setCell ⟨b, 0, none⟩ x).setCell ⟨b, 1, none⟩ y)) from fun _ _ _ _ h hb => five_set ⟨l7, l8⟩ h hb)
    have HL_W := Lib.hid (show ∀ w' : World, (w'.cell? ⟨w.heap.size, 0, none⟩ = some (.string s) ∧ w'.cell? ⟨w.heap.size, 1, none⟩ = some (v) ∧ w'.cell? ⟨(w.heap.size + 1), 0, none⟩ = some (.int .i64 rx) ∧ w'.cell? ⟨(w.heap.size + 1), 1, none⟩ = some (.int .i64 ry) ∧ w'.cell? ⟨(w.heap.size + 1), 2, none⟩ = some (.int .i64 rz) ∧ Below w1.heap.size w1 w') → w1.heap.size ≤ w'.heap.size from fun _ h => h.2.2.2.2.2.size)
    have HR_W := Lib.hid (show ∀ w' : World, (w'.cell? ⟨w.heap.size, 0, none⟩ = some (.string s) ∧ w'.cell? ⟨w.heap.size, 1, none⟩ = some (v) ∧ w'.cell? ⟨(w.heap.size + 1), 0, none⟩ = some (.int .i64 rx) ∧ w'.cell? ⟨(w.heap.size + 1), 1, none⟩ = some (.int .i64 ry) ∧ w'.cell? ⟨(w.heap.size + 1), 2, none⟩ = some (.int .i64 rz) ∧ Below w1.heap.size w1 w') → RingsAt w' v zs from fun _ h => rings_kept h.2.2.2.2.2 (rings_kept HB9.out HZ.out))
    have HS_W := Lib.hid (show w1.drew.cell? ⟨w.heap.size, 0, none⟩ = some (.string s) ∧ w1.drew.cell? ⟨w.heap.size, 1, none⟩ = some (v) ∧ w1.drew.cell? ⟨(w.heap.size + 1), 0, none⟩ = some (.int .i64 rx) ∧ w1.drew.cell? ⟨(w.heap.size + 1), 1, none⟩ = some (.int .i64 ry) ∧ w1.drew.cell? ⟨(w.heap.size + 1), 2, none⟩ = some (.int .i64 rz) ∧ Below w1.heap.size w1 w1.drew from five_drew ⟨f2, f3, f4, f5, f6⟩)
    go_cut [8, 9] from 18 (fun sp sq wr => AnsAt w1 wr s1 zs1 n1 c1 sp sq)
    case first =>
      go_region_held3 (fun w' => w'.cell? ⟨w.heap.size, 0, none⟩ = some (.string s) ∧ w'.cell? ⟨w.heap.size, 1, none⟩ = some (v) ∧ w'.cell? ⟨(w.heap.size + 1), 0, none⟩ = some (.int .i64 rx) ∧ w'.cell? ⟨(w.heap.size + 1), 1, none⟩ = some (.int .i64 ry) ∧ w'.cell? ⟨(w.heap.size + 1), 2, none⟩ = some (.int .i64 rz) ∧ Below w1.heap.size w1 w')
        (first | exact HT_W.out _ _ _ _ (by assumption) (by first | exact Nat.le_refl _ | assumption | exact hbx.1.2.1) | exact HN_W.out _ _ (by assumption) (below_al _ _) | exact hkW | exact hkR | exact hkP | exact HS_W.out)
        (first
          | (go_at_call 19; refine (toProf_any s v zs _ (HR_W.out _ (by assumption))).mono ?_; rintro e wP ⟨vP, rfl, hoP, hbP⟩; have hrP : Rv wP 0 vP zs := rv_base (rv_of_ownAt hoP) (Nat.zero_le _); have hkP := HN_W.out _ _ (by assumption) hbP; have hsP := HL_W.out _ hkP; (first | (have hbx : BoxAt w1 wP w1.heap.size ∧ w1.heap.size < _ := box_al (X := w1.drew) (Nat.le_refl _) hbP) | (have hbx := box_al (W := w1) (by assumption) hbP) | (have hbx := box_next (And.left (by assumption)) hbP) | (have hbx := box_next (W := w1) (by assumption) hbP) | skip))
          | (go_at_call 15; refine (toRing_any rx ry rz _).mono ?_; rintro e wR ⟨rfl, hbR⟩; have hkR := HN_W.out _ _ (by assumption) hbR; have hsR := HL_W.out _ hkR; (first | (have hrR : Rv wR 0 vP zs := rv_kept hbR hrP) | (have hrR : Rv wR 0 vP zs := rv_kept hbR (rv_kept (below_al _ _) hrP)) | skip); (first | (have hbx : BoxAt w1 wR w1.heap.size ∧ w1.heap.size < _ := box_al (X := w1.drew) (Nat.le_refl _) hbR) | (have hbx := box_al (W := w1) (by assumption) hbR) | (have hbx := box_next (And.left (by assumption)) hbR) | (have hbx := box_next (W := w1) (by assumption) hbR) | skip))
          | (go_at_call 36; refine (HSP.out _ _ (rv_ringsC HZL.out (by first | exact hrR | exact rv_kept (below_al _ _) hrR | exact hrP | exact rv_kept (below_al _ _) hrP))).mono ?_; rintro e wW ⟨vW, rfl, hvW, hbW⟩; obtain ⟨aW, cW, rfl⟩ := rv_form hvW; rw [HN1.out] at hvW ⊢; have hsC := HL_W.out _ (by assumption); have hkW := HN_W.out _ _ (by assumption) hbW; have hsW := HL_W.out _ hkW; (first | (have hbx : BoxAt w1 wW w1.heap.size ∧ w1.heap.size < _ := box_al (X := w1.drew) (Nat.le_refl _) hbW) | (have hbx := box_al (W := w1) (by assumption) hbW) | (have hbx := box_next (And.left (by assumption)) hbW) | (have hbx := box_next (W := w1) (by assumption) hbW) | skip); (first | (have hb0 := hbx.1.1; obtain ⟨⟨y0, y1⟩, y2, y3⟩ := hb0) | skip)))
      all_goals
        go_wp2_with fail
        go_meet
        case rel => first | exact ans_new hsC hkW.2.2.2.2.2 hvW | exact ans_old hsC hkW.2.2.2.2.2 hvW hbx
    obtain ⟨bW, aW, cW, rfl, rfl, k0, k1, hle, hlt, hv, hne, hb⟩ := hcut
    obtain ⟨w3, rfl⟩ : ∃ x, x = wc := ⟨_, rfl⟩
    have HWI := Lib.hid (rv_in hv)
    have HWR := Lib.hid hv
    have HWE := Lib.hid hne
    have OW : w1.heap.size ≤ bW := hle
    have LW : bW < w3.heap.size := hlt
    clear hv hne hle HN_W HT_W HL_W HR_W HS_W
    have f10 : w3.cell? ⟨w.heap.size, 0, none⟩ = some (.string s) := (below_cell hb _ _ l7).trans f2
    have f11 : w3.cell? ⟨w.heap.size, 1, none⟩ = some (v) := (below_cell hb _ _ l7).trans f3
    have f12 : w3.cell? ⟨(w.heap.size + 1), 0, none⟩ = some (.int .i64 rx) := (below_cell hb _ _ l8).trans f4
    have f13 : w3.cell? ⟨(w.heap.size + 1), 1, none⟩ = some (.int .i64 ry) := (below_cell hb _ _ l8).trans f5
    have f14 : w3.cell? ⟨(w.heap.size + 1), 2, none⟩ = some (.int .i64 rz) := (below_cell hb _ _ l8).trans f6
    have l15 : w.heap.size < w3.heap.size := Nat.lt_of_lt_of_le l7 (hb).size
    have l16 : (w.heap.size + 1) < w3.heap.size := Nat.lt_of_lt_of_le l8 (hb).size
    clear f2 f3 f4 f5 f6 l7 l8
    have HB17 := Lib.hid (below_of HB9.out hb HB9.out.size)
    have QW : w1.heap.size ≤ w3.heap.size := hb.size
    clear hb
    have k0_W := k0
    have k1_W := k1
    have l_W := hlt
    clear k0 k1 hlt
    go_wp2_with fail
    refine (toProf_any s v zs _ (rings_kept HB17.out HZ.out)).mono ?_
    rintro e w4 ⟨vx, rfl, ho, hb⟩
    have HXR0 := rv_of_ownAt ho
    obtain ⟨aX, cX, rfl⟩ := rv_form HXR0
    rw [HN.out] at HXR0 ⊢
    have HXI := Lib.hid (rv_in HXR0)
    have HXR := Lib.hid HXR0
    have OX : w3.heap.size ≤ w4.heap.size := hb.size
    have f18 : w4.cell? ⟨w.heap.size, 0, none⟩ = some (.string s) := (below_cell hb _ _ l15).trans f10
    have f19 : w4.cell? ⟨w.heap.size, 1, none⟩ = some (v) := (below_cell hb _ _ l15).trans f11
    have f20 : w4.cell? ⟨(w.heap.size + 1), 0, none⟩ = some (.int .i64 rx) := (below_cell hb _ _ l16).trans f12
    have f21 : w4.cell? ⟨(w.heap.size + 1), 1, none⟩ = some (.int .i64 ry) := (below_cell hb _ _ l16).trans f13
    have f22 : w4.cell? ⟨(w.heap.size + 1), 2, none⟩ = some (.int .i64 rz) := (below_cell hb _ _ l16).trans f14
    have f23 : w4.cell? ⟨bW, 0, none⟩ = some (.string s1) := (below_cell hb _ _ l_W).trans k0_W
    have f24 : w4.cell? ⟨bW, 1, none⟩ = some (.slice aW n1 cW) := (below_cell hb _ _ l_W).trans k1_W
    have l25 : w.heap.size < w4.heap.size := Nat.lt_of_lt_of_le l15 (hb).size
    have l26 : (w.heap.size + 1) < w4.heap.size := Nat.lt_of_lt_of_le l16 (hb).size
    have l27 : bW < w4.heap.size := Nat.lt_of_lt_of_le l_W (hb).size
    clear f10 f11 f12 f13 f14 k0_W k1_W l15 l16 l_W
    have HB28 := Lib.hid (below_of HB17.out hb HB17.out.size)
    have HR29 := Lib.hid (rv_kept hb HWR.out)
    clear HWR
    clear hb ho HXR0
    have f30 : (w4.alloc (.cells #[.string s, .slice aX len cX] 35)).cell? ⟨w.heap.size, 0, none⟩ = some (.string s) := (below_cell (below_al w4 (.cells #[.string s, .slice aX len cX] 35)) _ _ l25).trans f18
    have f31 : (w4.alloc (.cells #[.string s, .slice aX len cX] 35)).cell? ⟨w.heap.size, 1, none⟩ = some (v) := (below_cell (below_al w4 (.cells #[.string s, .slice aX len cX] 35)) _ _ l25).trans f19
    have f32 : (w4.alloc (.cells #[.string s, .slice aX len cX] 35)).cell? ⟨(w.heap.size + 1), 0, none⟩ = some (.int .i64 rx) := (below_cell (below_al w4 (.cells #[.string s, .slice aX len cX] 35)) _ _ l26).trans f20
    have f33 : (w4.alloc (.cells #[.string s, .slice aX len cX] 35)).cell? ⟨(w.heap.size + 1), 1, none⟩ = some (.int .i64 ry) := (below_cell (below_al w4 (.cells #[.string s, .slice aX len cX] 35)) _ _ l26).trans f21
    have f34 : (w4.alloc (.cells #[.string s, .slice aX len cX] 35)).cell? ⟨(w.heap.size + 1), 2, none⟩ = some (.int .i64 rz) := (below_cell (below_al w4 (.cells #[.string s, .slice aX len cX] 35)) _ _ l26).trans f22
    have f35 : (w4.alloc (.cells #[.string s, .slice aX len cX] 35)).cell? ⟨bW, 0, none⟩ = some (.string s1) := (below_cell (below_al w4 (.cells #[.string s, .slice aX len cX] 35)) _ _ l27).trans f23
    have f36 : (w4.alloc (.cells #[.string s, .slice aX len cX] 35)).cell? ⟨bW, 1, none⟩ = some (.slice aW n1 cW) := (below_cell (below_al w4 (.cells #[.string s, .slice aX len cX] 35)) _ _ l27).trans f24
    have l37 : w.heap.size < (w4.alloc (.cells #[.string s, .slice aX len cX] 35)).heap.size := Nat.lt_of_lt_of_le l25 ((below_al w4 (.cells #[.string s, .slice aX len cX] 35))).size
    have l38 : (w.heap.size + 1) < (w4.alloc (.cells #[.string s, .slice aX len cX] 35)).heap.size := Nat.lt_of_lt_of_le l26 ((below_al w4 (.cells #[.string s, .slice aX len cX] 35))).size
    have l39 : bW < (w4.alloc (.cells #[.string s, .slice aX len cX] 35)).heap.size := Nat.lt_of_lt_of_le l27 ((below_al w4 (.cells #[.string s, .slice aX len cX] 35))).size
    clear f18 f19 f20 f21 f22 f23 f24 l25 l26 l27
    have f40 : (w4.alloc (.cells #[.string s, .slice aX len cX] 35)).cell? ⟨w4.heap.size, 0, none⟩ = some (.string s) := by go_simp
    have f41 : (w4.alloc (.cells #[.string s, .slice aX len cX] 35)).cell? ⟨w4.heap.size, 1, none⟩ = some (.slice aX len cX) := by go_simp
    have l42 : w4.heap.size < (w4.alloc (.cells #[.string s, .slice aX len cX] 35)).heap.size := alloc_lt2 _ _
    have HB43 := Lib.hid (below_of HB28.out (below_al w4 (.cells #[.string s, .slice aX len cX] 35)) HB28.out.size)
    have HR44 := Lib.hid (rv_kept (below_al w4 (.cells #[.string s, .slice aX len cX] 35)) HR29.out)
    clear HR29
    have HR45 := Lib.hid (rv_kept (below_al w4 (.cells #[.string s, .slice aX len cX] 35)) HXR.out)
    clear HXR
    go_upto_region 7 with fail
    have Ox : w4.heap.size < (w4.alloc (.cells #[.string s, .slice aX len cX] 35)).heap.size := alloc_lt2 _ _
    generalize (w4.alloc (.cells #[.string s, .slice aX len cX] 35)) = w5 at *
    try go_upto_region 7 with fail
    have HN_G := Lib.hid (show ∀ w' w2 : World, (w'.cell? ⟨w4.heap.size, 0, none⟩ = some (.string s) ∧ w'.cell? ⟨w4.heap.size, 1, none⟩ = some (.slice aX len cX) ∧ w'.cell? ⟨(w.heap.size + 1), 0, none⟩ = some (.int .i64 rx) ∧ w'.cell? ⟨(w.heap.size + 1), 1, none⟩ = some (.int .i64 ry) ∧ w'.cell? ⟨(w.heap.size + 1), 2, none⟩ = some (.int .i64 rz) ∧ Below w5.heap.size w5 w') → Below w'.heap.size w' w2 → (w2.cell? ⟨w4.heap.size, 0, none⟩ = some (.string s) ∧ w2.cell? ⟨w4.heap.size, 1, none⟩ = some (.slice aX len cX) ∧ w2.cell? ⟨(w.heap.size + 1), 0, none⟩ = some (.int .i64 rx) ∧ w2.cell? ⟨(w.heap.size + 1), 1, none⟩ = some (.int .i64 ry) ∧ w2.cell? ⟨(w.heap.size + 1), 2, none⟩ = some (.int .i64 rz) ∧ Below w5.heap.size w5 w2) from fun _ _ h hb => five_next ⟨l42, l38⟩ h hb)
    have HT_G := Lib.hid (show ∀ (w' : World) (b : Nat) (x y : Value), (w'.cell? ⟨w4.heap.size, 0, none⟩ = some (.string s) ∧ w'.cell? ⟨w4.heap.size, 1, none⟩ = some (.slice aX len cX) ∧ w'.cell? ⟨(w.heap.size + 1), 0, none⟩ = some (.int .i64 rx) ∧ w'.cell? ⟨(w.heap.size + 1), 1, none⟩ = some (.int .i64 ry) ∧ w'.cell? ⟨(w.heap.size + 1), 2, none⟩ = some (.int .i64 rz) ∧ Below w5.heap.size w5 w') → w5.heap.size ≤ b → (((w'.setCell ⟨b, 0, none⟩ x).setCell ⟨b, 1, none⟩ y).cell? ⟨w4.heap.size, 0, none⟩ = some (.string s) ∧ ((w'.setCell ⟨b, 0, none⟩ x).setCell ⟨b, 1, none⟩ y).cell? ⟨w4.heap.size, 1, none⟩ = some (.slice aX len cX) ∧ ((w'.setCell ⟨b, 0, none⟩ x).setCell ⟨b, 1, none⟩ y).cell? ⟨(w.heap.size + 1), 0, none⟩ = some (.int .i64 rx) ∧ ((w'.setCell ⟨b, 0, none⟩ x).setCell ⟨b, 1, none⟩ y).cell? ⟨(w.heap.size + 1), 1, none⟩ = some (.int .i64 ry) ∧ ((w'.setCell ⟨b, 0, none⟩ x).setCell ⟨b, 1, none⟩ y).cell? ⟨(w.heap.size + 1), 2, none⟩ = some (.int .i64 rz) ∧ Below w5.heap.size w5 ((w'.setCell ⟨b, 0, none⟩ x).setCell ⟨b, 1, none⟩ y)) from fun _ _ _ _ h hb => five_set ⟨l42, l38⟩ h hb)
    have HL_G := Lib.hid (show ∀ w' : World, (w'.cell? ⟨w4.heap.size, 0, none⟩ = some (.string s) ∧ w'.cell? ⟨w4.heap.size, 1, none⟩ = some (.slice aX len cX) ∧ w'.cell? ⟨(w.heap.size + 1), 0, none⟩ = some (.int .i64 rx) ∧ w'.cell? ⟨(w.heap.size + 1), 1, none⟩ = some (.int .i64 ry) ∧ w'.cell? ⟨(w.heap.size + 1), 2, none⟩ = some (.int .i64 rz) ∧ Below w5.heap.size w5 w') → w5.heap.size ≤ w'.heap.size from fun _ h => h.2.2.2.2.2.size)
    have HR_G := Lib.hid (show ∀ w' : World, (w'.cell? ⟨w4.heap.size, 0, none⟩ = some (.string s) ∧ w'.cell? ⟨w4.heap.size, 1, none⟩ = some (.slice aX len cX) ∧ w'.cell? ⟨(w.heap.size + 1), 0, none⟩ = some (.int .i64 rx) ∧ w'.cell? ⟨(w.heap.size + 1), 1, none⟩ = some (.int .i64 ry) ∧ w'.cell? ⟨(w.heap.size + 1), 2, none⟩ = some (.int .i64 rz) ∧ Below w5.heap.size w5 w') → RingsC w' (.slice aX len cX) zs from fun _ h => rv_ringsC HZL.out (rv_kept h.2.2.2.2.2 HR45.out))
    have HS_G := Lib.hid (show w5.drew.cell? ⟨w4.heap.size, 0, none⟩ = some (.string s) ∧ w5.drew.cell? ⟨w4.heap.size, 1, none⟩ = some (.slice aX len cX) ∧ w5.drew.cell? ⟨(w.heap.size + 1), 0, none⟩ = some (.int .i64 rx) ∧ w5.drew.cell? ⟨(w.heap.size + 1), 1, none⟩ = some (.int .i64 ry) ∧ w5.drew.cell? ⟨(w.heap.size + 1), 2, none⟩ = some (.int .i64 rz) ∧ Below w5.heap.size w5 w5.drew from five_drew ⟨f40, f41, f32, f33, f34⟩)
    go_cut [11, 12] from 18 (fun sp sq wr => AnsAt w5 wr s1 zs1 n1 c1 sp sq)
    case first =>
      go_region_held3 (fun w' => w'.cell? ⟨w4.heap.size, 0, none⟩ = some (.string s) ∧ w'.cell? ⟨w4.heap.size, 1, none⟩ = some (.slice aX len cX) ∧ w'.cell? ⟨(w.heap.size + 1), 0, none⟩ = some (.int .i64 rx) ∧ w'.cell? ⟨(w.heap.size + 1), 1, none⟩ = some (.int .i64 ry) ∧ w'.cell? ⟨(w.heap.size + 1), 2, none⟩ = some (.int .i64 rz) ∧ Below w5.heap.size w5 w')
        (first | exact HT_G.out _ _ _ _ (by assumption) (by first | exact Nat.le_refl _ | assumption | exact hbx.1.2.1) | exact HN_G.out _ _ (by assumption) (below_al _ _) | exact hkW | exact hkR | exact HS_G.out)
        (first
          | (go_at_call 15; refine (toRing_any rx ry rz _).mono ?_; rintro e wR ⟨rfl, hbR⟩; have hkR := HN_G.out _ _ (by assumption) hbR; have hsR := HL_G.out _ hkR; (first | (have hbx : BoxAt w5 wR w5.heap.size ∧ w5.heap.size < _ := box_al (X := w5.drew) (Nat.le_refl _) hbR) | (have hbx := box_al (W := w5) (by assumption) hbR) | (have hbx := box_next (And.left (by assumption)) hbR) | (have hbx := box_next (W := w5) (by assumption) hbR) | skip))
          | (go_at_call 37; refine (HIM.out _ _ (HR_G.out _ (by assumption))).mono ?_; rintro e wW ⟨vW, rfl, hvW, hbW⟩; obtain ⟨aW, cW, rfl⟩ := rv_form hvW; rw [HN1.out] at hvW ⊢; have hsC := HL_G.out _ (by assumption); have hkW := HN_G.out _ _ (by assumption) hbW; have hsW := HL_G.out _ hkW; (first | (have hbx : BoxAt w5 wW w5.heap.size ∧ w5.heap.size < _ := box_al (X := w5.drew) (Nat.le_refl _) hbW) | (have hbx := box_al (W := w5) (by assumption) hbW) | (have hbx := box_next (And.left (by assumption)) hbW) | (have hbx := box_next (W := w5) (by assumption) hbW) | skip); (first | (have hb0 := hbx.1.1; obtain ⟨⟨y0, y1⟩, y2, y3⟩ := hb0) | skip)))
      all_goals
        go_wp2_with fail
        go_meet
        case rel => first | exact ans_new hsC hkW.2.2.2.2.2 hvW | exact ans_old hsC hkW.2.2.2.2.2 hvW hbx
    obtain ⟨bG, aG, cG, rfl, rfl, k0, k1, hle, hlt, hv, hne, hb⟩ := hcut
    obtain ⟨w6g, rfl⟩ : ∃ x, x = wc := ⟨_, rfl⟩
    have HGI := Lib.hid (rv_in hv)
    have HGR := Lib.hid hv
    have HGE := Lib.hid hne
    have OG : w5.heap.size ≤ bG := hle
    have LG : bG < w6g.heap.size := hlt
    clear hv hne hle HN_G HT_G HL_G HR_G HS_G
    have f48 : w6g.cell? ⟨w.heap.size, 0, none⟩ = some (.string s) := (below_cell hb _ _ l37).trans f30
    have f49 : w6g.cell? ⟨w.heap.size, 1, none⟩ = some (v) := (below_cell hb _ _ l37).trans f31
    have f50 : w6g.cell? ⟨(w.heap.size + 1), 0, none⟩ = some (.int .i64 rx) := (below_cell hb _ _ l38).trans f32
    have f51 : w6g.cell? ⟨(w.heap.size + 1), 1, none⟩ = some (.int .i64 ry) := (below_cell hb _ _ l38).trans f33
    have f52 : w6g.cell? ⟨(w.heap.size + 1), 2, none⟩ = some (.int .i64 rz) := (below_cell hb _ _ l38).trans f34
    have f53 : w6g.cell? ⟨bW, 0, none⟩ = some (.string s1) := (below_cell hb _ _ l39).trans f35
    have f54 : w6g.cell? ⟨bW, 1, none⟩ = some (.slice aW n1 cW) := (below_cell hb _ _ l39).trans f36
    have f55 : w6g.cell? ⟨w4.heap.size, 0, none⟩ = some (.string s) := (below_cell hb _ _ l42).trans f40
    have f56 : w6g.cell? ⟨w4.heap.size, 1, none⟩ = some (.slice aX len cX) := (below_cell hb _ _ l42).trans f41
    have l57 : w.heap.size < w6g.heap.size := Nat.lt_of_lt_of_le l37 (hb).size
    have l58 : (w.heap.size + 1) < w6g.heap.size := Nat.lt_of_lt_of_le l38 (hb).size
    have l59 : bW < w6g.heap.size := Nat.lt_of_lt_of_le l39 (hb).size
    have l60 : w4.heap.size < w6g.heap.size := Nat.lt_of_lt_of_le l42 (hb).size
    clear f30 f31 f32 f33 f34 f35 f36 f40 f41 l37 l38 l39 l42
    have HB61 := Lib.hid (below_of HB43.out hb HB43.out.size)
    have HR62 := Lib.hid (rv_kept hb HR44.out)
    clear HR44
    have HR63 := Lib.hid (rv_kept hb HR45.out)
    clear HR45
    have QG : w5.heap.size ≤ w6g.heap.size := hb.size
    clear hb
    have k0_G := k0
    have k1_G := k1
    have l_G := hlt
    clear k0 k1 hlt
    go_wp2_with fail
    refine (eqProf_any s1 _ _ zs1 _ (rv_rings HLL.out HGR.out) (rv_rings HLL.out HR62.out)).mono ?_
    rintro e w6 ⟨rfl, hb⟩
    have f64 : w6.cell? ⟨w.heap.size, 0, none⟩ = some (.string s) := (below_cell hb _ _ l57).trans f48
    have f65 : w6.cell? ⟨w.heap.size, 1, none⟩ = some (v) := (below_cell hb _ _ l57).trans f49
    have f66 : w6.cell? ⟨(w.heap.size + 1), 0, none⟩ = some (.int .i64 rx) := (below_cell hb _ _ l58).trans f50
    have f67 : w6.cell? ⟨(w.heap.size + 1), 1, none⟩ = some (.int .i64 ry) := (below_cell hb _ _ l58).trans f51
    have f68 : w6.cell? ⟨(w.heap.size + 1), 2, none⟩ = some (.int .i64 rz) := (below_cell hb _ _ l58).trans f52
    have f69 : w6.cell? ⟨bW, 0, none⟩ = some (.string s1) := (below_cell hb _ _ l59).trans f53
    have f70 : w6.cell? ⟨bW, 1, none⟩ = some (.slice aW n1 cW) := (below_cell hb _ _ l59).trans f54
    have f71 : w6.cell? ⟨w4.heap.size, 0, none⟩ = some (.string s) := (below_cell hb _ _ l60).trans f55
    have f72 : w6.cell? ⟨w4.heap.size, 1, none⟩ = some (.slice aX len cX) := (below_cell hb _ _ l60).trans f56
    have f73 : w6.cell? ⟨bG, 0, none⟩ = some (.string s1) := (below_cell hb _ _ l_G).trans k0_G
    have f74 : w6.cell? ⟨bG, 1, none⟩ = some (.slice aG n1 cG) := (below_cell hb _ _ l_G).trans k1_G
    have l75 : w.heap.size < w6.heap.size := Nat.lt_of_lt_of_le l57 (hb).size
    have l76 : (w.heap.size + 1) < w6.heap.size := Nat.lt_of_lt_of_le l58 (hb).size
    have l77 : bW < w6.heap.size := Nat.lt_of_lt_of_le l59 (hb).size
    have l78 : w4.heap.size < w6.heap.size := Nat.lt_of_lt_of_le l60 (hb).size
    have l79 : bG < w6.heap.size := Nat.lt_of_lt_of_le l_G (hb).size
    clear f48 f49 f50 f51 f52 f53 f54 f55 f56 k0_G k1_G l57 l58 l59 l60 l_G
    have HB80 := Lib.hid (below_of HB61.out hb HB61.out.size)
    have HR81 := Lib.hid (rv_kept hb HR62.out)
    clear HR62
    have HR82 := Lib.hid (rv_kept hb HR63.out)
    clear HR63
    have HR83 := Lib.hid (rv_kept hb HGR.out)
    clear HGR
    clear hb 
    go_wp2
    have HIv := Lib.hid (rings_kept HB80.out HZ.out)
    have HXr := Lib.hid (rv_rings HZL.out HR82.out)
    go_region_held3 (fun w' => w'.cell? ⟨w.heap.size, 0, none⟩ = some (.string s) ∧ w'.cell? ⟨w.heap.size, 1, none⟩ = some v ∧ w'.cell? ⟨w4.heap.size, 0, none⟩ = some (.string s) ∧ w'.cell? ⟨w4.heap.size, 1, none⟩ = some (.slice aX len cX) ∧ Below w6.heap.size w6 w')
      (first | exact ⟨f64, f65, f71, f72, ⟨rfl, rfl, rfl, Nat.le_refl _, fun _ _ => rfl⟩⟩ | exact held4 (W := w6.drew) ⟨l78, l75⟩ f64 f65 f71 f72 ⟨rfl, rfl, rfl, Nat.le_refl _, fun _ _ => rfl⟩ hb7 | exact held4 (W := w7) ⟨l78, l75⟩ f64 f65 f71 f72 (below_of (w1 := w6.drew) ⟨rfl, rfl, rfl, Nat.le_refl _, fun _ _ => rfl⟩ hb7 (Nat.le_refl _)) hb8 | assumption)
      (first
        | (go_at_call 19; refine (toProf_any s v zs w6.drew (rings_kept (w := w6) (w' := w6.drew) ⟨rfl, rfl, rfl, Nat.le_refl _, fun _ _ => rfl⟩ HIv.out)).mono ?_; rintro e w7 ⟨v7, rfl, ho7, hb7⟩)
        | (go_at_call 21; refine (eqProf_any s _ v7 zs w7 (rings_kept hb7 (rings_kept (w := w6) (w' := w6.drew) ⟨rfl, rfl, rfl, Nat.le_refl _, fun _ _ => rfl⟩ HXr.out)) (ownRAt_rings HZL.out ho7)).mono ?_; rintro e w8 ⟨rfl, hb8⟩))
    have hb : Below w6.heap.size w6 w8 := below_of (below_of (w1 := w6.drew) ⟨rfl, rfl, rfl, Nat.le_refl _, fun _ _ => rfl⟩ hb7 (Nat.le_refl _)) hb8 (below_of (w1 := w6.drew) ⟨rfl, rfl, rfl, Nat.le_refl _, fun _ _ => rfl⟩ hb7 (Nat.le_refl _)).size
    have f84 : w8.cell? ⟨w.heap.size, 0, none⟩ = some (.string s) := (below_cell hb _ _ l75).trans f64
    have f85 : w8.cell? ⟨w.heap.size, 1, none⟩ = some (v) := (below_cell hb _ _ l75).trans f65
    have f86 : w8.cell? ⟨(w.heap.size + 1), 0, none⟩ = some (.int .i64 rx) := (below_cell hb _ _ l76).trans f66
    have f87 : w8.cell? ⟨(w.heap.size + 1), 1, none⟩ = some (.int .i64 ry) := (below_cell hb _ _ l76).trans f67
    have f88 : w8.cell? ⟨(w.heap.size + 1), 2, none⟩ = some (.int .i64 rz) := (below_cell hb _ _ l76).trans f68
    have f89 : w8.cell? ⟨bW, 0, none⟩ = some (.string s1) := (below_cell hb _ _ l77).trans f69
    have f90 : w8.cell? ⟨bW, 1, none⟩ = some (.slice aW n1 cW) := (below_cell hb _ _ l77).trans f70
    have f91 : w8.cell? ⟨w4.heap.size, 0, none⟩ = some (.string s) := (below_cell hb _ _ l78).trans f71
    have f92 : w8.cell? ⟨w4.heap.size, 1, none⟩ = some (.slice aX len cX) := (below_cell hb _ _ l78).trans f72
    have f93 : w8.cell? ⟨bG, 0, none⟩ = some (.string s1) := (below_cell hb _ _ l79).trans f73
    have f94 : w8.cell? ⟨bG, 1, none⟩ = some (.slice aG n1 cG) := (below_cell hb _ _ l79).trans f74
    have l95 : w.heap.size < w8.heap.size := Nat.lt_of_lt_of_le l75 (hb).size
    have l96 : (w.heap.size + 1) < w8.heap.size := Nat.lt_of_lt_of_le l76 (hb).size
    have l97 : bW < w8.heap.size := Nat.lt_of_lt_of_le l77 (hb).size
    have l98 : w4.heap.size < w8.heap.size := Nat.lt_of_lt_of_le l78 (hb).size
    have l99 : bG < w8.heap.size := Nat.lt_of_lt_of_le l79 (hb).size
    clear f64 f65 f66 f67 f68 f69 f70 f71 f72 f73 f74 l75 l76 l77 l78 l79
    have HB100 := Lib.hid (below_of HB80.out hb HB80.out.size)
    have HR101 := Lib.hid (rv_kept hb HR81.out)
    clear HR81
    have HR102 := Lib.hid (rv_kept hb HR82.out)
    clear HR82
    have HR103 := Lib.hid (rv_kept hb HR83.out)
    clear HR83
    clear hb hb7 hb8 ho7
    go_wp2_with fail
    refine (markProf_any s _ zs _ _ HZL.out HR102.out).mono ?_
    rintro e w9 ⟨rfl, hv, hg⟩
    rw [HN.out] at hv ⊢
    have f104 : w9.cell? ⟨w.heap.size, 0, none⟩ = some (.string s) := (gb_cell hg _ _ l95 (apart_box HXI.out (by omega))).trans f84
    have f105 : w9.cell? ⟨w.heap.size, 1, none⟩ = some (v) := (gb_cell hg _ _ l95 (apart_box HXI.out (by omega))).trans f85
    have f106 : w9.cell? ⟨(w.heap.size + 1), 0, none⟩ = some (.int .i64 rx) := (gb_cell hg _ _ l96 (apart_box HXI.out (by omega))).trans f86
    have f107 : w9.cell? ⟨(w.heap.size + 1), 1, none⟩ = some (.int .i64 ry) := (gb_cell hg _ _ l96 (apart_box HXI.out (by omega))).trans f87
    have f108 : w9.cell? ⟨(w.heap.size + 1), 2, none⟩ = some (.int .i64 rz) := (gb_cell hg _ _ l96 (apart_box HXI.out (by omega))).trans f88
    have f109 : w9.cell? ⟨bW, 0, none⟩ = some (.string s1) := (gb_cell hg _ _ l97 (apart_box HXI.out (by omega))).trans f89
    have f110 : w9.cell? ⟨bW, 1, none⟩ = some (.slice aW n1 cW) := (gb_cell hg _ _ l97 (apart_box HXI.out (by omega))).trans f90
    have f111 : w9.cell? ⟨w4.heap.size, 0, none⟩ = some (.string s) := (gb_cell hg _ _ l98 (apart_box HXI.out (by omega))).trans f91
    have f112 : w9.cell? ⟨w4.heap.size, 1, none⟩ = some (.slice aX len cX) := (gb_cell hg _ _ l98 (apart_box HXI.out (by omega))).trans f92
    have f113 : w9.cell? ⟨bG, 0, none⟩ = some (.string s1) := (gb_cell hg _ _ l99 (apart_box HXI.out (by omega))).trans f93
    have f114 : w9.cell? ⟨bG, 1, none⟩ = some (.slice aG n1 cG) := (gb_cell hg _ _ l99 (apart_box HXI.out (by omega))).trans f94
    have l115 : w.heap.size < w9.heap.size := Nat.lt_of_lt_of_le l95 hg.size
    have l116 : (w.heap.size + 1) < w9.heap.size := Nat.lt_of_lt_of_le l96 hg.size
    have l117 : bW < w9.heap.size := Nat.lt_of_lt_of_le l97 hg.size
    have l118 : w4.heap.size < w9.heap.size := Nat.lt_of_lt_of_le l98 hg.size
    have l119 : bG < w9.heap.size := Nat.lt_of_lt_of_le l99 hg.size
    have HR120 := Lib.hid (rv_grown hg HR101.out (apart_of HWI.out HXI.out (by omega)))
    clear HR101
    have HR121 := Lib.hid (rv_grown hg HR103.out (apart_of HGI.out HXI.out (by omega)))
    clear HR103
    have HR122 := Lib.hid hv
    clear HR102
    have HB123 := Lib.hid (HB100.out.trans (gb_below hg HB100.out.size (fun k hk => by have := HXI.out k hk; omega)))
    clear hv hg f84 f85 f86 f87 f88 f89 f90 f91 f92 f93 f94 l95 l96 l97 l98 l99
    go_wp2_with fail
    refine (eqProf_any s1 _ _ zs1 _ (rv_rings HLL.out HR121.out) (rv_rings HLL.out HR120.out)).mono ?_
    rintro e w10 ⟨rfl, hb⟩
    have f124 : w10.cell? ⟨w.heap.size, 0, none⟩ = some (.string s) := (below_cell hb _ _ l115).trans f104
    have f125 : w10.cell? ⟨w.heap.size, 1, none⟩ = some (v) := (below_cell hb _ _ l115).trans f105
    have f126 : w10.cell? ⟨(w.heap.size + 1), 0, none⟩ = some (.int .i64 rx) := (below_cell hb _ _ l116).trans f106
    have f127 : w10.cell? ⟨(w.heap.size + 1), 1, none⟩ = some (.int .i64 ry) := (below_cell hb _ _ l116).trans f107
    have f128 : w10.cell? ⟨(w.heap.size + 1), 2, none⟩ = some (.int .i64 rz) := (below_cell hb _ _ l116).trans f108
    have f129 : w10.cell? ⟨bW, 0, none⟩ = some (.string s1) := (below_cell hb _ _ l117).trans f109
    have f130 : w10.cell? ⟨bW, 1, none⟩ = some (.slice aW n1 cW) := (below_cell hb _ _ l117).trans f110
    have f131 : w10.cell? ⟨w4.heap.size, 0, none⟩ = some (.string s) := (below_cell hb _ _ l118).trans f111
    have f132 : w10.cell? ⟨w4.heap.size, 1, none⟩ = some (.slice aX len cX) := (below_cell hb _ _ l118).trans f112
    have f133 : w10.cell? ⟨bG, 0, none⟩ = some (.string s1) := (below_cell hb _ _ l119).trans f113
    have f134 : w10.cell? ⟨bG, 1, none⟩ = some (.slice aG n1 cG) := (below_cell hb _ _ l119).trans f114
    have l135 : w.heap.size < w10.heap.size := Nat.lt_of_lt_of_le l115 (hb).size
    have l136 : (w.heap.size + 1) < w10.heap.size := Nat.lt_of_lt_of_le l116 (hb).size
    have l137 : bW < w10.heap.size := Nat.lt_of_lt_of_le l117 (hb).size
    have l138 : w4.heap.size < w10.heap.size := Nat.lt_of_lt_of_le l118 (hb).size
    have l139 : bG < w10.heap.size := Nat.lt_of_lt_of_le l119 (hb).size
    clear f104 f105 f106 f107 f108 f109 f110 f111 f112 f113 f114 l115 l116 l117 l118 l119
    have HB140 := Lib.hid (below_of HB123.out hb HB123.out.size)
    have HR141 := Lib.hid (rv_kept hb HR120.out)
    clear HR120
    have HR142 := Lib.hid (rv_kept hb HR121.out)
    clear HR121
    clear hb 
    go_wp2_with fail
    refine (markProf_any s1 _ zs1 _ _ HLL.out HR142.out).mono ?_
    rintro e w11 ⟨rfl, hv, hg⟩
    rw [HN1.out] at hv ⊢
    have f143 : w11.cell? ⟨w.heap.size, 0, none⟩ = some (.string s) := (gb_cell hg _ _ l135 (apart_box HGI.out (by omega))).trans f124
    have f144 : w11.cell? ⟨w.heap.size, 1, none⟩ = some (v) := (gb_cell hg _ _ l135 (apart_box HGI.out (by omega))).trans f125
    have f145 : w11.cell? ⟨(w.heap.size + 1), 0, none⟩ = some (.int .i64 rx) := (gb_cell hg _ _ l136 (apart_box HGI.out (by omega))).trans f126
    have f146 : w11.cell? ⟨(w.heap.size + 1), 1, none⟩ = some (.int .i64 ry) := (gb_cell hg _ _ l136 (apart_box HGI.out (by omega))).trans f127
    have f147 : w11.cell? ⟨(w.heap.size + 1), 2, none⟩ = some (.int .i64 rz) := (gb_cell hg _ _ l136 (apart_box HGI.out (by omega))).trans f128
    have f148 : w11.cell? ⟨bW, 0, none⟩ = some (.string s1) := (gb_cell hg _ _ l137 (apart_box HGI.out (by omega))).trans f129
    have f149 : w11.cell? ⟨bW, 1, none⟩ = some (.slice aW n1 cW) := (gb_cell hg _ _ l137 (apart_box HGI.out (by omega))).trans f130
    have f150 : w11.cell? ⟨w4.heap.size, 0, none⟩ = some (.string s) := (gb_cell hg _ _ l138 (apart_box HGI.out (by omega))).trans f131
    have f151 : w11.cell? ⟨w4.heap.size, 1, none⟩ = some (.slice aX len cX) := (gb_cell hg _ _ l138 (apart_box HGI.out (by omega))).trans f132
    have f152 : w11.cell? ⟨bG, 0, none⟩ = some (.string s1) := (gb_cell hg _ _ l139 (fun e => HGE.out _ e.symm rfl)).trans f133
    have f153 : w11.cell? ⟨bG, 1, none⟩ = some (.slice aG n1 cG) := (gb_cell hg _ _ l139 (fun e => HGE.out _ e.symm rfl)).trans f134
    have l154 : w.heap.size < w11.heap.size := Nat.lt_of_lt_of_le l135 hg.size
    have l155 : (w.heap.size + 1) < w11.heap.size := Nat.lt_of_lt_of_le l136 hg.size
    have l156 : bW < w11.heap.size := Nat.lt_of_lt_of_le l137 hg.size
    have l157 : w4.heap.size < w11.heap.size := Nat.lt_of_lt_of_le l138 hg.size
    have l158 : bG < w11.heap.size := Nat.lt_of_lt_of_le l139 hg.size
    have HR159 := Lib.hid (rv_grown hg HR141.out (apart_of HWI.out HGI.out (by omega)))
    clear HR141
    have HR160 := Lib.hid hv
    clear HR142
    have HB161 := Lib.hid (HB140.out.trans (gb_below hg HB140.out.size (fun k hk => by have := HGI.out k hk; omega)))
    clear hv hg f124 f125 f126 f127 f128 f129 f130 f131 f132 f133 f134 l135 l136 l137 l138 l139
    go_wp2_with fail
    refine (heldProf_any s1 _ n1 _ _ hll HR160.out).mono ?_
    rintro e w12 ⟨rfl, hb⟩
    have f162 : w12.cell? ⟨w.heap.size, 0, none⟩ = some (.string s) := (below_cell hb _ _ l154).trans f143
    have f163 : w12.cell? ⟨w.heap.size, 1, none⟩ = some (v) := (below_cell hb _ _ l154).trans f144
    have f164 : w12.cell? ⟨(w.heap.size + 1), 0, none⟩ = some (.int .i64 rx) := (below_cell hb _ _ l155).trans f145
    have f165 : w12.cell? ⟨(w.heap.size + 1), 1, none⟩ = some (.int .i64 ry) := (below_cell hb _ _ l155).trans f146
    have f166 : w12.cell? ⟨(w.heap.size + 1), 2, none⟩ = some (.int .i64 rz) := (below_cell hb _ _ l155).trans f147
    have f167 : w12.cell? ⟨bW, 0, none⟩ = some (.string s1) := (below_cell hb _ _ l156).trans f148
    have f168 : w12.cell? ⟨bW, 1, none⟩ = some (.slice aW n1 cW) := (below_cell hb _ _ l156).trans f149
    have f169 : w12.cell? ⟨w4.heap.size, 0, none⟩ = some (.string s) := (below_cell hb _ _ l157).trans f150
    have f170 : w12.cell? ⟨w4.heap.size, 1, none⟩ = some (.slice aX len cX) := (below_cell hb _ _ l157).trans f151
    have f171 : w12.cell? ⟨bG, 0, none⟩ = some (.string s1) := (below_cell hb _ _ l158).trans f152
    have f172 : w12.cell? ⟨bG, 1, none⟩ = some (.slice aG n1 cG) := (below_cell hb _ _ l158).trans f153
    have l173 : w.heap.size < w12.heap.size := Nat.lt_of_lt_of_le l154 (hb).size
    have l174 : (w.heap.size + 1) < w12.heap.size := Nat.lt_of_lt_of_le l155 (hb).size
    have l175 : bW < w12.heap.size := Nat.lt_of_lt_of_le l156 (hb).size
    have l176 : w4.heap.size < w12.heap.size := Nat.lt_of_lt_of_le l157 (hb).size
    have l177 : bG < w12.heap.size := Nat.lt_of_lt_of_le l158 (hb).size
    clear f143 f144 f145 f146 f147 f148 f149 f150 f151 f152 f153 l154 l155 l156 l157 l158
    have HB178 := Lib.hid (below_of HB161.out hb HB161.out.size)
    have HR179 := Lib.hid (rv_kept hb HR159.out)
    clear HR159
    have HR180 := Lib.hid (rv_kept hb HR160.out)
    clear HR160
    clear hb 
    try go_upto_region 24 with fail
    have HN_H := Lib.hid (show ∀ w' w2 : World, (w'.cell? ⟨w.heap.size, 0, none⟩ = some (.string s) ∧ w'.cell? ⟨w.heap.size, 1, none⟩ = some (v) ∧ w'.cell? ⟨(w.heap.size + 1), 0, none⟩ = some (.int .i64 rx) ∧ w'.cell? ⟨(w.heap.size + 1), 1, none⟩ = some (.int .i64 ry) ∧ w'.cell? ⟨(w.heap.size + 1), 2, none⟩ = some (.int .i64 rz) ∧ Below w12.heap.size w12 w') → Below w'.heap.size w' w2 → (w2.cell? ⟨w.heap.size, 0, none⟩ = some (.string s) ∧ w2.cell? ⟨w.heap.size, 1, none⟩ = some (v) ∧ w2.cell? ⟨(w.heap.size + 1), 0, none⟩ = some (.int .i64 rx) ∧ w2.cell? ⟨(w.heap.size + 1), 1, none⟩ = some (.int .i64 ry) ∧ w2.cell? ⟨(w.heap.size + 1), 2, none⟩ = some (.int .i64 rz) ∧ Below w12.heap.size w12 w2) from fun _ _ h hb => five_next ⟨l173, l174⟩ h hb)
    have HT_H := Lib.hid (show ∀ (w' : World) (b : Nat) (x y : Value), (w'.cell? ⟨w.heap.size, 0, none⟩ = some (.string s) ∧ w'.cell? ⟨w.heap.size, 1, none⟩ = some (v) ∧ w'.cell? ⟨(w.heap.size + 1), 0, none⟩ = some (.int .i64 rx) ∧ w'.cell? ⟨(w.heap.size + 1), 1, none⟩ = some (.int .i64 ry) ∧ w'.cell? ⟨(w.heap.size + 1), 2, none⟩ = some (.int .i64 rz) ∧ Below w12.heap.size w12 w') → w12.heap.size ≤ b → (((w'.setCell ⟨b, 0, none⟩ x).setCell ⟨b, 1, none⟩ y).cell? ⟨w.heap.size, 0, none⟩ = some (.string s) ∧ ((w'.setCell ⟨b, 0, none⟩ x).setCell ⟨b, 1, none⟩ y).cell? ⟨w.heap.size, 1, none⟩ = some (v) ∧ ((w'.setCell ⟨b, 0, none⟩ x).setCell ⟨b, 1, none⟩ y).cell? ⟨(w.heap.size + 1), 0, none⟩ = some (.int .i64 rx) ∧ ((w'.setCell ⟨b, 0, none⟩ x).setCell ⟨b, 1, none⟩ y).cell? ⟨(w.heap.size + 1), 1, none⟩ = some (.int .i64 ry) ∧ ((w'.setCell ⟨b, 0, none⟩ x).setCell ⟨b, 1, none⟩ y).cell? ⟨(w.heap.size + 1), 2, none⟩ = some (.int .i64 rz) ∧ Below w12.heap.size w12 ((w'.setCell ⟨b, 0, none⟩ x).setCell ⟨b, 1, none⟩ y)) from fun _ _ _ _ h hb => five_set ⟨l173, l174⟩ h hb)
    have HL_H := Lib.hid (show ∀ w' : World, (w'.cell? ⟨w.heap.size, 0, none⟩ = some (.string s) ∧ w'.cell? ⟨w.heap.size, 1, none⟩ = some (v) ∧ w'.cell? ⟨(w.heap.size + 1), 0, none⟩ = some (.int .i64 rx) ∧ w'.cell? ⟨(w.heap.size + 1), 1, none⟩ = some (.int .i64 ry) ∧ w'.cell? ⟨(w.heap.size + 1), 2, none⟩ = some (.int .i64 rz) ∧ Below w12.heap.size w12 w') → w12.heap.size ≤ w'.heap.size from fun _ h => h.2.2.2.2.2.size)
    have HR_H := Lib.hid (show ∀ w' : World, (w'.cell? ⟨w.heap.size, 0, none⟩ = some (.string s) ∧ w'.cell? ⟨w.heap.size, 1, none⟩ = some (v) ∧ w'.cell? ⟨(w.heap.size + 1), 0, none⟩ = some (.int .i64 rx) ∧ w'.cell? ⟨(w.heap.size + 1), 1, none⟩ = some (.int .i64 ry) ∧ w'.cell? ⟨(w.heap.size + 1), 2, none⟩ = some (.int .i64 rz) ∧ Below w12.heap.size w12 w') → RingsAt w' v zs from fun _ h => rings_kept h.2.2.2.2.2 (rings_kept HB178.out HZ.out))
    have HS_H := Lib.hid (show w12.drew.cell? ⟨w.heap.size, 0, none⟩ = some (.string s) ∧ w12.drew.cell? ⟨w.heap.size, 1, none⟩ = some (v) ∧ w12.drew.cell? ⟨(w.heap.size + 1), 0, none⟩ = some (.int .i64 rx) ∧ w12.drew.cell? ⟨(w.heap.size + 1), 1, none⟩ = some (.int .i64 ry) ∧ w12.drew.cell? ⟨(w.heap.size + 1), 2, none⟩ = some (.int .i64 rz) ∧ Below w12.heap.size w12 w12.drew from five_drew ⟨f162, f163, f164, f165, f166⟩)
    go_cut [16, 17] from 18 (fun sp sq wr => AnsAt w12 wr s1 zs1 n1 c1 sp sq)
    case first =>
      go_region_held3 (fun w' => w'.cell? ⟨w.heap.size, 0, none⟩ = some (.string s) ∧ w'.cell? ⟨w.heap.size, 1, none⟩ = some (v) ∧ w'.cell? ⟨(w.heap.size + 1), 0, none⟩ = some (.int .i64 rx) ∧ w'.cell? ⟨(w.heap.size + 1), 1, none⟩ = some (.int .i64 ry) ∧ w'.cell? ⟨(w.heap.size + 1), 2, none⟩ = some (.int .i64 rz) ∧ Below w12.heap.size w12 w')
        (first | exact HT_H.out _ _ _ _ (by assumption) (by first | exact Nat.le_refl _ | assumption | exact hbx.1.2.1) | exact HN_H.out _ _ (by assumption) (below_al _ _) | exact hkW | exact hkR | exact hkP | exact HS_H.out)
        (first
          | (go_at_call 19; refine (toProf_any s v zs _ (HR_H.out _ (by assumption))).mono ?_; rintro e wP ⟨vP, rfl, hoP, hbP⟩; have hrP : Rv wP 0 vP zs := rv_base (rv_of_ownAt hoP) (Nat.zero_le _); have hkP := HN_H.out _ _ (by assumption) hbP; have hsP := HL_H.out _ hkP; (first | (have hbx : BoxAt w12 wP w12.heap.size ∧ w12.heap.size < _ := box_al (X := w12.drew) (Nat.le_refl _) hbP) | (have hbx := box_al (W := w12) (by assumption) hbP) | (have hbx := box_next (And.left (by assumption)) hbP) | (have hbx := box_next (W := w12) (by assumption) hbP) | skip))
          | (go_at_call 15; refine (toRing_any rx ry rz _).mono ?_; rintro e wR ⟨rfl, hbR⟩; have hkR := HN_H.out _ _ (by assumption) hbR; have hsR := HL_H.out _ hkR; (first | (have hrR : Rv wR 0 vP zs := rv_kept hbR hrP) | (have hrR : Rv wR 0 vP zs := rv_kept hbR (rv_kept (below_al _ _) hrP)) | skip); (first | (have hbx : BoxAt w12 wR w12.heap.size ∧ w12.heap.size < _ := box_al (X := w12.drew) (Nat.le_refl _) hbR) | (have hbx := box_al (W := w12) (by assumption) hbR) | (have hbx := box_next (And.left (by assumption)) hbR) | (have hbx := box_next (W := w12) (by assumption) hbR) | skip))
          | (go_at_call 37; refine (HIM.out _ _ (rv_ringsC HZL.out (by first | exact hrR | exact rv_kept (below_al _ _) hrR | exact hrP | exact rv_kept (below_al _ _) hrP))).mono ?_; rintro e wW ⟨vW, rfl, hvW, hbW⟩; obtain ⟨aW, cW, rfl⟩ := rv_form hvW; rw [HN1.out] at hvW ⊢; have hsC := HL_H.out _ (by assumption); have hkW := HN_H.out _ _ (by assumption) hbW; have hsW := HL_H.out _ hkW; (first | (have hbx : BoxAt w12 wW w12.heap.size ∧ w12.heap.size < _ := box_al (X := w12.drew) (Nat.le_refl _) hbW) | (have hbx := box_al (W := w12) (by assumption) hbW) | (have hbx := box_next (And.left (by assumption)) hbW) | (have hbx := box_next (W := w12) (by assumption) hbW) | skip); (first | (have hb0 := hbx.1.1; obtain ⟨⟨y0, y1⟩, y2, y3⟩ := hb0) | skip)))
      all_goals
        go_wp2_with fail
        go_meet
        case rel => first | exact ans_new hsC hkW.2.2.2.2.2 hvW | exact ans_old hsC hkW.2.2.2.2.2 hvW hbx
    obtain ⟨bH, aH, cH, rfl, rfl, k0, k1, hle, hlt, hv, hne, hb⟩ := hcut
    obtain ⟨w14, rfl⟩ : ∃ x, x = wc := ⟨_, rfl⟩
    have HHI := Lib.hid (rv_in hv)
    have HHR := Lib.hid hv
    have HHE := Lib.hid hne
    have OH : w12.heap.size ≤ bH := hle
    have LH : bH < w14.heap.size := hlt
    clear hv hne hle HN_H HT_H HL_H HR_H HS_H
    have f181 : w14.cell? ⟨w.heap.size, 0, none⟩ = some (.string s) := (below_cell hb _ _ l173).trans f162
    have f182 : w14.cell? ⟨w.heap.size, 1, none⟩ = some (v) := (below_cell hb _ _ l173).trans f163
    have f183 : w14.cell? ⟨(w.heap.size + 1), 0, none⟩ = some (.int .i64 rx) := (below_cell hb _ _ l174).trans f164
    have f184 : w14.cell? ⟨(w.heap.size + 1), 1, none⟩ = some (.int .i64 ry) := (below_cell hb _ _ l174).trans f165
    have f185 : w14.cell? ⟨(w.heap.size + 1), 2, none⟩ = some (.int .i64 rz) := (below_cell hb _ _ l174).trans f166
    have f186 : w14.cell? ⟨bW, 0, none⟩ = some (.string s1) := (below_cell hb _ _ l175).trans f167
    have f187 : w14.cell? ⟨bW, 1, none⟩ = some (.slice aW n1 cW) := (below_cell hb _ _ l175).trans f168
    have f188 : w14.cell? ⟨w4.heap.size, 0, none⟩ = some (.string s) := (below_cell hb _ _ l176).trans f169
    have f189 : w14.cell? ⟨w4.heap.size, 1, none⟩ = some (.slice aX len cX) := (below_cell hb _ _ l176).trans f170
    have f190 : w14.cell? ⟨bG, 0, none⟩ = some (.string s1) := (below_cell hb _ _ l177).trans f171
    have f191 : w14.cell? ⟨bG, 1, none⟩ = some (.slice aG n1 cG) := (below_cell hb _ _ l177).trans f172
    have l192 : w.heap.size < w14.heap.size := Nat.lt_of_lt_of_le l173 (hb).size
    have l193 : (w.heap.size + 1) < w14.heap.size := Nat.lt_of_lt_of_le l174 (hb).size
    have l194 : bW < w14.heap.size := Nat.lt_of_lt_of_le l175 (hb).size
    have l195 : w4.heap.size < w14.heap.size := Nat.lt_of_lt_of_le l176 (hb).size
    have l196 : bG < w14.heap.size := Nat.lt_of_lt_of_le l177 (hb).size
    clear f162 f163 f164 f165 f166 f167 f168 f169 f170 f171 f172 l173 l174 l175 l176 l177
    have HB197 := Lib.hid (below_of HB178.out hb HB178.out.size)
    have HR198 := Lib.hid (rv_kept hb HR179.out)
    clear HR179
    have HR199 := Lib.hid (rv_kept hb HR180.out)
    clear HR180
    have QH : w12.heap.size ≤ w14.heap.size := hb.size
    clear hb
    have k0_H := k0
    have k1_H := k1
    have l_H := hlt
    clear k0 k1 hlt
    go_wp2_with fail
    refine (eqProf_any s1 _ _ zs1 _ (rv_rings HLL.out HHR.out) (rv_rings HLL.out HR198.out)).mono ?_
    rintro e w15 ⟨rfl, hb⟩
    have f200 : w15.cell? ⟨w.heap.size, 0, none⟩ = some (.string s) := (below_cell hb _ _ l192).trans f181
    have f201 : w15.cell? ⟨w.heap.size, 1, none⟩ = some (v) := (below_cell hb _ _ l192).trans f182
    have f202 : w15.cell? ⟨(w.heap.size + 1), 0, none⟩ = some (.int .i64 rx) := (below_cell hb _ _ l193).trans f183
    have f203 : w15.cell? ⟨(w.heap.size + 1), 1, none⟩ = some (.int .i64 ry) := (below_cell hb _ _ l193).trans f184
    have f204 : w15.cell? ⟨(w.heap.size + 1), 2, none⟩ = some (.int .i64 rz) := (below_cell hb _ _ l193).trans f185
    have f205 : w15.cell? ⟨bW, 0, none⟩ = some (.string s1) := (below_cell hb _ _ l194).trans f186
    have f206 : w15.cell? ⟨bW, 1, none⟩ = some (.slice aW n1 cW) := (below_cell hb _ _ l194).trans f187
    have f207 : w15.cell? ⟨w4.heap.size, 0, none⟩ = some (.string s) := (below_cell hb _ _ l195).trans f188
    have f208 : w15.cell? ⟨w4.heap.size, 1, none⟩ = some (.slice aX len cX) := (below_cell hb _ _ l195).trans f189
    have f209 : w15.cell? ⟨bG, 0, none⟩ = some (.string s1) := (below_cell hb _ _ l196).trans f190
    have f210 : w15.cell? ⟨bG, 1, none⟩ = some (.slice aG n1 cG) := (below_cell hb _ _ l196).trans f191
    have f211 : w15.cell? ⟨bH, 0, none⟩ = some (.string s1) := (below_cell hb _ _ l_H).trans k0_H
    have f212 : w15.cell? ⟨bH, 1, none⟩ = some (.slice aH n1 cH) := (below_cell hb _ _ l_H).trans k1_H
    have l213 : w.heap.size < w15.heap.size := Nat.lt_of_lt_of_le l192 (hb).size
    have l214 : (w.heap.size + 1) < w15.heap.size := Nat.lt_of_lt_of_le l193 (hb).size
    have l215 : bW < w15.heap.size := Nat.lt_of_lt_of_le l194 (hb).size
    have l216 : w4.heap.size < w15.heap.size := Nat.lt_of_lt_of_le l195 (hb).size
    have l217 : bG < w15.heap.size := Nat.lt_of_lt_of_le l196 (hb).size
    have l218 : bH < w15.heap.size := Nat.lt_of_lt_of_le l_H (hb).size
    clear f181 f182 f183 f184 f185 f186 f187 f188 f189 f190 f191 k0_H k1_H l192 l193 l194 l195 l196 l_H
    have HB219 := Lib.hid (below_of HB197.out hb HB197.out.size)
    have HR220 := Lib.hid (rv_kept hb HR198.out)
    clear HR198
    have HR221 := Lib.hid (rv_kept hb HR199.out)
    clear HR199
    have HR222 := Lib.hid (rv_kept hb HHR.out)
    clear HHR
    clear hb 
    go_wp2_with fail
    refine (heldProf_any s1 _ n1 _ _ hll HR221.out).mono ?_
    rintro e w16 ⟨rfl, hb⟩
    have f223 : w16.cell? ⟨w.heap.size, 0, none⟩ = some (.string s) := (below_cell hb _ _ l213).trans f200
    have f224 : w16.cell? ⟨w.heap.size, 1, none⟩ = some (v) := (below_cell hb _ _ l213).trans f201
    have f225 : w16.cell? ⟨(w.heap.size + 1), 0, none⟩ = some (.int .i64 rx) := (below_cell hb _ _ l214).trans f202
    have f226 : w16.cell? ⟨(w.heap.size + 1), 1, none⟩ = some (.int .i64 ry) := (below_cell hb _ _ l214).trans f203
    have f227 : w16.cell? ⟨(w.heap.size + 1), 2, none⟩ = some (.int .i64 rz) := (below_cell hb _ _ l214).trans f204
    have f228 : w16.cell? ⟨bW, 0, none⟩ = some (.string s1) := (below_cell hb _ _ l215).trans f205
    have f229 : w16.cell? ⟨bW, 1, none⟩ = some (.slice aW n1 cW) := (below_cell hb _ _ l215).trans f206
    have f230 : w16.cell? ⟨w4.heap.size, 0, none⟩ = some (.string s) := (below_cell hb _ _ l216).trans f207
    have f231 : w16.cell? ⟨w4.heap.size, 1, none⟩ = some (.slice aX len cX) := (below_cell hb _ _ l216).trans f208
    have f232 : w16.cell? ⟨bG, 0, none⟩ = some (.string s1) := (below_cell hb _ _ l217).trans f209
    have f233 : w16.cell? ⟨bG, 1, none⟩ = some (.slice aG n1 cG) := (below_cell hb _ _ l217).trans f210
    have f234 : w16.cell? ⟨bH, 0, none⟩ = some (.string s1) := (below_cell hb _ _ l218).trans f211
    have f235 : w16.cell? ⟨bH, 1, none⟩ = some (.slice aH n1 cH) := (below_cell hb _ _ l218).trans f212
    have l236 : w.heap.size < w16.heap.size := Nat.lt_of_lt_of_le l213 (hb).size
    have l237 : (w.heap.size + 1) < w16.heap.size := Nat.lt_of_lt_of_le l214 (hb).size
    have l238 : bW < w16.heap.size := Nat.lt_of_lt_of_le l215 (hb).size
    have l239 : w4.heap.size < w16.heap.size := Nat.lt_of_lt_of_le l216 (hb).size
    have l240 : bG < w16.heap.size := Nat.lt_of_lt_of_le l217 (hb).size
    have l241 : bH < w16.heap.size := Nat.lt_of_lt_of_le l218 (hb).size
    clear f200 f201 f202 f203 f204 f205 f206 f207 f208 f209 f210 f211 f212 l213 l214 l215 l216 l217 l218
    have HB242 := Lib.hid (below_of HB219.out hb HB219.out.size)
    have HR243 := Lib.hid (rv_kept hb HR220.out)
    clear HR220
    have HR244 := Lib.hid (rv_kept hb HR221.out)
    clear HR221
    have HR245 := Lib.hid (rv_kept hb HR222.out)
    clear HR222
    clear hb 
    go_wp2
    go_ret
    exact ⟨rfl, HB242.out⟩
  · have HL := Lib.hid (leftP_no (show (1048576 : Int) < s.size + len by omega))
    clear hI
    go_enter Try.func12, Try.ntmps12
    go_wp2_with fail
    refine (szProf_any s a len cap 1048576 _ hs hlen (by omega) (by omega)).mono ?_
    rintro e w1 ⟨rfl, hb⟩
    rw [HL.out]
    have HB := Lib.hid (below_of (((Below.refl w.heap.size w).alloc (Nat.le_refl _) (.cells #[.string s, .slice a len cap] 30)).alloc (by simp) (.cells #[.int .i64 rx, .int .i64 ry, .int .i64 rz] 23)) hb (by simp <;> omega))
    clear hb
    go_wp2
    go_ret
    exact ⟨rfl, HB.out⟩

set_option maxRecDepth 100000 in
theorem contract (H : Type) (enc : TypeId × Value → H) (W : World) (base : Nat) (args : Array Value) (ds gs : List (DataW H)) (before : List MemPlace)
    (hval : ∀ (j : Nat) t v, Try.f12.params[j]? = some t → args[j]? = some v → Value.okWide Try.prog W .any base t v)
    (hW : DataW.Whole enc Try.prog Try.f12.params.toList Rows.fnExactInsertRingSpec.vars false W args.toList ds gs before) :
    Calls Try.prog 12 args W fun e W' => ∃ v, e = .returned v ∧ Rows.fnExactInsertRingSpec.post enc Try.prog Try.f12 false true false false W args v W' := by
  have hW' := hW
  obtain ⟨p, q, hA0, hV, rfl, hfz, hnd⟩ := hW
  have hA : DataW.TrodAll enc Try.prog W 0 (fun _ => true) true Try.f12.params.toList args.toList ds p := hA0
  rw [Try.params12] at hA hval
  obtain ⟨v0, vs0, d0, ds0, p0, q0, hargs, rfl, rfl, h0, r0⟩ := trodAll_cons hA
  obtain ⟨v1, vs1, d1, ds1, p1, q1, hargs1, rfl, rfl, h1, r1⟩ := trodAll_cons r0
  subst hargs1
  obtain ⟨v2, vs2, d2, ds2, p2, q2, hargs2, rfl, rfl, h2, r2⟩ := trodAll_cons r1
  subst hargs2
  obtain ⟨rfl, rfl, rfl⟩ := trodAll_nil r2
  obtain rfl : args = #[v0, v1, v2] := by cases args; simp_all
  obtain ⟨rfl, rfl⟩ := trodVars_none hV
  simp only [List.append_nil] at hW'
  have hlt0 : ∀ x ∈ p0, x.block < W.heap.size := fun x hx => hW'.lt x (by simp [hx])
  have kept0 := fun (W2 : World) (hb : Below W.heap.size W W2) => Below.trod laidOut (by kernel_rfl) (of_decide_eq_true (by kernel_rfl)) h0 hb hlt0
  obtain ⟨s0, a0, len0, cap0, rfl, w0, hI0⟩ := prof_arg (hval 0 30 v0 rfl rfl) h0 hlt0
  have hlt1 : ∀ x ∈ p1, x.block < W.heap.size := fun x hx => hW'.lt x (by simp [hx])
  have kept1 := fun (W2 : World) (hb : Below W.heap.size W W2) => Below.trod laidOut (by kernel_rfl) (of_decide_eq_true (by kernel_rfl)) h1 hb hlt1
  obtain ⟨a1, rfl, -, -, w1⟩ := open_int Try.underlying2 (hval 1 2 v1 rfl rfl) h1
  have hlt2 : ∀ x ∈ p2, x.block < W.heap.size := fun x hx => hW'.lt x (by simp [hx])
  have kept2 := fun (W2 : World) (hb : Below W.heap.size W W2) => Below.trod laidOut (by kernel_rfl) (of_decide_eq_true (by kernel_rfl)) h2 hb hlt2
  obtain ⟨r2x, r2y, r2z, rfl, w2⟩ := ring_arg (hval 2 23 v2 rfl rfl) h2
  clear hA0
  refine (walk s0 a0 len0 cap0 a1 r2x r2y r2z w0 w1 w2 W hI0).mono fun e W' ⟨he, hg⟩ => ?_
  subst he
  refine ⟨_, rfl, post_at (pa := p0 ++ (p1 ++ p2)) (pv := []) hW' (by simp) hg (fun _ _ => (trodAll_cons_mk (shut_bool Try.underlying4 _) trodAll_mk0)) ?_ rfl⟩
  have hk := (trodAll_cons_mk (kept0 W' hg) (trodAll_cons_mk (kept1 W' hg) (trodAll_cons_mk (kept2 W' hg) trodAll_mk0)))
  simp only [List.append_nil] at hk
  exact hk

set_option maxRecDepth 100000 in
theorem lifted (os : Os) (started : os.Started) (H : Type) (enc : TypeId × Value → H) :
    ReturnsInHanded {} Try.checked os 12 .any (Rows.fnExactInsertRingSpec.pre6 enc Try.prog Try.f12 Rows.fnExactInsertRingRow.domain false) (Rows.fnExactInsertRingSpec.post enc Try.prog Try.f12 false true false false) := by
  refine returnsInHanded_of_change (C := Try.checked) own started (by kernel_rfl) Try.func12
    (ChangeSpec.witness6 (enc := enc) (C := Try.checked) false ⟨#[], #[.agg #[.string ⟨#[]⟩, .slice none 0 0], .int .i64 0, .agg #[.int .i64 0, .int .i64 0, .int .i64 0]], []⟩ 8 (by kernel_rfl) (by kernel_rfl) (by kernel_rfl) (by kernel_rfl)) ?_
  intro W base args ds gs before hval0 hW hcnd _
  have hval : ∀ (j : Nat) t v, Try.f12.params[j]? = some t → args[j]? = some v → Value.okWide Try.prog W .any base t v := hval0
  exact contract H enc W base args ds gs before hval hW

theorem over : Rows.fnExactInsertRingRow.holds Try.pinned (OpenSpec.ofChange Rows.fnExactInsertRingSpec) :=
  OpenClaim.holds_of_wide 12 Try.f12 rfl rfl rfl rfl rfl rfl rfl ⟨rfl, rfl, rfl, rfl, rfl⟩ rfl rfl rfl rfl rfl (by kernel_rfl) Try.func12 (by kernel_rfl)
    (of_decide_eq_true (by kernel_rfl)) (by unfold Func.isWrapper; first | (rw [if_pos (by decide +kernel)]; kernel_rfl) | (rw [if_neg (by decide +kernel)]; exact ⟨rfl, rfl⟩))
    (fun os started H enc _ => lifted os started H enc)
end Go.Proofs.Ytojkijcdfnfnlaa.fnExactInsertRing

namespace Go.Proofs.Ytojkijcdfnfnlaa
/-- The given statement. -/
theorem fnExactInsertRing_holds : Rows.FnExactInsertRingSaid := fnExactInsertRing.over
#print axioms fnExactInsertRing_holds
end Go.Proofs.Ytojkijcdfnfnlaa
