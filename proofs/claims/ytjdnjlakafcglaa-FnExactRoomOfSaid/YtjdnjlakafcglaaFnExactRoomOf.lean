/- At every drawn profile and zones, RoomOf answers as the reference model does, every number and the code; its arguments stay as they were; its answer owns its memory. -/
import Derived.Test.YtjdnjlakafcglaaRows
import Derived.Test.YtjdnjlakafcglaaG1
import Derived.Test.YtjdnjlakafcglaaG2
import Derived.Test.YtjdnjlakafcglaaRoomA
import Derived.Test.YtjdnjlakafcglaaIntRes
import Derived.Test.YtjdnjlakafcglaaRingRes
import Derived.Deep.RegionHeld3
namespace Go.Proofs.Ytjdnjlakafcglaa.fnExactRoomOf
open Go.ChangeShapes Go.WideShapes Go.ChangeAt Go.RowKit
open Go.ChangeMaps (open_string shut_string)
set_option linter.unusedVariables false

theorem own : ownKnob Try.prog.godebug = none := by kernel_rfl

set_option maxRecDepth 100000 in
set_option maxHeartbeats 4000000 in
theorem walk (s0 : ByteArray) (p0 : Option Addr) (len0 cap0 : Nat) (p1 : Option Addr) (len1 cap1 : Nat) (w0 : s0.size ≤ 9223372036854775807 ∧ len0 ≤ 9223372036854775807) (w1 : len1 ≤ 9223372036854775807) (w : World) (hI0 : len0 ≤ 1048576 → ∃ zs : List Rg, zs.length = len0 ∧ RingsAt w (.slice p0 len0 cap0) zs) (hI1 : len1 ≤ 1048576 → ∃ zs : List Int, zs.length = len1 ∧ IntsAt w (.slice p1 len1 cap1) zs ∧ ∀ z ∈ zs, (Lit.int .i64 z).wf = true) :
    Calls Try.prog 10 #[.agg #[.string s0, .slice p0 len0 cap0], .slice p1 len1 cap1] w fun e w' => e = .returned (.bool true) ∧ Below w.heap.size w w' := by
  obtain ⟨hs0, hlen0⟩ := w0
  have hlen1 := w1
  clear w1
  by_cases hbz1 : 1048576 < len1
  · clear hI0 hI1
    go_enter Try.func10, Try.ntmps10
    go_wp2
    go_ret
    exact ⟨rfl, below_al _ _⟩
  obtain ⟨z1, hzn1, hzi1, -⟩ := hI1 (by omega)
  have HZN1 := Lib.hid hzn1
  have HY1 := Lib.hid hzi1
  have HYL1 := Lib.hid (show z1.length ≤ 1048576 by omega)
  clear hzn1 hzi1 hI1
  have HV0 := Lib.hid (show ∃ a' c', Value.slice p0 len0 cap0 = .slice a' len0 c' from ⟨_, _, rfl⟩)
  generalize Value.slice p0 len0 cap0 = v0 at *
  by_cases hbig0 : (s0.size + len0) ≤ 1048576
  · obtain ⟨T1, hT1⟩ : ∃ T, (s0.size + len0) = T := ⟨_, rfl⟩
    have HL0 := Lib.hid (show leftP s0.size len0 (1048576) = 1048576 - (T1 : Int) by rw [leftP_yes (by omega)]; omega)
    have hTb1 : T1 ≤ 1048576 := by omega
    obtain ⟨zs0, hz0, hzs0⟩ := hI0 (by omega)
    have HZ0 := Lib.hid hzs0
    have HN0 := Lib.hid hz0
    have HZL0 := Lib.hid (show zs0.length ≤ 1048576 by omega)
    clear hzs0 hz0 hI0
    have hTl0 : len0 ≤ 1048576 := by omega
    clear hT1 hbig0
    obtain ⟨L1, c1, hl1, hsp, him⟩ : ∃ (L1 : List Int) (c1 : Int), L1.length ≤ 64 ∧ (∀ v0 u1 w, RingsW w v0 zs0 → IntsAt w u1 z1 → Calls Try.prog 42 #[.agg #[.string s0, v0], u1] w (IntU L1 c1 w)) ∧ (∀ v0 u1 w, RingsW w v0 zs0 → IntsAt w u1 z1 → Calls Try.prog 43 #[.agg #[.string s0, v0], u1] w (IntU L1 c1 w)) :=
      ⟨roL s0 zs0 z1, roC s0 zs0 z1, ro_len s0 zs0 z1, fun v0 u1 w h h1 => specRO_any s0 v0 u1 zs0 z1 w h.1 hs0 h1, fun v0 u1 w h h1 => implRO_any s0 v0 u1 zs0 z1 w h.1 hs0 h1⟩
    have HSP := Lib.hid hsp
    have HIM := Lib.hid him
    clear hsp him
    obtain ⟨n1, hn1⟩ : ∃ n1, L1.length = n1 := ⟨_, rfl⟩
    have HN1 := Lib.hid hn1
    have HLL := Lib.hid (show L1.length ≤ 1048576 by omega)
    rw [hn1] at hl1
    have hll : n1 ≤ 1048576 := by omega
    clear hn1
    have hcc : (c1 != c1) = false := by simp
    have hq3 : ((1 + (n1 : Int)) != (1 + (n1 : Int))) = false := by simp
    have hpos : ¬ (1 + (n1 : Int)) < 0 := by omega
    have hpos2 : ¬ (1 + 3 * (len0 : Int) + (len1 : Int)) < 0 := by omega
    go_enter Try.func10, Try.ntmps10
    have f1 : (w.alloc (.cells #[.string s0, v0] 24)).cell? ⟨w.heap.size, 0, none⟩ = some (.string s0) := by go_simp
    have f2 : (w.alloc (.cells #[.string s0, v0] 24)).cell? ⟨w.heap.size, 1, none⟩ = some (v0) := by go_simp
    have l3 : w.heap.size < (w.alloc (.cells #[.string s0, v0] 24)).heap.size := by simp
    have HB4 := Lib.hid ((below_al w (.cells #[.string s0, v0] 24)))
    go_wp2_with fail
    generalize (w.alloc (.cells #[.string s0, v0] 24)) = wb at *
    refine (szProf_v s0 v0 len0 (1048576) _ HV0 hs0 hlen0 (by omega) (by omega)).mono ?_
    rintro e w_1 ⟨rfl, hb⟩
    rw [HL0.out]
    have f5 : w_1.cell? ⟨w.heap.size, 0, none⟩ = some (.string s0) := (below_cell hb _ _ l3).trans f1
    have f6 : w_1.cell? ⟨w.heap.size, 1, none⟩ = some (v0) := (below_cell hb _ _ l3).trans f2
    have l7 : w.heap.size < w_1.heap.size := Nat.lt_of_lt_of_le l3 (hb).size
    clear f1 f2 l3
    have HB8 := Lib.hid (below_of HB4.out hb HB4.out.size)
    clear hb 
    go_wp2_with fail
    refine (toProf_any s0 v0 zs0 _ (rings_kept HB8.out HZ0.out)).mono ?_
    rintro e w_2 ⟨vx0, rfl, ho, hb⟩
    have HO9 := Lib.hid (rvW HZL0.out (rv_of_ownAt ho))
    have f10 : w_2.cell? ⟨w.heap.size, 0, none⟩ = some (.string s0) := (below_cell hb _ _ l7).trans f5
    have f11 : w_2.cell? ⟨w.heap.size, 1, none⟩ = some (v0) := (below_cell hb _ _ l7).trans f6
    have l12 : w.heap.size < w_2.heap.size := Nat.lt_of_lt_of_le l7 (hb).size
    clear f5 f6 l7
    have HB13 := Lib.hid (below_of HB8.out hb HB8.out.size)
    clear hb ho
    go_wp2_with fail
    refine (toInts_any z1 _ _ (ints_kept HB13.out HY1.out)).mono ?_
    rintro e w_3 ⟨vx1, rfl, ho, hb⟩
    have HO14 := Lib.hid (ringsW_kept hb HO9.out)
    have HO15 := Lib.hid (own_ints HYL1.out ho)
    have f16 : w_3.cell? ⟨w.heap.size, 0, none⟩ = some (.string s0) := (below_cell hb _ _ l12).trans f10
    have f17 : w_3.cell? ⟨w.heap.size, 1, none⟩ = some (v0) := (below_cell hb _ _ l12).trans f11
    have l18 : w.heap.size < w_3.heap.size := Nat.lt_of_lt_of_le l12 (hb).size
    clear f10 f11 l12
    have HB19 := Lib.hid (below_of HB13.out hb HB13.out.size)
    clear hb ho
    go_wp2_with fail
    refine (HSP.out vx0 vx1 _ HO14.out HO15.out).mono ?_
    rintro e w_4 ⟨vw, rfl, hv, hb⟩
    have OZ20 : w.heap.size < w_3.heap.size := l18
    have OZ21 : w.heap.size ≤ w_3.heap.size := HB19.out.size
    have OW : w_3.heap.size ≤ w_4.heap.size := hb.size
    obtain ⟨aW, cW, rfl⟩ := iv_form hv
    rw [HN1.out] at hv ⊢
    have HWI := Lib.hid (iv_in hv)
    have HWR := Lib.hid hv
    clear hv
    have f22 : w_4.cell? ⟨w.heap.size, 0, none⟩ = some (.string s0) := (below_cell hb _ _ l18).trans f16
    have f23 : w_4.cell? ⟨w.heap.size, 1, none⟩ = some (v0) := (below_cell hb _ _ l18).trans f17
    have l24 : w.heap.size < w_4.heap.size := Nat.lt_of_lt_of_le l18 (hb).size
    clear f16 f17 l18
    have HB25 := Lib.hid (below_of HB19.out hb HB19.out.size)
    clear hb 
    go_wp2_with fail
    refine (toProf_any s0 v0 zs0 _ (rings_kept HB25.out HZ0.out)).mono ?_
    rintro e w_5 ⟨vx, rfl, ho, hb⟩
    have HXR0 := rv_of_ownAt ho
    obtain ⟨aX0, cX0, rfl⟩ := rv_form HXR0
    rw [HN0.out] at HXR0 ⊢
    have HX0I := Lib.hid (rv_in HXR0)
    have HX0R := Lib.hid HXR0
    have OX0 : w_4.heap.size ≤ w_5.heap.size := hb.size
    have f26 : w_5.cell? ⟨w.heap.size, 0, none⟩ = some (.string s0) := (below_cell hb _ _ l24).trans f22
    have f27 : w_5.cell? ⟨w.heap.size, 1, none⟩ = some (v0) := (below_cell hb _ _ l24).trans f23
    have l28 : w.heap.size < w_5.heap.size := Nat.lt_of_lt_of_le l24 (hb).size
    clear f22 f23 l24
    have HB29 := Lib.hid (below_of HB25.out hb HB25.out.size)
    have HR30 := Lib.hid (iv_kept hb HWR.out)
    clear HWR
    clear hb ho HXR0
    have f31 : (w_5.alloc (.cells #[.string s0, .slice aX0 len0 cX0] 30)).cell? ⟨w.heap.size, 0, none⟩ = some (.string s0) := (below_cell (below_al w_5 (.cells #[.string s0, .slice aX0 len0 cX0] 30)) _ _ l28).trans f26
    have f32 : (w_5.alloc (.cells #[.string s0, .slice aX0 len0 cX0] 30)).cell? ⟨w.heap.size, 1, none⟩ = some (v0) := (below_cell (below_al w_5 (.cells #[.string s0, .slice aX0 len0 cX0] 30)) _ _ l28).trans f27
    have l33 : w.heap.size < (w_5.alloc (.cells #[.string s0, .slice aX0 len0 cX0] 30)).heap.size := Nat.lt_of_lt_of_le l28 ((below_al w_5 (.cells #[.string s0, .slice aX0 len0 cX0] 30))).size
    clear f26 f27 l28
    have f34 : (w_5.alloc (.cells #[.string s0, .slice aX0 len0 cX0] 30)).cell? ⟨w_5.heap.size, 0, none⟩ = some (.string s0) := by go_simp
    have f35 : (w_5.alloc (.cells #[.string s0, .slice aX0 len0 cX0] 30)).cell? ⟨w_5.heap.size, 1, none⟩ = some (.slice aX0 len0 cX0) := by go_simp
    have l36 : w_5.heap.size < (w_5.alloc (.cells #[.string s0, .slice aX0 len0 cX0] 30)).heap.size := alloc_lt2 _ _
    have HB37 := Lib.hid (below_of HB29.out (below_al w_5 (.cells #[.string s0, .slice aX0 len0 cX0] 30)) HB29.out.size)
    have HR38 := Lib.hid (iv_kept (below_al w_5 (.cells #[.string s0, .slice aX0 len0 cX0] 30)) HR30.out)
    clear HR30
    have HR39 := Lib.hid (rv_kept (below_al w_5 (.cells #[.string s0, .slice aX0 len0 cX0] 30)) HX0R.out)
    clear HX0R
    go_wp2_with fail
    have OXb0 : w_5.heap.size < (w_5.alloc (.cells #[.string s0, .slice aX0 len0 cX0] 30)).heap.size := alloc_lt2 _ _
    generalize (w_5.alloc (.cells #[.string s0, .slice aX0 len0 cX0] 30)) = wb40 at *
    refine (toInts_any z1 _ _ (ints_kept HB37.out HY1.out)).mono ?_
    rintro e w_6 ⟨vx, rfl, ho, hb⟩
    have hv := iv_own ho
    obtain ⟨aZ1, cZ1, rfl⟩ := iv_form hv
    rw [HZN1.out] at hv ⊢
    have HX1I := Lib.hid (iv_in hv)
    have HX1R := Lib.hid hv
    have OX1 : wb40.heap.size ≤ w_6.heap.size := hb.size
    clear hv
    have f41 : w_6.cell? ⟨w.heap.size, 0, none⟩ = some (.string s0) := (below_cell hb _ _ l33).trans f31
    have f42 : w_6.cell? ⟨w.heap.size, 1, none⟩ = some (v0) := (below_cell hb _ _ l33).trans f32
    have f43 : w_6.cell? ⟨w_5.heap.size, 0, none⟩ = some (.string s0) := (below_cell hb _ _ l36).trans f34
    have f44 : w_6.cell? ⟨w_5.heap.size, 1, none⟩ = some (.slice aX0 len0 cX0) := (below_cell hb _ _ l36).trans f35
    have l45 : w.heap.size < w_6.heap.size := Nat.lt_of_lt_of_le l33 (hb).size
    have l46 : w_5.heap.size < w_6.heap.size := Nat.lt_of_lt_of_le l36 (hb).size
    clear f31 f32 f34 f35 l33 l36
    have HB47 := Lib.hid (below_of HB37.out hb HB37.out.size)
    have HR48 := Lib.hid (iv_kept hb HR38.out)
    clear HR38
    have HR49 := Lib.hid (rv_kept hb HR39.out)
    clear HR39
    clear hb ho
    go_wp2_with fail
    refine (HIM.out _ _ _ (rvW HZL0.out HR49.out) (iv_ints HYL1.out HX1R.out)).mono ?_
    rintro e w_7 ⟨vg, rfl, hv, hb⟩
    have OG : w_6.heap.size ≤ w_7.heap.size := hb.size
    obtain ⟨aG, cG, rfl⟩ := iv_form hv
    rw [HN1.out] at hv ⊢
    have HGI := Lib.hid (iv_in hv)
    have HGR := Lib.hid hv
    clear hv
    have f50 : w_7.cell? ⟨w.heap.size, 0, none⟩ = some (.string s0) := (below_cell hb _ _ l45).trans f41
    have f51 : w_7.cell? ⟨w.heap.size, 1, none⟩ = some (v0) := (below_cell hb _ _ l45).trans f42
    have f52 : w_7.cell? ⟨w_5.heap.size, 0, none⟩ = some (.string s0) := (below_cell hb _ _ l46).trans f43
    have f53 : w_7.cell? ⟨w_5.heap.size, 1, none⟩ = some (.slice aX0 len0 cX0) := (below_cell hb _ _ l46).trans f44
    have l54 : w.heap.size < w_7.heap.size := Nat.lt_of_lt_of_le l45 (hb).size
    have l55 : w_5.heap.size < w_7.heap.size := Nat.lt_of_lt_of_le l46 (hb).size
    clear f41 f42 f43 f44 l45 l46
    have HB56 := Lib.hid (below_of HB47.out hb HB47.out.size)
    have HR57 := Lib.hid (iv_kept hb HR48.out)
    clear HR48
    have HR58 := Lib.hid (rv_kept hb HR49.out)
    clear HR49
    have HR59 := Lib.hid (iv_kept hb HX1R.out)
    clear HX1R
    clear hb 
    go_wp2_with fail
    refine (eqInts_at L1 _ _ _ (iv_ints HLL.out HGR.out) (iv_ints HLL.out HR57.out)).mono ?_
    rintro e w_8 ⟨rfl, hb⟩
    have f60 : w_8.cell? ⟨w.heap.size, 0, none⟩ = some (.string s0) := (below_cell hb _ _ l54).trans f50
    have f61 : w_8.cell? ⟨w.heap.size, 1, none⟩ = some (v0) := (below_cell hb _ _ l54).trans f51
    have f62 : w_8.cell? ⟨w_5.heap.size, 0, none⟩ = some (.string s0) := (below_cell hb _ _ l55).trans f52
    have f63 : w_8.cell? ⟨w_5.heap.size, 1, none⟩ = some (.slice aX0 len0 cX0) := (below_cell hb _ _ l55).trans f53
    have l64 : w.heap.size < w_8.heap.size := Nat.lt_of_lt_of_le l54 (hb).size
    have l65 : w_5.heap.size < w_8.heap.size := Nat.lt_of_lt_of_le l55 (hb).size
    clear f50 f51 f52 f53 l54 l55
    have HB66 := Lib.hid (below_of HB56.out hb HB56.out.size)
    have HR67 := Lib.hid (iv_kept hb HR57.out)
    clear HR57
    have HR68 := Lib.hid (rv_kept hb HR58.out)
    clear HR58
    have HR69 := Lib.hid (iv_kept hb HR59.out)
    clear HR59
    have HR70 := Lib.hid (iv_kept hb HGR.out)
    clear HGR
    clear hb 
    go_wp2
    have hbd : Below w_8.heap.size w_8 w_8.drew := ⟨rfl, rfl, rfl, Nat.le_refl _, fun _ _ => rfl⟩
    have HIv := Lib.hid (rings_kept HB66.out HZ0.out)
    have HXr := Lib.hid (rv_rings HZL0.out HR68.out)
    have HSK := Lib.hid (fun W (hW : Below w_8.heap.size w_8 W) => show W.cell? ⟨w.heap.size, 0, none⟩ = some (.string s0) ∧ W.cell? ⟨w.heap.size, 1, none⟩ = some (v0) ∧ W.cell? ⟨w_5.heap.size, 0, none⟩ = some (.string s0) ∧ W.cell? ⟨w_5.heap.size, 1, none⟩ = some (.slice aX0 len0 cX0) ∧ Below w_8.heap.size w_8 W from ⟨(below_cell hW _ _ l64).trans f60, (below_cell hW _ _ l64).trans f61, (below_cell hW _ _ l65).trans f62, (below_cell hW _ _ l65).trans f63, hW⟩)
    go_region_held3 (fun W => W.cell? ⟨w.heap.size, 0, none⟩ = some (.string s0) ∧ W.cell? ⟨w.heap.size, 1, none⟩ = some (v0) ∧ W.cell? ⟨w_5.heap.size, 0, none⟩ = some (.string s0) ∧ W.cell? ⟨w_5.heap.size, 1, none⟩ = some (.slice aX0 len0 cX0) ∧ Below w_8.heap.size w_8 W)
      (first | exact HSK.out _ hbd | exact HSK.out _ hbr0 | exact HSK.out _ hbrf | assumption)
      (first
        | (go_at_call 17; refine (toProf_any s0 v0 zs0 _ (rings_kept hbd HIv.out)).mono ?_; rintro e wq7 ⟨v7, rfl, ho7, hbq0⟩; have hbr0 := below_of hbd hbq0 hbd.size)
        | (go_at_call 20; refine (eqProf_any s0 _ v7 zs0 _ (rings_kept hbr0 HXr.out) (ownRAt_rings HZL0.out ho7)).mono ?_; rintro e wq8 ⟨rfl, hbf⟩; have hbrf := below_of hbr0 hbf hbr0.size))
    have hb := hbrf
    have f71 : wq8.cell? ⟨w.heap.size, 0, none⟩ = some (.string s0) := (below_cell hb _ _ l64).trans f60
    have f72 : wq8.cell? ⟨w.heap.size, 1, none⟩ = some (v0) := (below_cell hb _ _ l64).trans f61
    have f73 : wq8.cell? ⟨w_5.heap.size, 0, none⟩ = some (.string s0) := (below_cell hb _ _ l65).trans f62
    have f74 : wq8.cell? ⟨w_5.heap.size, 1, none⟩ = some (.slice aX0 len0 cX0) := (below_cell hb _ _ l65).trans f63
    have l75 : w.heap.size < wq8.heap.size := Nat.lt_of_lt_of_le l64 (hb).size
    have l76 : w_5.heap.size < wq8.heap.size := Nat.lt_of_lt_of_le l65 (hb).size
    clear f60 f61 f62 f63 l64 l65
    have HB77 := Lib.hid (below_of HB66.out hb HB66.out.size)
    have HR78 := Lib.hid (iv_kept hb HR67.out)
    clear HR67
    have HR79 := Lib.hid (rv_kept hb HR68.out)
    clear HR68
    have HR80 := Lib.hid (iv_kept hb HR69.out)
    clear HR69
    have HR81 := Lib.hid (iv_kept hb HR70.out)
    clear HR70
    clear hb hbd hbr0 hbrf hbq0 hbf ho7 HIv HXr HSK
    generalize hw8 : wq8 = w_9 at *
    clear hw8
    go_wp2_with fail
    refine (toInts_any z1 _ _ (ints_kept HB77.out HY1.out)).mono ?_
    rintro e w_10 ⟨vt, rfl, ho, hb⟩
    have HT := Lib.hid (own_ints HYL1.out ho)
    have f82 : w_10.cell? ⟨w.heap.size, 0, none⟩ = some (.string s0) := (below_cell hb _ _ l75).trans f71
    have f83 : w_10.cell? ⟨w.heap.size, 1, none⟩ = some (v0) := (below_cell hb _ _ l75).trans f72
    have f84 : w_10.cell? ⟨w_5.heap.size, 0, none⟩ = some (.string s0) := (below_cell hb _ _ l76).trans f73
    have f85 : w_10.cell? ⟨w_5.heap.size, 1, none⟩ = some (.slice aX0 len0 cX0) := (below_cell hb _ _ l76).trans f74
    have l86 : w.heap.size < w_10.heap.size := Nat.lt_of_lt_of_le l75 (hb).size
    have l87 : w_5.heap.size < w_10.heap.size := Nat.lt_of_lt_of_le l76 (hb).size
    clear f71 f72 f73 f74 l75 l76
    have HB88 := Lib.hid (below_of HB77.out hb HB77.out.size)
    have HR89 := Lib.hid (iv_kept hb HR78.out)
    clear HR78
    have HR90 := Lib.hid (rv_kept hb HR79.out)
    clear HR79
    have HR91 := Lib.hid (iv_kept hb HR80.out)
    clear HR80
    have HR92 := Lib.hid (iv_kept hb HR81.out)
    clear HR81
    clear hb ho
    go_wp2_with fail
    refine (eqInts_at z1 _ _ _ (iv_ints HYL1.out HR91.out) HT.out).mono ?_
    rintro e w_11 ⟨rfl, hb⟩
    have f93 : w_11.cell? ⟨w.heap.size, 0, none⟩ = some (.string s0) := (below_cell hb _ _ l86).trans f82
    have f94 : w_11.cell? ⟨w.heap.size, 1, none⟩ = some (v0) := (below_cell hb _ _ l86).trans f83
    have f95 : w_11.cell? ⟨w_5.heap.size, 0, none⟩ = some (.string s0) := (below_cell hb _ _ l87).trans f84
    have f96 : w_11.cell? ⟨w_5.heap.size, 1, none⟩ = some (.slice aX0 len0 cX0) := (below_cell hb _ _ l87).trans f85
    have l97 : w.heap.size < w_11.heap.size := Nat.lt_of_lt_of_le l86 (hb).size
    have l98 : w_5.heap.size < w_11.heap.size := Nat.lt_of_lt_of_le l87 (hb).size
    clear f82 f83 f84 f85 l86 l87
    have HB99 := Lib.hid (below_of HB88.out hb HB88.out.size)
    have HR100 := Lib.hid (iv_kept hb HR89.out)
    clear HR89
    have HR101 := Lib.hid (rv_kept hb HR90.out)
    clear HR90
    have HR102 := Lib.hid (iv_kept hb HR91.out)
    clear HR91
    have HR103 := Lib.hid (iv_kept hb HR92.out)
    clear HR92
    clear hb HT
    go_wp2_with fail
    refine (markProfM_any (1) (by omega) s0 _ zs0 _ _ HZL0.out HR101.out).mono ?_
    rintro e w_12 ⟨rfl, hv, hg⟩
    rw [HN0.out] at hv ⊢
    have f104 : w_12.cell? ⟨w.heap.size, 0, none⟩ = some (.string s0) := (gb_cell hg _ _ l97 (apart_box HX0I.out (by omega))).trans f93
    have f105 : w_12.cell? ⟨w.heap.size, 1, none⟩ = some (v0) := (gb_cell hg _ _ l97 (apart_box HX0I.out (by omega))).trans f94
    have f106 : w_12.cell? ⟨w_5.heap.size, 0, none⟩ = some (.string s0) := (gb_cell hg _ _ l98 (apart_box HX0I.out (by omega))).trans f95
    have f107 : w_12.cell? ⟨w_5.heap.size, 1, none⟩ = some (.slice aX0 len0 cX0) := (gb_cell hg _ _ l98 (apart_box HX0I.out (by omega))).trans f96
    have l108 : w.heap.size < w_12.heap.size := Nat.lt_of_lt_of_le l97 hg.size
    have l109 : w_5.heap.size < w_12.heap.size := Nat.lt_of_lt_of_le l98 hg.size
    have HR110 := Lib.hid (iv_grown hg HR100.out (apart_of HWI.out HX0I.out (by omega)))
    clear HR100
    have HR111 := Lib.hid (iv_grown hg HR102.out (apart_of HX1I.out HX0I.out (by omega)))
    clear HR102
    have HR112 := Lib.hid (iv_grown hg HR103.out (apart_of HGI.out HX0I.out (by omega)))
    clear HR103
    have HR113 := Lib.hid hv
    clear HR101
    have HB114 := Lib.hid (HB99.out.trans (gb_below hg HB99.out.size (fun k hk => by have := HX0I.out k hk; omega)))
    clear hv hg f93 f94 f95 f96 l97 l98
    go_wp2_with fail
    refine (markIv_any (1 + 3 * (len0 : Int)) (by omega) _ z1 _ _ HYL1.out HR111.out).mono ?_
    rintro e w_13 ⟨rfl, hv, hg⟩
    rw [HZN1.out] at hv ⊢
    have f115 : w_13.cell? ⟨w.heap.size, 0, none⟩ = some (.string s0) := (gb_cell hg _ _ l108 (apart_box HX1I.out (by omega))).trans f104
    have f116 : w_13.cell? ⟨w.heap.size, 1, none⟩ = some (v0) := (gb_cell hg _ _ l108 (apart_box HX1I.out (by omega))).trans f105
    have f117 : w_13.cell? ⟨w_5.heap.size, 0, none⟩ = some (.string s0) := (gb_cell hg _ _ l109 (apart_box HX1I.out (by omega))).trans f106
    have f118 : w_13.cell? ⟨w_5.heap.size, 1, none⟩ = some (.slice aX0 len0 cX0) := (gb_cell hg _ _ l109 (apart_box HX1I.out (by omega))).trans f107
    have l119 : w.heap.size < w_13.heap.size := Nat.lt_of_lt_of_le l108 hg.size
    have l120 : w_5.heap.size < w_13.heap.size := Nat.lt_of_lt_of_le l109 hg.size
    have HR121 := Lib.hid (iv_grown hg HR110.out (apart_of HWI.out HX1I.out (by omega)))
    clear HR110
    have HR122 := Lib.hid (iv_grown hg HR112.out (apart_of HGI.out HX1I.out (by omega)))
    clear HR112
    have HR123 := Lib.hid hv
    clear HR111
    have HB124 := Lib.hid (HB114.out.trans (gb_below hg HB114.out.size (fun k hk => by have := HX1I.out k hk; omega)))
    clear hv hg f104 f105 f106 f107 l108 l109
    go_wp2_with fail
    refine (eqInts_at L1 _ _ _ (iv_ints HLL.out HR122.out) (iv_ints HLL.out HR121.out)).mono ?_
    rintro e w_14 ⟨rfl, hb⟩
    have f125 : w_14.cell? ⟨w.heap.size, 0, none⟩ = some (.string s0) := (below_cell hb _ _ l119).trans f115
    have f126 : w_14.cell? ⟨w.heap.size, 1, none⟩ = some (v0) := (below_cell hb _ _ l119).trans f116
    have f127 : w_14.cell? ⟨w_5.heap.size, 0, none⟩ = some (.string s0) := (below_cell hb _ _ l120).trans f117
    have f128 : w_14.cell? ⟨w_5.heap.size, 1, none⟩ = some (.slice aX0 len0 cX0) := (below_cell hb _ _ l120).trans f118
    have l129 : w.heap.size < w_14.heap.size := Nat.lt_of_lt_of_le l119 (hb).size
    have l130 : w_5.heap.size < w_14.heap.size := Nat.lt_of_lt_of_le l120 (hb).size
    clear f115 f116 f117 f118 l119 l120
    have HB131 := Lib.hid (below_of HB124.out hb HB124.out.size)
    have HR132 := Lib.hid (iv_kept hb HR121.out)
    clear HR121
    have HR133 := Lib.hid (iv_kept hb HR122.out)
    clear HR122
    clear hb 
    go_wp2_with fail
    refine (markIv_any 1 (by omega) _ L1 _ _ HLL.out HR133.out).mono ?_
    rintro e w_15 ⟨rfl, hv, hg⟩
    rw [HN1.out] at hv ⊢
    have f134 : w_15.cell? ⟨w.heap.size, 0, none⟩ = some (.string s0) := (gb_cell hg _ _ l129 (apart_box HGI.out (by omega))).trans f125
    have f135 : w_15.cell? ⟨w.heap.size, 1, none⟩ = some (v0) := (gb_cell hg _ _ l129 (apart_box HGI.out (by omega))).trans f126
    have f136 : w_15.cell? ⟨w_5.heap.size, 0, none⟩ = some (.string s0) := (gb_cell hg _ _ l130 (apart_box HGI.out (by omega))).trans f127
    have f137 : w_15.cell? ⟨w_5.heap.size, 1, none⟩ = some (.slice aX0 len0 cX0) := (gb_cell hg _ _ l130 (apart_box HGI.out (by omega))).trans f128
    have l138 : w.heap.size < w_15.heap.size := Nat.lt_of_lt_of_le l129 hg.size
    have l139 : w_5.heap.size < w_15.heap.size := Nat.lt_of_lt_of_le l130 hg.size
    have HR140 := Lib.hid (iv_grown hg HR132.out (apart_of HWI.out HGI.out (by omega)))
    clear HR132
    have HR141 := Lib.hid hv
    clear HR133
    have HB142 := Lib.hid (HB131.out.trans (gb_below hg HB131.out.size (fun k hk => by have := HGI.out k hk; omega)))
    clear hv hg f125 f126 f127 f128 l129 l130
    go_wp2_with fail
    refine (heldIv_any 1 (by omega) _ n1 _ _ hll HR141.out).mono ?_
    rintro e w_15 ⟨rfl, rfl⟩
    go_wp2_with fail
    refine (toProf_any s0 v0 zs0 _ (rings_kept HB142.out HZ0.out)).mono ?_
    rintro e w_16 ⟨vx0, rfl, ho, hb⟩
    have HO143 := Lib.hid (rvW HZL0.out (rv_of_ownAt ho))
    have f144 : w_16.cell? ⟨w.heap.size, 0, none⟩ = some (.string s0) := (below_cell hb _ _ l138).trans f134
    have f145 : w_16.cell? ⟨w.heap.size, 1, none⟩ = some (v0) := (below_cell hb _ _ l138).trans f135
    have f146 : w_16.cell? ⟨w_5.heap.size, 0, none⟩ = some (.string s0) := (below_cell hb _ _ l139).trans f136
    have f147 : w_16.cell? ⟨w_5.heap.size, 1, none⟩ = some (.slice aX0 len0 cX0) := (below_cell hb _ _ l139).trans f137
    have l148 : w.heap.size < w_16.heap.size := Nat.lt_of_lt_of_le l138 (hb).size
    have l149 : w_5.heap.size < w_16.heap.size := Nat.lt_of_lt_of_le l139 (hb).size
    clear f134 f135 f136 f137 l138 l139
    have HB150 := Lib.hid (below_of HB142.out hb HB142.out.size)
    have HR151 := Lib.hid (iv_kept hb HR140.out)
    clear HR140
    have HR152 := Lib.hid (iv_kept hb HR141.out)
    clear HR141
    clear hb ho
    go_wp2_with fail
    refine (toInts_any z1 _ _ (ints_kept HB150.out HY1.out)).mono ?_
    rintro e w_17 ⟨vx1, rfl, ho, hb⟩
    have HO153 := Lib.hid (ringsW_kept hb HO143.out)
    have HO154 := Lib.hid (own_ints HYL1.out ho)
    have f155 : w_17.cell? ⟨w.heap.size, 0, none⟩ = some (.string s0) := (below_cell hb _ _ l148).trans f144
    have f156 : w_17.cell? ⟨w.heap.size, 1, none⟩ = some (v0) := (below_cell hb _ _ l148).trans f145
    have f157 : w_17.cell? ⟨w_5.heap.size, 0, none⟩ = some (.string s0) := (below_cell hb _ _ l149).trans f146
    have f158 : w_17.cell? ⟨w_5.heap.size, 1, none⟩ = some (.slice aX0 len0 cX0) := (below_cell hb _ _ l149).trans f147
    have l159 : w.heap.size < w_17.heap.size := Nat.lt_of_lt_of_le l148 (hb).size
    have l160 : w_5.heap.size < w_17.heap.size := Nat.lt_of_lt_of_le l149 (hb).size
    clear f144 f145 f146 f147 l148 l149
    have HB161 := Lib.hid (below_of HB150.out hb HB150.out.size)
    have HR162 := Lib.hid (iv_kept hb HR151.out)
    clear HR151
    have HR163 := Lib.hid (iv_kept hb HR152.out)
    clear HR152
    clear hb ho
    go_wp2_with fail
    refine (HIM.out vx0 vx1 _ HO153.out HO154.out).mono ?_
    rintro e w_18 ⟨vh, rfl, hv, hb⟩
    have OH : w_17.heap.size ≤ w_18.heap.size := hb.size
    obtain ⟨aH, cH, rfl⟩ := iv_form hv
    rw [HN1.out] at hv ⊢
    have HHI := Lib.hid (iv_in hv)
    have HHR := Lib.hid hv
    clear hv
    have f164 : w_18.cell? ⟨w.heap.size, 0, none⟩ = some (.string s0) := (below_cell hb _ _ l159).trans f155
    have f165 : w_18.cell? ⟨w.heap.size, 1, none⟩ = some (v0) := (below_cell hb _ _ l159).trans f156
    have f166 : w_18.cell? ⟨w_5.heap.size, 0, none⟩ = some (.string s0) := (below_cell hb _ _ l160).trans f157
    have f167 : w_18.cell? ⟨w_5.heap.size, 1, none⟩ = some (.slice aX0 len0 cX0) := (below_cell hb _ _ l160).trans f158
    have l168 : w.heap.size < w_18.heap.size := Nat.lt_of_lt_of_le l159 (hb).size
    have l169 : w_5.heap.size < w_18.heap.size := Nat.lt_of_lt_of_le l160 (hb).size
    clear f155 f156 f157 f158 l159 l160
    have HB170 := Lib.hid (below_of HB161.out hb HB161.out.size)
    have HR171 := Lib.hid (iv_kept hb HR162.out)
    clear HR162
    have HR172 := Lib.hid (iv_kept hb HR163.out)
    clear HR163
    clear hb 
    go_wp2_with fail
    refine (eqInts_at L1 _ _ _ (iv_ints HLL.out HHR.out) (iv_ints HLL.out HR171.out)).mono ?_
    rintro e w_19 ⟨rfl, hb⟩
    have f173 : w_19.cell? ⟨w.heap.size, 0, none⟩ = some (.string s0) := (below_cell hb _ _ l168).trans f164
    have f174 : w_19.cell? ⟨w.heap.size, 1, none⟩ = some (v0) := (below_cell hb _ _ l168).trans f165
    have f175 : w_19.cell? ⟨w_5.heap.size, 0, none⟩ = some (.string s0) := (below_cell hb _ _ l169).trans f166
    have f176 : w_19.cell? ⟨w_5.heap.size, 1, none⟩ = some (.slice aX0 len0 cX0) := (below_cell hb _ _ l169).trans f167
    have l177 : w.heap.size < w_19.heap.size := Nat.lt_of_lt_of_le l168 (hb).size
    have l178 : w_5.heap.size < w_19.heap.size := Nat.lt_of_lt_of_le l169 (hb).size
    clear f164 f165 f166 f167 l168 l169
    have HB179 := Lib.hid (below_of HB170.out hb HB170.out.size)
    have HR180 := Lib.hid (iv_kept hb HR171.out)
    clear HR171
    have HR181 := Lib.hid (iv_kept hb HR172.out)
    clear HR172
    have HR182 := Lib.hid (iv_kept hb HHR.out)
    clear HHR
    clear hb 
    go_wp2_with fail
    refine (heldIv_any 1 (by omega) _ n1 _ _ hll HR181.out).mono ?_
    rintro e w_19 ⟨rfl, rfl⟩
    go_wp2
    go_ret
    exact ⟨rfl, HB179.out⟩
  · have HL0 := Lib.hid (show leftP s0.size len0 (1048576) = -1 by exact leftP_no (by omega))
    clear hI0
    go_enter Try.func10, Try.ntmps10
    go_wp2_with fail
    refine (szProf_v s0 v0 len0 (1048576) _ HV0 hs0 hlen0 (by omega) (by omega)).mono ?_
    rintro e w_20 ⟨rfl, hb⟩
    rw [HL0.out]
    have HBF := Lib.hid (below_of (below_al _ _) hb (by simp))
    clear hb
    go_wp2
    go_ret
    exact ⟨rfl, HBF.out⟩

set_option maxRecDepth 100000 in
theorem contract (H : Type) (enc : TypeId × Value → H) (W : World) (base : Nat) (args : Array Value) (ds gs : List (DataW H)) (before : List MemPlace)
    (hval : ∀ (j : Nat) t v, Try.f10.params[j]? = some t → args[j]? = some v → Value.okWide Try.prog W .any base t v)
    (hW : DataW.Whole enc Try.prog Try.f10.params.toList Rows.fnExactRoomOfSpec.vars false W args.toList ds gs before) :
    Calls Try.prog 10 args W fun e W' => ∃ v, e = .returned v ∧ Rows.fnExactRoomOfSpec.post enc Try.prog Try.f10 false true false false W args v W' := by
  have hW' := hW
  obtain ⟨p, q, hA0, hV, rfl, hfz, hnd⟩ := hW
  have hA : DataW.TrodAll enc Try.prog W 0 (fun _ => true) true Try.f10.params.toList args.toList ds p := hA0
  rw [Try.params10] at hA hval
  obtain ⟨v0, vs0, d0, ds0, p0, q0, hargs, rfl, rfl, h0, r0⟩ := trodAll_cons hA
  obtain ⟨v1, vs1, d1, ds1, p1, q1, hargs1, rfl, rfl, h1, r1⟩ := trodAll_cons r0
  subst hargs1
  obtain ⟨rfl, rfl, rfl⟩ := trodAll_nil r1
  obtain rfl : args = #[v0, v1] := by cases args; simp_all
  obtain ⟨rfl, rfl⟩ := trodVars_none hV
  simp only [List.append_nil] at hW'
  have hlt0 : ∀ x ∈ p0, x.block < W.heap.size := fun x hx => hW'.lt x (by simp [hx])
  have kept0 := fun (W2 : World) (hb : Below W.heap.size W W2) => Below.trod laidOut (by kernel_rfl) (of_decide_eq_true (by kernel_rfl)) h0 hb hlt0
  obtain ⟨s0, a0, len0, cap0, rfl, w0, hI0⟩ := prof_arg (hval 0 24 v0 rfl rfl) h0 hlt0
  have hlt1 : ∀ x ∈ p1, x.block < W.heap.size := fun x hx => hW'.lt x (by simp [hx])
  have kept1 := fun (W2 : World) (hb : Below W.heap.size W W2) => Below.trod laidOut (by kernel_rfl) (of_decide_eq_true (by kernel_rfl)) h1 hb hlt1
  obtain ⟨a1, len1, cap1, rfl⟩ := okWide_slice Try.underlying25 (hval 1 25 v1 rfl rfl)
  obtain ⟨fuel1, hf1⟩ := h1
  obtain ⟨w1, hI1⟩ := ints_arg hf1 hlt1
  clear hA0
  refine (walk s0 a0 len0 cap0 a1 len1 cap1 w0 w1 W hI0 hI1).mono fun e W' ⟨he, hg⟩ => ?_
  subst he
  refine ⟨_, rfl, post_at (pa := p0 ++ p1) (pv := []) hW' (by simp) hg (fun _ _ => (trodAll_cons_mk (shut_bool Try.underlying4 _) trodAll_mk0)) ?_ rfl⟩
  have hk := (trodAll_cons_mk (kept0 W' hg) (trodAll_cons_mk (kept1 W' hg) trodAll_mk0))
  simp only [List.append_nil] at hk
  exact hk

set_option maxRecDepth 100000 in
theorem lifted (os : Os) (started : os.Started) (H : Type) (enc : TypeId × Value → H) :
    ReturnsInHanded {} Try.checked os 10 .any (Rows.fnExactRoomOfSpec.pre6 enc Try.prog Try.f10 Rows.fnExactRoomOfRow.domain false) (Rows.fnExactRoomOfSpec.post enc Try.prog Try.f10 false true false false) := by
  refine returnsInHanded_of_change (C := Try.checked) own started (by kernel_rfl) Try.func10
    (ChangeSpec.witness6 (enc := enc) (C := Try.checked) false ⟨#[], #[.agg #[.string ⟨#[]⟩, .slice none 0 0], .slice none 0 0], []⟩ 8 (by kernel_rfl) (by kernel_rfl) (by kernel_rfl) (by kernel_rfl)) ?_
  intro W base args ds gs before hval0 hW hcnd _
  have hval : ∀ (j : Nat) t v, Try.f10.params[j]? = some t → args[j]? = some v → Value.okWide Try.prog W .any base t v := hval0
  exact contract H enc W base args ds gs before hval hW

theorem over : Rows.fnExactRoomOfRow.holds Try.pinned (OpenSpec.ofChange Rows.fnExactRoomOfSpec) :=
  OpenClaim.holds_of_wide 10 Try.f10 rfl rfl rfl rfl rfl rfl rfl ⟨rfl, rfl, rfl, rfl, rfl⟩ rfl rfl rfl rfl rfl (by kernel_rfl) Try.func10 (by kernel_rfl)
    (of_decide_eq_true (by kernel_rfl)) (by unfold Func.isWrapper; first | (rw [if_pos (by decide +kernel)]; kernel_rfl) | (rw [if_neg (by decide +kernel)]; exact ⟨rfl, rfl⟩))
    (fun os started H enc _ => lifted os started H enc)
end Go.Proofs.Ytjdnjlakafcglaa.fnExactRoomOf

namespace Go.Proofs.Ytjdnjlakafcglaa
/-- The given statement. -/
theorem fnExactRoomOf_holds : Rows.FnExactRoomOfSaid := fnExactRoomOf.over
#print axioms fnExactRoomOf_holds
end Go.Proofs.Ytjdnjlakafcglaa
