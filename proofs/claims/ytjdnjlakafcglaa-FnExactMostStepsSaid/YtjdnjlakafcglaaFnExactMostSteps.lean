/- At every drawn profile, zones and zone, MostSteps answers as the reference model does, and its arguments stay as they were. -/
import Derived.Test.YtjdnjlakafcglaaRows
import Derived.Test.YtjdnjlakafcglaaG1
import Derived.Test.YtjdnjlakafcglaaG2
import Derived.Test.YtjdnjlakafcglaaMostA
import Derived.Test.YtjdnjlakafcglaaRingRes
import Derived.Deep.RegionHeld3
namespace Go.Proofs.Ytjdnjlakafcglaa.fnExactMostSteps
open Go.ChangeShapes Go.WideShapes Go.ChangeAt Go.RowKit
open Go.ChangeMaps (open_string shut_string)
set_option linter.unusedVariables false

theorem own : ownKnob Try.prog.godebug = none := by kernel_rfl

set_option maxRecDepth 100000 in
set_option maxHeartbeats 4000000 in
theorem walk (s0 : ByteArray) (p0 : Option Addr) (len0 cap0 : Nat) (p1 : Option Addr) (len1 cap1 : Nat) (a2 : Int) (w0 : s0.size ≤ 9223372036854775807 ∧ len0 ≤ 9223372036854775807) (w1 : len1 ≤ 9223372036854775807) (w2 : (Lit.int .i64 a2).wf = true) (w : World) (hI0 : len0 ≤ 1048576 → ∃ zs : List Rg, zs.length = len0 ∧ RingsAt w (.slice p0 len0 cap0) zs) (hI1 : len1 ≤ 1048576 → ∃ zs : List Int, zs.length = len1 ∧ IntsAt w (.slice p1 len1 cap1) zs ∧ ∀ z ∈ zs, (Lit.int .i64 z).wf = true) :
    Calls Try.prog 9 #[.agg #[.string s0, .slice p0 len0 cap0], .slice p1 len1 cap1, .int .i64 a2] w fun e w' => e = .returned (.bool true) ∧ Below w.heap.size w w' := by
  obtain ⟨hs0, hlen0⟩ := w0
  have hlen1 := w1
  clear w1
  have bd2 := wf_bd w2
  clear w2
  by_cases hbz1 : 1048576 < len1
  · clear hI0 hI1
    go_enter Try.func9, Try.ntmps9
    go_wp2
    go_ret
    exact ⟨rfl, below_al _ _⟩
  obtain ⟨z1, hzn1, hzi1, -⟩ := hI1 (by omega)
  have HZN1 := Lib.hid hzn1
  have HY1 := Lib.hid hzi1
  have HYL1 := Lib.hid (show z1.length ≤ 1048576 by omega)
  clear hzn1 hzi1 hI1
  have HV0 := Lib.hid (show ∃ a' c', Value.slice p0 len0 cap0 = .slice a' len0 c' from ⟨_, _, rfl⟩)
  generalize Value.slice p0 len0 cap0 = v0 at *
  by_cases hbig0 : (s0.size + len0) ≤ 1048576
  · obtain ⟨T1, hT1⟩ : ∃ T, (s0.size + len0) = T := ⟨_, rfl⟩
    have HL0 := Lib.hid (show leftP s0.size len0 (1048576) = 1048576 - (T1 : Int) by rw [leftP_yes (by omega)]; omega)
    have hTb1 : T1 ≤ 1048576 := by omega
    obtain ⟨zs0, hz0, hzs0⟩ := hI0 (by omega)
    have HZ0 := Lib.hid hzs0
    have HN0 := Lib.hid hz0
    have HZL0 := Lib.hid (show zs0.length ≤ 1048576 by omega)
    clear hzs0 hz0 hI0
    have hTl0 : len0 ≤ 1048576 := by omega
    clear hT1 hbig0
    obtain ⟨r0, r1, hsp, him⟩ : ∃ (r0 : Int) (r1 : Int), (∀ v0 u1 w, RingsW w v0 zs0 → IntsAt w u1 z1 → Calls Try.prog 40 #[.agg #[.string s0, v0], u1, .int .i64 a2] w (fun e w' => e = .returned (.tuple #[.int .i64 r0, .int .i64 r1]) ∧ Below w.heap.size w w')) ∧ (∀ v0 u1 w, RingsW w v0 zs0 → IntsAt w u1 z1 → Calls Try.prog 41 #[.agg #[.string s0, v0], u1, .int .i64 a2] w (fun e w' => e = .returned (.tuple #[.int .i64 r0, .int .i64 r1]) ∧ Below w.heap.size w w')) :=
      ⟨moR s0 zs0 z1 a2, moC s0 zs0 z1 a2, fun v0 u1 w h h1 => specMS_any s0 v0 u1 zs0 z1 a2 w h.1 hs0 h1, fun v0 u1 w h h1 => implMS_any s0 v0 u1 zs0 z1 a2 w h.1 hs0 h1⟩
    have hrr0 : (r0 != r0) = false := by simp
    have hrr1 : (r1 != r1) = false := by simp
    have HSP := Lib.hid hsp
    have HIM := Lib.hid him
    clear hsp him
    go_enter Try.func9, Try.ntmps9
    have f1 : (w.alloc (.cells #[.string s0, v0] 24)).cell? ⟨w.heap.size, 0, none⟩ = some (.string s0) := by go_simp
    have f2 : (w.alloc (.cells #[.string s0, v0] 24)).cell? ⟨w.heap.size, 1, none⟩ = some (v0) := by go_simp
    have l3 : w.heap.size < (w.alloc (.cells #[.string s0, v0] 24)).heap.size := by simp
    have HB4 := Lib.hid ((below_al w (.cells #[.string s0, v0] 24)))
    go_wp2_with fail
    generalize (w.alloc (.cells #[.string s0, v0] 24)) = wb at *
    refine (szProf_v s0 v0 len0 (1048576) _ HV0 hs0 hlen0 (by omega) (by omega)).mono ?_
    rintro e w_1 ⟨rfl, hb⟩
    rw [HL0.out]
    have f5 : w_1.cell? ⟨w.heap.size, 0, none⟩ = some (.string s0) := (below_cell hb _ _ l3).trans f1
    have f6 : w_1.cell? ⟨w.heap.size, 1, none⟩ = some (v0) := (below_cell hb _ _ l3).trans f2
    have l7 : w.heap.size < w_1.heap.size := Nat.lt_of_lt_of_le l3 (hb).size
    clear f1 f2 l3
    have HB8 := Lib.hid (below_of HB4.out hb HB4.out.size)
    clear hb 
    go_wp2_with fail
    refine (toProf_any s0 v0 zs0 _ (rings_kept HB8.out HZ0.out)).mono ?_
    rintro e w_2 ⟨vx0, rfl, ho, hb⟩
    have HO9 := Lib.hid (rvW HZL0.out (rv_of_ownAt ho))
    have f10 : w_2.cell? ⟨w.heap.size, 0, none⟩ = some (.string s0) := (below_cell hb _ _ l7).trans f5
    have f11 : w_2.cell? ⟨w.heap.size, 1, none⟩ = some (v0) := (below_cell hb _ _ l7).trans f6
    have l12 : w.heap.size < w_2.heap.size := Nat.lt_of_lt_of_le l7 (hb).size
    clear f5 f6 l7
    have HB13 := Lib.hid (below_of HB8.out hb HB8.out.size)
    clear hb ho
    go_wp2_with fail
    refine (toInts_any z1 _ _ (ints_kept HB13.out HY1.out)).mono ?_
    rintro e w_3 ⟨vx1, rfl, ho, hb⟩
    have HO14 := Lib.hid (ringsW_kept hb HO9.out)
    have HO15 := Lib.hid (own_ints HYL1.out ho)
    have f16 : w_3.cell? ⟨w.heap.size, 0, none⟩ = some (.string s0) := (below_cell hb _ _ l12).trans f10
    have f17 : w_3.cell? ⟨w.heap.size, 1, none⟩ = some (v0) := (below_cell hb _ _ l12).trans f11
    have l18 : w.heap.size < w_3.heap.size := Nat.lt_of_lt_of_le l12 (hb).size
    clear f10 f11 l12
    have HB19 := Lib.hid (below_of HB13.out hb HB13.out.size)
    clear hb ho
    go_wp2_with fail
    refine (HSP.out vx0 vx1 _ HO14.out HO15.out).mono ?_
    rintro e w_4 ⟨rfl, hb⟩
    have f20 : w_4.cell? ⟨w.heap.size, 0, none⟩ = some (.string s0) := (below_cell hb _ _ l18).trans f16
    have f21 : w_4.cell? ⟨w.heap.size, 1, none⟩ = some (v0) := (below_cell hb _ _ l18).trans f17
    have l22 : w.heap.size < w_4.heap.size := Nat.lt_of_lt_of_le l18 (hb).size
    clear f16 f17 l18
    have HB23 := Lib.hid (below_of HB19.out hb HB19.out.size)
    clear hb 
    go_wp2_with fail
    refine (toProf_any s0 v0 zs0 _ (rings_kept HB23.out HZ0.out)).mono ?_
    rintro e w_5 ⟨vx, rfl, ho, hb⟩
    have HXR0 := rv_of_ownAt ho
    obtain ⟨aX0, cX0, rfl⟩ := rv_form HXR0
    rw [HN0.out] at HXR0 ⊢
    have HX0I := Lib.hid (rv_in HXR0)
    have HX0R := Lib.hid HXR0
    have OX0 : w_4.heap.size ≤ w_5.heap.size := hb.size
    have f24 : w_5.cell? ⟨w.heap.size, 0, none⟩ = some (.string s0) := (below_cell hb _ _ l22).trans f20
    have f25 : w_5.cell? ⟨w.heap.size, 1, none⟩ = some (v0) := (below_cell hb _ _ l22).trans f21
    have l26 : w.heap.size < w_5.heap.size := Nat.lt_of_lt_of_le l22 (hb).size
    clear f20 f21 l22
    have HB27 := Lib.hid (below_of HB23.out hb HB23.out.size)
    clear hb ho HXR0
    have f28 : (w_5.alloc (.cells #[.string s0, .slice aX0 len0 cX0] 30)).cell? ⟨w.heap.size, 0, none⟩ = some (.string s0) := (below_cell (below_al w_5 (.cells #[.string s0, .slice aX0 len0 cX0] 30)) _ _ l26).trans f24
    have f29 : (w_5.alloc (.cells #[.string s0, .slice aX0 len0 cX0] 30)).cell? ⟨w.heap.size, 1, none⟩ = some (v0) := (below_cell (below_al w_5 (.cells #[.string s0, .slice aX0 len0 cX0] 30)) _ _ l26).trans f25
    have l30 : w.heap.size < (w_5.alloc (.cells #[.string s0, .slice aX0 len0 cX0] 30)).heap.size := Nat.lt_of_lt_of_le l26 ((below_al w_5 (.cells #[.string s0, .slice aX0 len0 cX0] 30))).size
    clear f24 f25 l26
    have f31 : (w_5.alloc (.cells #[.string s0, .slice aX0 len0 cX0] 30)).cell? ⟨w_5.heap.size, 0, none⟩ = some (.string s0) := by go_simp
    have f32 : (w_5.alloc (.cells #[.string s0, .slice aX0 len0 cX0] 30)).cell? ⟨w_5.heap.size, 1, none⟩ = some (.slice aX0 len0 cX0) := by go_simp
    have l33 : w_5.heap.size < (w_5.alloc (.cells #[.string s0, .slice aX0 len0 cX0] 30)).heap.size := alloc_lt2 _ _
    have HB34 := Lib.hid (below_of HB27.out (below_al w_5 (.cells #[.string s0, .slice aX0 len0 cX0] 30)) HB27.out.size)
    have HR35 := Lib.hid (rv_kept (below_al w_5 (.cells #[.string s0, .slice aX0 len0 cX0] 30)) HX0R.out)
    clear HX0R
    go_wp2_with fail
    have OXb0 : w_5.heap.size < (w_5.alloc (.cells #[.string s0, .slice aX0 len0 cX0] 30)).heap.size := alloc_lt2 _ _
    generalize (w_5.alloc (.cells #[.string s0, .slice aX0 len0 cX0] 30)) = wb36 at *
    refine (toInts_any z1 _ _ (ints_kept HB34.out HY1.out)).mono ?_
    rintro e w_6 ⟨vx, rfl, ho, hb⟩
    have hv := iv_own ho
    obtain ⟨aZ1, cZ1, rfl⟩ := iv_form hv
    rw [HZN1.out] at hv ⊢
    have HX1I := Lib.hid (iv_in hv)
    have HX1R := Lib.hid hv
    have OX1 : wb36.heap.size ≤ w_6.heap.size := hb.size
    clear hv
    have f37 : w_6.cell? ⟨w.heap.size, 0, none⟩ = some (.string s0) := (below_cell hb _ _ l30).trans f28
    have f38 : w_6.cell? ⟨w.heap.size, 1, none⟩ = some (v0) := (below_cell hb _ _ l30).trans f29
    have f39 : w_6.cell? ⟨w_5.heap.size, 0, none⟩ = some (.string s0) := (below_cell hb _ _ l33).trans f31
    have f40 : w_6.cell? ⟨w_5.heap.size, 1, none⟩ = some (.slice aX0 len0 cX0) := (below_cell hb _ _ l33).trans f32
    have l41 : w.heap.size < w_6.heap.size := Nat.lt_of_lt_of_le l30 (hb).size
    have l42 : w_5.heap.size < w_6.heap.size := Nat.lt_of_lt_of_le l33 (hb).size
    clear f28 f29 f31 f32 l30 l33
    have HB43 := Lib.hid (below_of HB34.out hb HB34.out.size)
    have HR44 := Lib.hid (rv_kept hb HR35.out)
    clear HR35
    clear hb ho
    go_wp2_with fail
    refine (HIM.out _ _ _ (rvW HZL0.out HR44.out) (iv_ints HYL1.out HX1R.out)).mono ?_
    rintro e w_7 ⟨rfl, hb⟩
    have f45 : w_7.cell? ⟨w.heap.size, 0, none⟩ = some (.string s0) := (below_cell hb _ _ l41).trans f37
    have f46 : w_7.cell? ⟨w.heap.size, 1, none⟩ = some (v0) := (below_cell hb _ _ l41).trans f38
    have f47 : w_7.cell? ⟨w_5.heap.size, 0, none⟩ = some (.string s0) := (below_cell hb _ _ l42).trans f39
    have f48 : w_7.cell? ⟨w_5.heap.size, 1, none⟩ = some (.slice aX0 len0 cX0) := (below_cell hb _ _ l42).trans f40
    have l49 : w.heap.size < w_7.heap.size := Nat.lt_of_lt_of_le l41 (hb).size
    have l50 : w_5.heap.size < w_7.heap.size := Nat.lt_of_lt_of_le l42 (hb).size
    clear f37 f38 f39 f40 l41 l42
    have HB51 := Lib.hid (below_of HB43.out hb HB43.out.size)
    have HR52 := Lib.hid (rv_kept hb HR44.out)
    clear HR44
    have HR53 := Lib.hid (iv_kept hb HX1R.out)
    clear HX1R
    clear hb 
    go_wp2
    have hbd : Below w_7.heap.size w_7 w_7.drew := ⟨rfl, rfl, rfl, Nat.le_refl _, fun _ _ => rfl⟩
    have HIv := Lib.hid (rings_kept HB51.out HZ0.out)
    have HXr := Lib.hid (rv_rings HZL0.out HR52.out)
    have HSK := Lib.hid (fun W (hW : Below w_7.heap.size w_7 W) => show W.cell? ⟨w.heap.size, 0, none⟩ = some (.string s0) ∧ W.cell? ⟨w.heap.size, 1, none⟩ = some (v0) ∧ W.cell? ⟨w_5.heap.size, 0, none⟩ = some (.string s0) ∧ W.cell? ⟨w_5.heap.size, 1, none⟩ = some (.slice aX0 len0 cX0) ∧ Below w_7.heap.size w_7 W from ⟨(below_cell hW _ _ l49).trans f45, (below_cell hW _ _ l49).trans f46, (below_cell hW _ _ l50).trans f47, (below_cell hW _ _ l50).trans f48, hW⟩)
    go_region_held3 (fun W => W.cell? ⟨w.heap.size, 0, none⟩ = some (.string s0) ∧ W.cell? ⟨w.heap.size, 1, none⟩ = some (v0) ∧ W.cell? ⟨w_5.heap.size, 0, none⟩ = some (.string s0) ∧ W.cell? ⟨w_5.heap.size, 1, none⟩ = some (.slice aX0 len0 cX0) ∧ Below w_7.heap.size w_7 W)
      (first | exact HSK.out _ hbd | exact HSK.out _ hbr0 | exact HSK.out _ hbrf | assumption)
      (first
        | (go_at_call 17; refine (toProf_any s0 v0 zs0 _ (rings_kept hbd HIv.out)).mono ?_; rintro e wq7 ⟨v7, rfl, ho7, hbq0⟩; have hbr0 := below_of hbd hbq0 hbd.size)
        | (go_at_call 20; refine (eqProf_any s0 _ v7 zs0 _ (rings_kept hbr0 HXr.out) (ownRAt_rings HZL0.out ho7)).mono ?_; rintro e wq8 ⟨rfl, hbf⟩; have hbrf := below_of hbr0 hbf hbr0.size))
    have hb := hbrf
    have f54 : wq8.cell? ⟨w.heap.size, 0, none⟩ = some (.string s0) := (below_cell hb _ _ l49).trans f45
    have f55 : wq8.cell? ⟨w.heap.size, 1, none⟩ = some (v0) := (below_cell hb _ _ l49).trans f46
    have f56 : wq8.cell? ⟨w_5.heap.size, 0, none⟩ = some (.string s0) := (below_cell hb _ _ l50).trans f47
    have f57 : wq8.cell? ⟨w_5.heap.size, 1, none⟩ = some (.slice aX0 len0 cX0) := (below_cell hb _ _ l50).trans f48
    have l58 : w.heap.size < wq8.heap.size := Nat.lt_of_lt_of_le l49 (hb).size
    have l59 : w_5.heap.size < wq8.heap.size := Nat.lt_of_lt_of_le l50 (hb).size
    clear f45 f46 f47 f48 l49 l50
    have HB60 := Lib.hid (below_of HB51.out hb HB51.out.size)
    have HR61 := Lib.hid (rv_kept hb HR52.out)
    clear HR52
    have HR62 := Lib.hid (iv_kept hb HR53.out)
    clear HR53
    clear hb hbd hbr0 hbrf hbq0 hbf ho7 HIv HXr HSK
    generalize hw8 : wq8 = w_8 at *
    clear hw8
    go_wp2_with fail
    refine (toInts_any z1 _ _ (ints_kept HB60.out HY1.out)).mono ?_
    rintro e w_9 ⟨vt, rfl, ho, hb⟩
    have HT := Lib.hid (own_ints HYL1.out ho)
    have f63 : w_9.cell? ⟨w.heap.size, 0, none⟩ = some (.string s0) := (below_cell hb _ _ l58).trans f54
    have f64 : w_9.cell? ⟨w.heap.size, 1, none⟩ = some (v0) := (below_cell hb _ _ l58).trans f55
    have f65 : w_9.cell? ⟨w_5.heap.size, 0, none⟩ = some (.string s0) := (below_cell hb _ _ l59).trans f56
    have f66 : w_9.cell? ⟨w_5.heap.size, 1, none⟩ = some (.slice aX0 len0 cX0) := (below_cell hb _ _ l59).trans f57
    have l67 : w.heap.size < w_9.heap.size := Nat.lt_of_lt_of_le l58 (hb).size
    have l68 : w_5.heap.size < w_9.heap.size := Nat.lt_of_lt_of_le l59 (hb).size
    clear f54 f55 f56 f57 l58 l59
    have HB69 := Lib.hid (below_of HB60.out hb HB60.out.size)
    have HR70 := Lib.hid (rv_kept hb HR61.out)
    clear HR61
    have HR71 := Lib.hid (iv_kept hb HR62.out)
    clear HR62
    clear hb ho
    go_wp2_with fail
    refine (eqInts_at z1 _ _ _ (iv_ints HYL1.out HR71.out) HT.out).mono ?_
    rintro e w_10 ⟨rfl, hb⟩
    have f72 : w_10.cell? ⟨w.heap.size, 0, none⟩ = some (.string s0) := (below_cell hb _ _ l67).trans f63
    have f73 : w_10.cell? ⟨w.heap.size, 1, none⟩ = some (v0) := (below_cell hb _ _ l67).trans f64
    have f74 : w_10.cell? ⟨w_5.heap.size, 0, none⟩ = some (.string s0) := (below_cell hb _ _ l68).trans f65
    have f75 : w_10.cell? ⟨w_5.heap.size, 1, none⟩ = some (.slice aX0 len0 cX0) := (below_cell hb _ _ l68).trans f66
    have l76 : w.heap.size < w_10.heap.size := Nat.lt_of_lt_of_le l67 (hb).size
    have l77 : w_5.heap.size < w_10.heap.size := Nat.lt_of_lt_of_le l68 (hb).size
    clear f63 f64 f65 f66 l67 l68
    have HB78 := Lib.hid (below_of HB69.out hb HB69.out.size)
    have HR79 := Lib.hid (rv_kept hb HR70.out)
    clear HR70
    have HR80 := Lib.hid (iv_kept hb HR71.out)
    clear HR71
    clear hb HT
    go_wp2
    go_ret
    exact ⟨rfl, HB78.out⟩
  · have HL0 := Lib.hid (show leftP s0.size len0 (1048576) = -1 by exact leftP_no (by omega))
    clear hI0
    go_enter Try.func9, Try.ntmps9
    go_wp2_with fail
    refine (szProf_v s0 v0 len0 (1048576) _ HV0 hs0 hlen0 (by omega) (by omega)).mono ?_
    rintro e w_11 ⟨rfl, hb⟩
    rw [HL0.out]
    have HBF := Lib.hid (below_of (below_al _ _) hb (by simp))
    clear hb
    go_wp2
    go_ret
    exact ⟨rfl, HBF.out⟩

set_option maxRecDepth 100000 in
theorem contract (H : Type) (enc : TypeId × Value → H) (W : World) (base : Nat) (args : Array Value) (ds gs : List (DataW H)) (before : List MemPlace)
    (hval : ∀ (j : Nat) t v, Try.f9.params[j]? = some t → args[j]? = some v → Value.okWide Try.prog W .any base t v)
    (hW : DataW.Whole enc Try.prog Try.f9.params.toList Rows.fnExactMostStepsSpec.vars false W args.toList ds gs before) :
    Calls Try.prog 9 args W fun e W' => ∃ v, e = .returned v ∧ Rows.fnExactMostStepsSpec.post enc Try.prog Try.f9 false true false false W args v W' := by
  have hW' := hW
  obtain ⟨p, q, hA0, hV, rfl, hfz, hnd⟩ := hW
  have hA : DataW.TrodAll enc Try.prog W 0 (fun _ => true) true Try.f9.params.toList args.toList ds p := hA0
  rw [Try.params9] at hA hval
  obtain ⟨v0, vs0, d0, ds0, p0, q0, hargs, rfl, rfl, h0, r0⟩ := trodAll_cons hA
  obtain ⟨v1, vs1, d1, ds1, p1, q1, hargs1, rfl, rfl, h1, r1⟩ := trodAll_cons r0
  subst hargs1
  obtain ⟨v2, vs2, d2, ds2, p2, q2, hargs2, rfl, rfl, h2, r2⟩ := trodAll_cons r1
  subst hargs2
  obtain ⟨rfl, rfl, rfl⟩ := trodAll_nil r2
  obtain rfl : args = #[v0, v1, v2] := by cases args; simp_all
  obtain ⟨rfl, rfl⟩ := trodVars_none hV
  simp only [List.append_nil] at hW'
  have hlt0 : ∀ x ∈ p0, x.block < W.heap.size := fun x hx => hW'.lt x (by simp [hx])
  have kept0 := fun (W2 : World) (hb : Below W.heap.size W W2) => Below.trod laidOut (by kernel_rfl) (of_decide_eq_true (by kernel_rfl)) h0 hb hlt0
  obtain ⟨s0, a0, len0, cap0, rfl, w0, hI0⟩ := prof_arg (hval 0 24 v0 rfl rfl) h0 hlt0
  have hlt1 : ∀ x ∈ p1, x.block < W.heap.size := fun x hx => hW'.lt x (by simp [hx])
  have kept1 := fun (W2 : World) (hb : Below W.heap.size W W2) => Below.trod laidOut (by kernel_rfl) (of_decide_eq_true (by kernel_rfl)) h1 hb hlt1
  obtain ⟨a1, len1, cap1, rfl⟩ := okWide_slice Try.underlying25 (hval 1 25 v1 rfl rfl)
  obtain ⟨fuel1, hf1⟩ := h1
  obtain ⟨w1, hI1⟩ := ints_arg hf1 hlt1
  have hlt2 : ∀ x ∈ p2, x.block < W.heap.size := fun x hx => hW'.lt x (by simp [hx])
  have kept2 := fun (W2 : World) (hb : Below W.heap.size W W2) => Below.trod laidOut (by kernel_rfl) (of_decide_eq_true (by kernel_rfl)) h2 hb hlt2
  obtain ⟨a2, rfl, -, -, w2⟩ := open_int Try.underlying2 (hval 2 2 v2 rfl rfl) h2
  clear hA0
  refine (walk s0 a0 len0 cap0 a1 len1 cap1 a2 w0 w1 w2 W hI0 hI1).mono fun e W' ⟨he, hg⟩ => ?_
  subst he
  refine ⟨_, rfl, post_at (pa := p0 ++ (p1 ++ p2)) (pv := []) hW' (by simp) hg (fun _ _ => (trodAll_cons_mk (shut_bool Try.underlying4 _) trodAll_mk0)) ?_ rfl⟩
  have hk := (trodAll_cons_mk (kept0 W' hg) (trodAll_cons_mk (kept1 W' hg) (trodAll_cons_mk (kept2 W' hg) trodAll_mk0)))
  simp only [List.append_nil] at hk
  exact hk

set_option maxRecDepth 100000 in
theorem lifted (os : Os) (started : os.Started) (H : Type) (enc : TypeId × Value → H) :
    ReturnsInHanded {} Try.checked os 9 .any (Rows.fnExactMostStepsSpec.pre6 enc Try.prog Try.f9 Rows.fnExactMostStepsRow.domain false) (Rows.fnExactMostStepsSpec.post enc Try.prog Try.f9 false true false false) := by
  refine returnsInHanded_of_change (C := Try.checked) own started (by kernel_rfl) Try.func9
    (ChangeSpec.witness6 (enc := enc) (C := Try.checked) false ⟨#[], #[.agg #[.string ⟨#[]⟩, .slice none 0 0], .slice none 0 0, .int .i64 0], []⟩ 8 (by kernel_rfl) (by kernel_rfl) (by kernel_rfl) (by kernel_rfl)) ?_
  intro W base args ds gs before hval0 hW hcnd _
  have hval : ∀ (j : Nat) t v, Try.f9.params[j]? = some t → args[j]? = some v → Value.okWide Try.prog W .any base t v := hval0
  exact contract H enc W base args ds gs before hval hW

theorem over : Rows.fnExactMostStepsRow.holds Try.pinned (OpenSpec.ofChange Rows.fnExactMostStepsSpec) :=
  OpenClaim.holds_of_wide 9 Try.f9 rfl rfl rfl rfl rfl rfl rfl ⟨rfl, rfl, rfl, rfl, rfl⟩ rfl rfl rfl rfl rfl (by kernel_rfl) Try.func9 (by kernel_rfl)
    (of_decide_eq_true (by kernel_rfl)) (by unfold Func.isWrapper; first | (rw [if_pos (by decide +kernel)]; kernel_rfl) | (rw [if_neg (by decide +kernel)]; exact ⟨rfl, rfl⟩))
    (fun os started H enc _ => lifted os started H enc)
end Go.Proofs.Ytjdnjlakafcglaa.fnExactMostSteps

namespace Go.Proofs.Ytjdnjlakafcglaa
/-- The given statement. -/
theorem fnExactMostSteps_holds : Rows.FnExactMostStepsSaid := fnExactMostSteps.over
#print axioms fnExactMostSteps_holds
end Go.Proofs.Ytjdnjlakafcglaa
