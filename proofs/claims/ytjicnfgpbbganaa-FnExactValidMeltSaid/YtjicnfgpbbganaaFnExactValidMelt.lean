/- At every argument ValidMelt answers as its model, and its arguments are as they were. -/
import Derived.Test.YtjicnfgpbbganaaRows
import Derived.Test.YtjicnfgpbbganaaBase
import Derived.Test.YtjicnfgpbbganaaLaidOut
import Derived.Test.YtjicnfgpbbganaaMeltI
import Derived.Deep.RegionHeld3
namespace Go.Proofs.Ytjicnfgpbbganaa.fnExactValidMelt
open Go.ChangeShapes Go.WideShapes Go.ChangeAt Go.RowKit
open Go.ChangeMaps (open_string shut_string)
set_option linter.unusedVariables false

theorem own : ownKnob Try.prog.godebug = none := by kernel_rfl

set_option maxRecDepth 100000 in
set_option maxHeartbeats 8000000 in
theorem walk (v0 : Value) (w : World) (hI0 : MeltArgX w v0) :
    Calls Try.prog 3 #[v0] w fun e w' => e = .returned (.bool true) ∧ Below w.heap.size w w' := by
  obtain ⟨s0n, x0a, s0z, N0, rfl, hs0, hsz0, hmk0⟩ := hI0
  have HSZ0 := Lib.hid hsz0
  clear hsz0
  by_cases hbig0 : (N0) ≤ 1048576
  · obtain ⟨T1, hT1⟩ : ∃ T, (N0) = T := ⟨_, rfl⟩
    have HL0 := Lib.hid (show leftK N0 (1048576) = 1048576 - (T1 : Int) by rw [leftK_yes (by omega)]; omega)
    have hTb1 : T1 ≤ 1048576 := by omega
    obtain ⟨mz0, hma0, hso0, hml0⟩ := hmk0 (by omega)
    have HZ0 := Lib.hid hma0
    have HSO0 := Lib.hid hso0
    have HZL0 := Lib.hid hml0
    clear hma0 hso0 hml0 hmk0
    clear hT1 hbig0
    obtain ⟨r0, hsp, him⟩ : ∃ (r0 : Bool), (∀ u0 w, StAt w u0 mz0 → Calls Try.prog 8 #[.agg #[.string s0n, u0, .int .i64 s0z]] w (fun e w' => e = .returned (.bool r0) ∧ Below w.heap.size w w')) ∧ (∀ u0 w, StAt w u0 mz0 → Calls Try.prog 10 #[.agg #[.string s0n, u0, .int .i64 s0z]] w (fun e w' => e = .returned (.bool r0) ∧ Below w.heap.size w w')) :=
      ⟨meltB s0n mz0 s0z, fun u0 w h => specVMl_any s0n u0 mz0 s0z w h hs0 HSO0.out, fun u0 w h => implVMl_any s0n u0 mz0 s0z w h hs0 HSO0.out⟩
    have hrr0 : (r0 != r0) = false := by simp
    have HSP := Lib.hid hsp
    have HIM := Lib.hid him
    clear hsp him
    go_enter Try.func3, Try.ntmps3
    have f1 : (w.alloc (.cells #[.string s0n, x0a, .int .i64 s0z] 24)).cell? ⟨w.heap.size, 0, none⟩ = some (.string s0n) := by go_simp
    have f2 : (w.alloc (.cells #[.string s0n, x0a, .int .i64 s0z] 24)).cell? ⟨w.heap.size, 1, none⟩ = some (x0a) := by go_simp
    have f3 : (w.alloc (.cells #[.string s0n, x0a, .int .i64 s0z] 24)).cell? ⟨w.heap.size, 2, none⟩ = some (.int .i64 s0z) := by go_simp
    have l4 : w.heap.size < (w.alloc (.cells #[.string s0n, x0a, .int .i64 s0z] 24)).heap.size := by simp
    have S5 : w.heap.size + 1 ≤ (w.alloc (.cells #[.string s0n, x0a, .int .i64 s0z] 24)).heap.size := by simp <;> omega
    have HB6 := Lib.hid ((below_alT w (.cells #[.string s0n, x0a, .int .i64 s0z] 24)))
    go_wp2_with fail
    generalize (w.alloc (.cells #[.string s0n, x0a, .int .i64 s0z] 24)) = wb at *
    refine (szMeltK s0n x0a N0 s0z (1048576) _ (szIn_kept HB6.out HSZ0.out) hs0 (by omega) (by omega)).mono ?_
    rintro e w_1 ⟨rfl, hb⟩
    rw [HL0.out]
    have S7 : wb.heap.size ≤ w_1.heap.size := (hb).size
    have f8 : w_1.cell? ⟨w.heap.size, 0, none⟩ = some (.string s0n) := (below_cell hb _ _ l4).trans f1
    have f9 : w_1.cell? ⟨w.heap.size, 1, none⟩ = some (x0a) := (below_cell hb _ _ l4).trans f2
    have f10 : w_1.cell? ⟨w.heap.size, 2, none⟩ = some (.int .i64 s0z) := (below_cell hb _ _ l4).trans f3
    have l11 : w.heap.size < w_1.heap.size := Nat.lt_of_lt_of_le l4 (hb).size
    clear f1 f2 f3 l4
    have HB12 := Lib.hid (below_of HB6.out hb HB6.out.size)
    clear hb 
    go_wp2_with fail
    refine (toMelt_any s0n x0a mz0 s0z _ (st_kept HB12.out HZ0.out)).mono ?_
    rintro e w_2 ⟨vx0, rfl, ho, hb⟩
    have HO13 := Lib.hid ((own_st HZL0.out ho))
    have S14 : w_1.heap.size ≤ w_2.heap.size := (hb).size
    have f15 : w_2.cell? ⟨w.heap.size, 0, none⟩ = some (.string s0n) := (below_cell hb _ _ l11).trans f8
    have f16 : w_2.cell? ⟨w.heap.size, 1, none⟩ = some (x0a) := (below_cell hb _ _ l11).trans f9
    have f17 : w_2.cell? ⟨w.heap.size, 2, none⟩ = some (.int .i64 s0z) := (below_cell hb _ _ l11).trans f10
    have l18 : w.heap.size < w_2.heap.size := Nat.lt_of_lt_of_le l11 (hb).size
    clear f8 f9 f10 l11
    have HB19 := Lib.hid (below_of HB12.out hb HB12.out.size)
    clear hb ho
    go_wp2_with fail
    refine (HSP.out vx0 _ HO13.out).mono ?_
    rintro e w_3 ⟨rfl, hb⟩
    have S20 : w_2.heap.size ≤ w_3.heap.size := (hb).size
    have f21 : w_3.cell? ⟨w.heap.size, 0, none⟩ = some (.string s0n) := (below_cell hb _ _ l18).trans f15
    have f22 : w_3.cell? ⟨w.heap.size, 1, none⟩ = some (x0a) := (below_cell hb _ _ l18).trans f16
    have f23 : w_3.cell? ⟨w.heap.size, 2, none⟩ = some (.int .i64 s0z) := (below_cell hb _ _ l18).trans f17
    have l24 : w.heap.size < w_3.heap.size := Nat.lt_of_lt_of_le l18 (hb).size
    clear f15 f16 f17 l18
    have HB25 := Lib.hid (below_of HB19.out hb HB19.out.size)
    clear hb HO13
    go_wp2_with fail
    refine (toMelt_any s0n x0a mz0 s0z _ (st_kept HB25.out HZ0.out)).mono ?_
    rintro e w_4 ⟨vx0, rfl, ho, hb⟩
    obtain ⟨aX0, cX0, rfl⟩ := ownSt_form ho
    have HX0R := Lib.hid (own_st HZL0.out ho)
    have S26 : w_3.heap.size ≤ w_4.heap.size := (hb).size
    have f27 : w_4.cell? ⟨w.heap.size, 0, none⟩ = some (.string s0n) := (below_cell hb _ _ l24).trans f21
    have f28 : w_4.cell? ⟨w.heap.size, 1, none⟩ = some (x0a) := (below_cell hb _ _ l24).trans f22
    have f29 : w_4.cell? ⟨w.heap.size, 2, none⟩ = some (.int .i64 s0z) := (below_cell hb _ _ l24).trans f23
    have l30 : w.heap.size < w_4.heap.size := Nat.lt_of_lt_of_le l24 (hb).size
    clear f21 f22 f23 l24
    have HB31 := Lib.hid (below_of HB25.out hb HB25.out.size)
    clear hb ho
    have f32 : (w_4.alloc (.cells #[.string s0n, .slice aX0 mz0.length cX0, .int .i64 s0z] 27)).cell? ⟨w.heap.size, 0, none⟩ = some (.string s0n) := (below_cell (below_alT w_4 (.cells #[.string s0n, .slice aX0 mz0.length cX0, .int .i64 s0z] 27)) _ _ l30).trans f27
    have f33 : (w_4.alloc (.cells #[.string s0n, .slice aX0 mz0.length cX0, .int .i64 s0z] 27)).cell? ⟨w.heap.size, 1, none⟩ = some (x0a) := (below_cell (below_alT w_4 (.cells #[.string s0n, .slice aX0 mz0.length cX0, .int .i64 s0z] 27)) _ _ l30).trans f28
    have f34 : (w_4.alloc (.cells #[.string s0n, .slice aX0 mz0.length cX0, .int .i64 s0z] 27)).cell? ⟨w.heap.size, 2, none⟩ = some (.int .i64 s0z) := (below_cell (below_alT w_4 (.cells #[.string s0n, .slice aX0 mz0.length cX0, .int .i64 s0z] 27)) _ _ l30).trans f29
    have l35 : w.heap.size < (w_4.alloc (.cells #[.string s0n, .slice aX0 mz0.length cX0, .int .i64 s0z] 27)).heap.size := Nat.lt_of_lt_of_le l30 (below_alT w_4 (.cells #[.string s0n, .slice aX0 mz0.length cX0, .int .i64 s0z] 27)).size
    clear f27 f28 f29 l30
    have f36 : (w_4.alloc (.cells #[.string s0n, .slice aX0 mz0.length cX0, .int .i64 s0z] 27)).cell? ⟨w_4.heap.size, 0, none⟩ = some (.string s0n) := by go_simp
    have f37 : (w_4.alloc (.cells #[.string s0n, .slice aX0 mz0.length cX0, .int .i64 s0z] 27)).cell? ⟨w_4.heap.size, 1, none⟩ = some (.slice aX0 mz0.length cX0) := by go_simp
    have f38 : (w_4.alloc (.cells #[.string s0n, .slice aX0 mz0.length cX0, .int .i64 s0z] 27)).cell? ⟨w_4.heap.size, 2, none⟩ = some (.int .i64 s0z) := by go_simp
    have l39 : w_4.heap.size < (w_4.alloc (.cells #[.string s0n, .slice aX0 mz0.length cX0, .int .i64 s0z] 27)).heap.size := alloc_ltT _ _
    have S40 : w_4.heap.size < (w_4.alloc (.cells #[.string s0n, .slice aX0 mz0.length cX0, .int .i64 s0z] 27)).heap.size := alloc_ltT _ _
    have HB41 := Lib.hid (below_of HB31.out (below_alT w_4 (.cells #[.string s0n, .slice aX0 mz0.length cX0, .int .i64 s0z] 27)) HB31.out.size)
    have HR42 := Lib.hid (st_kept (below_alT w_4 (.cells #[.string s0n, .slice aX0 mz0.length cX0, .int .i64 s0z] 27)) HX0R.out)
    clear HX0R
    go_wp2_with fail
    generalize (w_4.alloc (.cells #[.string s0n, .slice aX0 mz0.length cX0, .int .i64 s0z] 27)) = wb43 at *
    refine (HIM.out _ _ (HR42.out)).mono ?_
    rintro e w_5 ⟨rfl, hb⟩
    have S44 : wb43.heap.size ≤ w_5.heap.size := (hb).size
    have f45 : w_5.cell? ⟨w.heap.size, 0, none⟩ = some (.string s0n) := (below_cell hb _ _ l35).trans f32
    have f46 : w_5.cell? ⟨w.heap.size, 1, none⟩ = some (x0a) := (below_cell hb _ _ l35).trans f33
    have f47 : w_5.cell? ⟨w.heap.size, 2, none⟩ = some (.int .i64 s0z) := (below_cell hb _ _ l35).trans f34
    have f48 : w_5.cell? ⟨w_4.heap.size, 0, none⟩ = some (.string s0n) := (below_cell hb _ _ l39).trans f36
    have f49 : w_5.cell? ⟨w_4.heap.size, 1, none⟩ = some (.slice aX0 mz0.length cX0) := (below_cell hb _ _ l39).trans f37
    have f50 : w_5.cell? ⟨w_4.heap.size, 2, none⟩ = some (.int .i64 s0z) := (below_cell hb _ _ l39).trans f38
    have l51 : w.heap.size < w_5.heap.size := Nat.lt_of_lt_of_le l35 (hb).size
    have l52 : w_4.heap.size < w_5.heap.size := Nat.lt_of_lt_of_le l39 (hb).size
    clear f32 f33 f34 f36 f37 f38 l35 l39
    have HB53 := Lib.hid (below_of HB41.out hb HB41.out.size)
    have HR54 := Lib.hid (st_kept hb HR42.out)
    clear HR42
    clear hb 
    go_wp2
    have hbd : Below w_5.heap.size w_5 w_5.drew := ⟨rfl, rfl, rfl, Nat.le_refl _, fun _ _ => rfl⟩
    have HIv := Lib.hid (st_kept HB53.out HZ0.out)
    have HXr := Lib.hid (HR54.out)
    have HSK := Lib.hid (fun W (hW : Below w_5.heap.size w_5 W) => show W.cell? ⟨w.heap.size, 0, none⟩ = some (.string s0n) ∧ W.cell? ⟨w.heap.size, 1, none⟩ = some (x0a) ∧ W.cell? ⟨w.heap.size, 2, none⟩ = some (.int .i64 s0z) ∧ W.cell? ⟨w_4.heap.size, 0, none⟩ = some (.string s0n) ∧ W.cell? ⟨w_4.heap.size, 1, none⟩ = some (.slice aX0 mz0.length cX0) ∧ W.cell? ⟨w_4.heap.size, 2, none⟩ = some (.int .i64 s0z) ∧ Below w_5.heap.size w_5 W from ⟨(below_cell hW _ _ l51).trans f45, (below_cell hW _ _ l51).trans f46, (below_cell hW _ _ l51).trans f47, (below_cell hW _ _ l52).trans f48, (below_cell hW _ _ l52).trans f49, (below_cell hW _ _ l52).trans f50, hW⟩)
    go_region_held3 (fun W => W.cell? ⟨w.heap.size, 0, none⟩ = some (.string s0n) ∧ W.cell? ⟨w.heap.size, 1, none⟩ = some (x0a) ∧ W.cell? ⟨w.heap.size, 2, none⟩ = some (.int .i64 s0z) ∧ W.cell? ⟨w_4.heap.size, 0, none⟩ = some (.string s0n) ∧ W.cell? ⟨w_4.heap.size, 1, none⟩ = some (.slice aX0 mz0.length cX0) ∧ W.cell? ⟨w_4.heap.size, 2, none⟩ = some (.int .i64 s0z) ∧ Below w_5.heap.size w_5 W)
      (first | exact HSK.out _ hbd | exact HSK.out _ hbr0 | exact HSK.out _ hbrf | assumption)
      (first
        | (go_at_call 9; refine (toMelt_any s0n x0a mz0 s0z _ (st_kept hbd HIv.out)).mono ?_; rintro e wq1000 ⟨v7, rfl, ho7, hbq0⟩; have hbr0 := below_of hbd hbq0 hbd.size)
        | (go_at_call 11; refine (eqMelt_any s0n _ v7 mz0 s0z _ (st_kept hbr0 HXr.out) (own_st HZL0.out ho7)).mono ?_; rintro e wq2000 ⟨rfl, hbf⟩; have hbrf := below_of hbr0 hbf hbr0.size))
    have hb := hbrf
    have S55 : w_5.heap.size ≤ wq2000.heap.size := (hb).size
    have f56 : wq2000.cell? ⟨w.heap.size, 0, none⟩ = some (.string s0n) := (below_cell hb _ _ l51).trans f45
    have f57 : wq2000.cell? ⟨w.heap.size, 1, none⟩ = some (x0a) := (below_cell hb _ _ l51).trans f46
    have f58 : wq2000.cell? ⟨w.heap.size, 2, none⟩ = some (.int .i64 s0z) := (below_cell hb _ _ l51).trans f47
    have f59 : wq2000.cell? ⟨w_4.heap.size, 0, none⟩ = some (.string s0n) := (below_cell hb _ _ l52).trans f48
    have f60 : wq2000.cell? ⟨w_4.heap.size, 1, none⟩ = some (.slice aX0 mz0.length cX0) := (below_cell hb _ _ l52).trans f49
    have f61 : wq2000.cell? ⟨w_4.heap.size, 2, none⟩ = some (.int .i64 s0z) := (below_cell hb _ _ l52).trans f50
    have l62 : w.heap.size < wq2000.heap.size := Nat.lt_of_lt_of_le l51 (hb).size
    have l63 : w_4.heap.size < wq2000.heap.size := Nat.lt_of_lt_of_le l52 (hb).size
    clear f45 f46 f47 f48 f49 f50 l51 l52
    have HB64 := Lib.hid (below_of HB53.out hb HB53.out.size)
    have HR65 := Lib.hid (st_kept hb HR54.out)
    clear HR54
    clear hb hbd hbr0 hbrf hbq0 hbf ho7 HIv HXr HSK
    go_wp2
    go_ret
    exact ⟨rfl, HB64.out⟩
  · have HL0 := Lib.hid (show leftK N0 (1048576) = -1 by exact leftK_no (by omega))
    clear hmk0
    go_enter Try.func3, Try.ntmps3
    have HB66 := Lib.hid ((below_alT w (.cells #[.string s0n, x0a, .int .i64 s0z] 24)))
    go_wp2_with fail
    generalize (w.alloc (.cells #[.string s0n, x0a, .int .i64 s0z] 24)) = wb at *
    refine (szMeltK s0n x0a N0 s0z (1048576) _ (szIn_kept HB66.out HSZ0.out) hs0 (by omega) (by omega)).mono ?_
    rintro e w_6 ⟨rfl, hb⟩
    rw [HL0.out]
    have S67 : wb.heap.size ≤ w_6.heap.size := (hb).size
    have HB68 := Lib.hid (below_of HB66.out hb HB66.out.size)
    clear hb 
    go_wp2
    go_ret
    exact ⟨rfl, HB68.out⟩

set_option maxRecDepth 100000 in
theorem contract (H : Type) (enc : TypeId × Value → H) (W : World) (base : Nat) (args : Array Value) (ds gs : List (DataW H)) (before : List MemPlace)
    (hval : ∀ (j : Nat) t v, Try.f3.params[j]? = some t → args[j]? = some v → Value.okWide Try.prog W .any base t v)
    (hW : DataW.Whole enc Try.prog Try.f3.params.toList Rows.fnExactValidMeltSpec.vars false W args.toList ds gs before) :
    Calls Try.prog 3 args W fun e W' => ∃ v, e = .returned v ∧ Rows.fnExactValidMeltSpec.post enc Try.prog Try.f3 false true false false W args v W' := by
  have hW' := hW
  obtain ⟨p, q, hA0, hV, rfl, hfz, hnd⟩ := hW
  have hA : DataW.TrodAll enc Try.prog W 0 (fun _ => true) true Try.f3.params.toList args.toList ds p := hA0
  rw [Try.params3] at hA hval
  obtain ⟨v0, vs0, d0, ds0, p0, q0, hargs, rfl, rfl, h0, r0⟩ := trodAll_cons hA
  obtain ⟨rfl, rfl, rfl⟩ := trodAll_nil r0
  obtain rfl : args = #[v0] := by cases args; simp_all
  obtain ⟨rfl, rfl⟩ := trodVars_none hV
  simp only [List.append_nil] at hW'
  have hlt0 : ∀ x ∈ p0, x.block < W.heap.size := fun x hx => hW'.lt x (by simp [hx])
  have kept0 := fun (W2 : World) (hb : Below W.heap.size W W2) => Below.trod laidOut (by kernel_rfl) (of_decide_eq_true (by kernel_rfl)) h0 hb hlt0
  have hI0 := meltx_arg (hval 0 24 v0 rfl rfl) h0 hlt0
  clear hA0
  refine (walk v0 W hI0).mono fun e W' ⟨he, hg⟩ => ?_
  subst he
  refine ⟨_, rfl, post_at (pa := p0) (pv := []) hW' (by simp) hg (fun _ _ => (trodAll_cons_mk (shut_bool Try.underlying4 _) trodAll_mk0)) ?_ rfl⟩
  have hk := (trodAll_cons_mk (kept0 W' hg) trodAll_mk0)
  simp only [List.append_nil] at hk
  exact hk

set_option maxRecDepth 100000 in
theorem lifted (os : Os) (started : os.Started) (H : Type) (enc : TypeId × Value → H) :
    ReturnsInHanded {} Try.checked os 3 .any (Rows.fnExactValidMeltSpec.pre6 enc Try.prog Try.f3 Rows.fnExactValidMeltRow.domain false) (Rows.fnExactValidMeltSpec.post enc Try.prog Try.f3 false true false false) := by
  refine returnsInHanded_of_change (C := Try.checked) own started (by kernel_rfl) Try.func3
    (ChangeSpec.witness6 (enc := enc) (C := Try.checked) false ⟨#[], #[.agg #[.string ⟨#[]⟩, .slice none 0 0, .int .i64 0]], []⟩ 8 (by kernel_rfl) (by kernel_rfl) (by kernel_rfl) (by kernel_rfl)) ?_
  intro W base args ds gs before hval0 hW hcnd _
  have hval : ∀ (j : Nat) t v, Try.f3.params[j]? = some t → args[j]? = some v → Value.okWide Try.prog W .any base t v := hval0
  exact contract H enc W base args ds gs before hval hW

theorem over : Rows.fnExactValidMeltRow.holds Try.pinned (OpenSpec.ofChange Rows.fnExactValidMeltSpec) :=
  OpenClaim.holds_of_wide 3 Try.f3 rfl rfl rfl rfl rfl rfl rfl ⟨rfl, rfl, rfl, rfl, rfl⟩ rfl rfl rfl rfl rfl (by kernel_rfl) Try.func3 (by kernel_rfl)
    (of_decide_eq_true (by kernel_rfl)) (by unfold Func.isWrapper; first | (rw [if_pos (by decide +kernel)]; kernel_rfl) | (rw [if_neg (by decide +kernel)]; exact ⟨rfl, rfl⟩))
    (fun os started H enc _ => lifted os started H enc)
end Go.Proofs.Ytjicnfgpbbganaa.fnExactValidMelt

namespace Go.Proofs.Ytjicnfgpbbganaa
/-- The given statement. -/
theorem fnExactValidMelt_holds : Rows.FnExactValidMeltSaid := fnExactValidMelt.over
#print axioms fnExactValidMelt_holds
end Go.Proofs.Ytjicnfgpbbganaa
