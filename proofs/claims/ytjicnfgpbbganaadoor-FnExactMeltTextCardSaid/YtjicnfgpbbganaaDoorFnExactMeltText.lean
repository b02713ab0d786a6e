/- At every argument MeltText answers as its model, and its argument is as it was. Condition: the package-level variables that the row lists hold what the program's text lays (the card ties them). -/
import Derived.Test.YtjicnfgpbbganaaDoorCards
import Derived.Test.YtjicnfgpbbganaaDoorTie
import Derived.Test.YtjicnfgpbbganaaDoorBase
import Derived.Test.YtjicnfgpbbganaaDoorLaidOut
import Derived.Test.YtjicnfgpbbganaaDoorMeltTx
import Derived.Deep.DeepHandedRow
import Derived.Deep.DeepWitnessRowRef
import Derived.LaidMore
namespace Go.Proofs.YtjicnfgpbbganaaDoor.fnExactMeltText
open Go.ChangeShapes Go.WideShapes Go.ChangeAt Go.RowKit
open Go.ChangeMaps (open_string shut_string)
set_option linter.unusedVariables false

theorem own : ownKnob Tryd.prog.godebug = none := by kernel_rfl

theorem facts {W : World} (h : laidMetH Tryd.prog Rows.fnExactMeltTextRow.laid W) : PowOk W := by
  rw [MakeChecks.laidMetH_plain _ _ _ (by kernel_rfl)] at h
  exact pow_of (laid_tail (laid_tail h))
set_option maxRecDepth 100000 in
set_option maxHeartbeats 8000000 in
theorem walk (v0 : Value) (w : World) (hI0 : MeltArgX w v0) (hF : Hid (PowOk w)) :
    Calls Tryd.prog 9 #[v0] w fun e w' => e = .returned (.bool true) ∧ Below w.heap.size w w' := by
  obtain ⟨s0n, x0a, s0z, N0, rfl, hs0, hsz0, hmk0⟩ := hI0
  have HSZ0 := Lib.hid hsz0
  clear hsz0
  by_cases hbig0 : (N0) ≤ 1048576
  · obtain ⟨T1, hT1⟩ : ∃ T, (N0) = T := ⟨_, rfl⟩
    have HL0 := Lib.hid (show leftK N0 (1048576) = 1048576 - (T1 : Int) by rw [leftK_yes (by omega)]; omega)
    have hTb1 : T1 ≤ 1048576 := by omega
    obtain ⟨mz0, hma0, hso0, hml0⟩ := hmk0 (by omega)
    have HZ0 := Lib.hid hma0
    have HSO0 := Lib.hid hso0
    have HZL0 := Lib.hid hml0
    clear hma0 hso0 hml0 hmk0
    clear hT1 hbig0
    obtain ⟨r0, hsp, him⟩ : ∃ (r0 : ByteArray), (∀ u0 w, StC w u0 mz0 → PowOk w → Calls Tryd.prog 37 #[.agg #[.string s0n, u0, .int .i64 s0z]] w (fun e w' => e = .returned (.string r0) ∧ Below w.heap.size w w')) ∧ (∀ u0 w, StC w u0 mz0 → PowOk w → Calls Tryd.prog 38 #[.agg #[.string s0n, u0, .int .i64 s0z]] w (fun e w' => e = .returned (.string r0) ∧ Below w.heap.size w w')) :=
      ⟨meltTx s0n mz0 s0z, fun u0 w h _ => specMlT_any s0n u0 mz0 s0z w h.1 hs0 HSO0.out, fun u0 w h hp => implMlT_any s0n u0 mz0 s0z w h.1 h.2 hs0 HSO0.out (Lib.hid hp)⟩
    have hrr0 : (r0.toList != r0.toList) = false := by simp
    have HSP := Lib.hid hsp
    have HIM := Lib.hid him
    clear hsp him
    go_enter Tryd.func9, Tryd.ntmps9
    have f1 : (w.alloc (.cells #[.string s0n, x0a, .int .i64 s0z] 36)).cell? ⟨w.heap.size, 0, none⟩ = some (.string s0n) := by go_simp
    have f2 : (w.alloc (.cells #[.string s0n, x0a, .int .i64 s0z] 36)).cell? ⟨w.heap.size, 1, none⟩ = some (x0a) := by go_simp
    have f3 : (w.alloc (.cells #[.string s0n, x0a, .int .i64 s0z] 36)).cell? ⟨w.heap.size, 2, none⟩ = some (.int .i64 s0z) := by go_simp
    have l4 : w.heap.size < (w.alloc (.cells #[.string s0n, x0a, .int .i64 s0z] 36)).heap.size := by simp
    have S5 : w.heap.size + 1 ≤ (w.alloc (.cells #[.string s0n, x0a, .int .i64 s0z] 36)).heap.size := by simp <;> omega
    have HB6 := Lib.hid ((below_alT w (.cells #[.string s0n, x0a, .int .i64 s0z] 36)))
    go_wp2_with fail
    generalize (w.alloc (.cells #[.string s0n, x0a, .int .i64 s0z] 36)) = wb at *
    refine (szMeltK s0n x0a N0 s0z (1048576) _ (szIn_kept HB6.out HSZ0.out) hs0 (by omega) (by omega)).mono ?_
    rintro e w_1 ⟨rfl, hb⟩
    rw [HL0.out]
    have S7 : wb.heap.size ≤ w_1.heap.size := (hb).size
    have f8 : w_1.cell? ⟨w.heap.size, 0, none⟩ = some (.string s0n) := (below_cell hb _ _ l4).trans f1
    have f9 : w_1.cell? ⟨w.heap.size, 1, none⟩ = some (x0a) := (below_cell hb _ _ l4).trans f2
    have f10 : w_1.cell? ⟨w.heap.size, 2, none⟩ = some (.int .i64 s0z) := (below_cell hb _ _ l4).trans f3
    have l11 : w.heap.size < w_1.heap.size := Nat.lt_of_lt_of_le l4 (hb).size
    clear f1 f2 f3 l4
    have HB12 := Lib.hid (below_of HB6.out hb HB6.out.size)
    clear hb 
    go_wp2_with fail
    refine (toMelt_any s0n x0a mz0 s0z _ (st_kept HB12.out HZ0.out)).mono ?_
    rintro e w_2 ⟨vx0, rfl, ho, hb⟩
    have HO13 := Lib.hid ((own_stc HZL0.out ho))
    have S14 : w_1.heap.size ≤ w_2.heap.size := (hb).size
    have f15 : w_2.cell? ⟨w.heap.size, 0, none⟩ = some (.string s0n) := (below_cell hb _ _ l11).trans f8
    have f16 : w_2.cell? ⟨w.heap.size, 1, none⟩ = some (x0a) := (below_cell hb _ _ l11).trans f9
    have f17 : w_2.cell? ⟨w.heap.size, 2, none⟩ = some (.int .i64 s0z) := (below_cell hb _ _ l11).trans f10
    have l18 : w.heap.size < w_2.heap.size := Nat.lt_of_lt_of_le l11 (hb).size
    clear f8 f9 f10 l11
    have HB19 := Lib.hid (below_of HB12.out hb HB12.out.size)
    clear hb ho
    go_wp2_with fail
    refine (HSP.out vx0 _ HO13.out (pow_kept HB19.out hF.out)).mono ?_
    rintro e w_3 ⟨rfl, hb⟩
    have S20 : w_2.heap.size ≤ w_3.heap.size := (hb).size
    have f21 : w_3.cell? ⟨w.heap.size, 0, none⟩ = some (.string s0n) := (below_cell hb _ _ l18).trans f15
    have f22 : w_3.cell? ⟨w.heap.size, 1, none⟩ = some (x0a) := (below_cell hb _ _ l18).trans f16
    have f23 : w_3.cell? ⟨w.heap.size, 2, none⟩ = some (.int .i64 s0z) := (below_cell hb _ _ l18).trans f17
    have l24 : w.heap.size < w_3.heap.size := Nat.lt_of_lt_of_le l18 (hb).size
    clear f15 f16 f17 l18
    have HB25 := Lib.hid (below_of HB19.out hb HB19.out.size)
    clear hb HO13
    go_wp2_with fail
    refine (toMelt_any s0n x0a mz0 s0z _ (st_kept HB25.out HZ0.out)).mono ?_
    rintro e w_4 ⟨vx0, rfl, ho, hb⟩
    obtain ⟨aX0, cX0, rfl⟩ := ownSt_form ho
    have HX0R := Lib.hid (own_stc HZL0.out ho)
    have S26 : w_3.heap.size ≤ w_4.heap.size := (hb).size
    have f27 : w_4.cell? ⟨w.heap.size, 0, none⟩ = some (.string s0n) := (below_cell hb _ _ l24).trans f21
    have f28 : w_4.cell? ⟨w.heap.size, 1, none⟩ = some (x0a) := (below_cell hb _ _ l24).trans f22
    have f29 : w_4.cell? ⟨w.heap.size, 2, none⟩ = some (.int .i64 s0z) := (below_cell hb _ _ l24).trans f23
    have l30 : w.heap.size < w_4.heap.size := Nat.lt_of_lt_of_le l24 (hb).size
    clear f21 f22 f23 l24
    have HB31 := Lib.hid (below_of HB25.out hb HB25.out.size)
    clear hb ho
    have f32 : (w_4.alloc (.cells #[.string s0n, .slice aX0 mz0.length cX0, .int .i64 s0z] 40)).cell? ⟨w.heap.size, 0, none⟩ = some (.string s0n) := (below_cell (below_alT w_4 (.cells #[.string s0n, .slice aX0 mz0.length cX0, .int .i64 s0z] 40)) _ _ l30).trans f27
    have f33 : (w_4.alloc (.cells #[.string s0n, .slice aX0 mz0.length cX0, .int .i64 s0z] 40)).cell? ⟨w.heap.size, 1, none⟩ = some (x0a) := (below_cell (below_alT w_4 (.cells #[.string s0n, .slice aX0 mz0.length cX0, .int .i64 s0z] 40)) _ _ l30).trans f28
    have f34 : (w_4.alloc (.cells #[.string s0n, .slice aX0 mz0.length cX0, .int .i64 s0z] 40)).cell? ⟨w.heap.size, 2, none⟩ = some (.int .i64 s0z) := (below_cell (below_alT w_4 (.cells #[.string s0n, .slice aX0 mz0.length cX0, .int .i64 s0z] 40)) _ _ l30).trans f29
    have l35 : w.heap.size < (w_4.alloc (.cells #[.string s0n, .slice aX0 mz0.length cX0, .int .i64 s0z] 40)).heap.size := Nat.lt_of_lt_of_le l30 (below_alT w_4 (.cells #[.string s0n, .slice aX0 mz0.length cX0, .int .i64 s0z] 40)).size
    clear f27 f28 f29 l30
    have f36 : (w_4.alloc (.cells #[.string s0n, .slice aX0 mz0.length cX0, .int .i64 s0z] 40)).cell? ⟨w_4.heap.size, 0, none⟩ = some (.string s0n) := by go_simp
    have f37 : (w_4.alloc (.cells #[.string s0n, .slice aX0 mz0.length cX0, .int .i64 s0z] 40)).cell? ⟨w_4.heap.size, 1, none⟩ = some (.slice aX0 mz0.length cX0) := by go_simp
    have f38 : (w_4.alloc (.cells #[.string s0n, .slice aX0 mz0.length cX0, .int .i64 s0z] 40)).cell? ⟨w_4.heap.size, 2, none⟩ = some (.int .i64 s0z) := by go_simp
    have l39 : w_4.heap.size < (w_4.alloc (.cells #[.string s0n, .slice aX0 mz0.length cX0, .int .i64 s0z] 40)).heap.size := alloc_ltT _ _
    have S40 : w_4.heap.size < (w_4.alloc (.cells #[.string s0n, .slice aX0 mz0.length cX0, .int .i64 s0z] 40)).heap.size := alloc_ltT _ _
    have HB41 := Lib.hid (below_of HB31.out (below_alT w_4 (.cells #[.string s0n, .slice aX0 mz0.length cX0, .int .i64 s0z] 40)) HB31.out.size)
    have HR42 := Lib.hid (stc_kept (below_alT w_4 (.cells #[.string s0n, .slice aX0 mz0.length cX0, .int .i64 s0z] 40)) HX0R.out)
    clear HX0R
    go_wp2_with fail
    generalize (w_4.alloc (.cells #[.string s0n, .slice aX0 mz0.length cX0, .int .i64 s0z] 40)) = wb43 at *
    refine (HIM.out _ _ (HR42.out) (pow_kept HB41.out hF.out)).mono ?_
    rintro e w_5 ⟨rfl, hb⟩
    have S44 : wb43.heap.size ≤ w_5.heap.size := (hb).size
    have f45 : w_5.cell? ⟨w.heap.size, 0, none⟩ = some (.string s0n) := (below_cell hb _ _ l35).trans f32
    have f46 : w_5.cell? ⟨w.heap.size, 1, none⟩ = some (x0a) := (below_cell hb _ _ l35).trans f33
    have f47 : w_5.cell? ⟨w.heap.size, 2, none⟩ = some (.int .i64 s0z) := (below_cell hb _ _ l35).trans f34
    have f48 : w_5.cell? ⟨w_4.heap.size, 0, none⟩ = some (.string s0n) := (below_cell hb _ _ l39).trans f36
    have f49 : w_5.cell? ⟨w_4.heap.size, 1, none⟩ = some (.slice aX0 mz0.length cX0) := (below_cell hb _ _ l39).trans f37
    have f50 : w_5.cell? ⟨w_4.heap.size, 2, none⟩ = some (.int .i64 s0z) := (below_cell hb _ _ l39).trans f38
    have l51 : w.heap.size < w_5.heap.size := Nat.lt_of_lt_of_le l35 (hb).size
    have l52 : w_4.heap.size < w_5.heap.size := Nat.lt_of_lt_of_le l39 (hb).size
    clear f32 f33 f34 f36 f37 f38 l35 l39
    have HB53 := Lib.hid (below_of HB41.out hb HB41.out.size)
    have HR54 := Lib.hid (stc_kept hb HR42.out)
    clear HR42
    clear hb 
    go_wp2
    have hbd : Below w_5.heap.size w_5 w_5.drew := ⟨rfl, rfl, rfl, Nat.le_refl _, fun _ _ => rfl⟩
    have HIv := Lib.hid (st_kept HB53.out HZ0.out)
    have HXr := Lib.hid (HR54.out)
    have HSK := Lib.hid (fun W (hW : Below w_5.heap.size w_5 W) => show W.cell? ⟨w.heap.size, 0, none⟩ = some (.string s0n) ∧ W.cell? ⟨w.heap.size, 1, none⟩ = some (x0a) ∧ W.cell? ⟨w.heap.size, 2, none⟩ = some (.int .i64 s0z) ∧ W.cell? ⟨w_4.heap.size, 0, none⟩ = some (.string s0n) ∧ W.cell? ⟨w_4.heap.size, 1, none⟩ = some (.slice aX0 mz0.length cX0) ∧ W.cell? ⟨w_4.heap.size, 2, none⟩ = some (.int .i64 s0z) ∧ Below w_5.heap.size w_5 W from ⟨(below_cell hW _ _ l51).trans f45, (below_cell hW _ _ l51).trans f46, (below_cell hW _ _ l51).trans f47, (below_cell hW _ _ l52).trans f48, (below_cell hW _ _ l52).trans f49, (below_cell hW _ _ l52).trans f50, hW⟩)
    go_region_held3 (fun W => W.cell? ⟨w.heap.size, 0, none⟩ = some (.string s0n) ∧ W.cell? ⟨w.heap.size, 1, none⟩ = some (x0a) ∧ W.cell? ⟨w.heap.size, 2, none⟩ = some (.int .i64 s0z) ∧ W.cell? ⟨w_4.heap.size, 0, none⟩ = some (.string s0n) ∧ W.cell? ⟨w_4.heap.size, 1, none⟩ = some (.slice aX0 mz0.length cX0) ∧ W.cell? ⟨w_4.heap.size, 2, none⟩ = some (.int .i64 s0z) ∧ Below w_5.heap.size w_5 W)
      (first | exact HSK.out _ hbd | exact HSK.out _ hbr0 | exact HSK.out _ hbrf | assumption)
      (first
        | (go_at_call 20; refine (toMelt_any s0n x0a mz0 s0z _ (st_kept hbd HIv.out)).mono ?_; rintro e wq1000 ⟨v7, rfl, ho7, hbq0⟩; have hbr0 := below_of hbd hbq0 hbd.size)
        | (go_at_call 22; refine (eqMelt_any s0n _ v7 mz0 s0z _ (st_kept hbr0 HXr.out.1) (own_st HZL0.out ho7)).mono ?_; rintro e wq2000 ⟨rfl, hbf⟩; have hbrf := below_of hbr0 hbf hbr0.size))
    have hb := hbrf
    have S55 : w_5.heap.size ≤ wq2000.heap.size := (hb).size
    have f56 : wq2000.cell? ⟨w.heap.size, 0, none⟩ = some (.string s0n) := (below_cell hb _ _ l51).trans f45
    have f57 : wq2000.cell? ⟨w.heap.size, 1, none⟩ = some (x0a) := (below_cell hb _ _ l51).trans f46
    have f58 : wq2000.cell? ⟨w.heap.size, 2, none⟩ = some (.int .i64 s0z) := (below_cell hb _ _ l51).trans f47
    have f59 : wq2000.cell? ⟨w_4.heap.size, 0, none⟩ = some (.string s0n) := (below_cell hb _ _ l52).trans f48
    have f60 : wq2000.cell? ⟨w_4.heap.size, 1, none⟩ = some (.slice aX0 mz0.length cX0) := (below_cell hb _ _ l52).trans f49
    have f61 : wq2000.cell? ⟨w_4.heap.size, 2, none⟩ = some (.int .i64 s0z) := (below_cell hb _ _ l52).trans f50
    have l62 : w.heap.size < wq2000.heap.size := Nat.lt_of_lt_of_le l51 (hb).size
    have l63 : w_4.heap.size < wq2000.heap.size := Nat.lt_of_lt_of_le l52 (hb).size
    clear f45 f46 f47 f48 f49 f50 l51 l52
    have HB64 := Lib.hid (below_of HB53.out hb HB53.out.size)
    have HR65 := Lib.hid (stc_kept hb HR54.out)
    clear HR54
    clear hb hbd hbr0 hbrf hbq0 hbf ho7 HIv HXr HSK
    go_wp2
    go_ret
    exact ⟨rfl, HB64.out⟩
  · have HL0 := Lib.hid (show leftK N0 (1048576) = -1 by exact leftK_no (by omega))
    clear hmk0
    go_enter Tryd.func9, Tryd.ntmps9
    have HB66 := Lib.hid ((below_alT w (.cells #[.string s0n, x0a, .int .i64 s0z] 36)))
    go_wp2_with fail
    generalize (w.alloc (.cells #[.string s0n, x0a, .int .i64 s0z] 36)) = wb at *
    refine (szMeltK s0n x0a N0 s0z (1048576) _ (szIn_kept HB66.out HSZ0.out) hs0 (by omega) (by omega)).mono ?_
    rintro e w_6 ⟨rfl, hb⟩
    rw [HL0.out]
    have S67 : wb.heap.size ≤ w_6.heap.size := (hb).size
    have HB68 := Lib.hid (below_of HB66.out hb HB66.out.size)
    clear hb 
    go_wp2
    go_ret
    exact ⟨rfl, HB68.out⟩

set_option maxRecDepth 100000 in
theorem contract (H : Type) (enc : TypeId × Value → H) (W : World) (base : Nat) (args : Array Value) (ds gs : List (DataW H)) (before : List MemPlace)
    (hval : ∀ (j : Nat) t v, Tryd.f9.params[j]? = some t → args[j]? = some v → Value.okWide Tryd.prog W .any base t v)
    (hW : DataW.Whole enc Tryd.prog Tryd.f9.params.toList Rows.fnExactMeltTextSpec.vars false W args.toList ds gs before) (hL : laidMetH Tryd.prog Rows.fnExactMeltTextRow.laid W) (hSh : W.ShapedOpen Tryd.prog) :
    Calls Tryd.prog 9 args W fun e W' => ∃ v, e = .returned v ∧ Rows.fnExactMeltTextSpec.post enc Tryd.prog Tryd.f9 false true false false W args v W' := by
  have hF := facts hL
  have hW' := hW
  obtain ⟨p, q, hA0, hV, rfl, hfz, hnd⟩ := hW
  have hA : DataW.TrodAll enc Tryd.prog W 0 (fun _ => true) true Tryd.f9.params.toList args.toList ds p := hA0
  rw [Tryd.params9] at hA hval
  obtain ⟨v0, vs0, d0, ds0, p0, q0, hargs, rfl, rfl, h0, r0⟩ := trodAll_cons hA
  obtain ⟨rfl, rfl, rfl⟩ := trodAll_nil r0
  obtain rfl : args = #[v0] := by cases args; simp_all
  obtain ⟨rfl, rfl⟩ := trodVars_none hV
  simp only [List.append_nil] at hW'
  have hlt0 : ∀ x ∈ p0, x.block < W.heap.size := fun x hx => hW'.lt x (by simp [hx])
  have kept0 := fun (W2 : World) (hb : Below W.heap.size W W2) => Below.trod laidOut (by kernel_rfl) (of_decide_eq_true (by kernel_rfl)) h0 hb hlt0
  have hI0 := meltx_arg (hval 0 36 v0 rfl rfl) h0 hlt0
  clear hA0
  refine (walk v0 W hI0 (Lib.hid hF)).mono fun e W' ⟨he, hg⟩ => ?_
  subst he
  refine ⟨_, rfl, post_at (pa := p0) (pv := []) hW' (by simp) hg (fun _ _ => (trodAll_cons_mk (shut_bool Tryd.underlying4 _) trodAll_mk0)) ?_ rfl⟩
  have hk := (trodAll_cons_mk (kept0 W' hg) trodAll_mk0)
  simp only [List.append_nil] at hk
  exact hk

noncomputable def laidWorld (os : Os) : World := World.doorLaid Tryd.prog 400 os
set_option maxRecDepth 100000 in
theorem laid_met (os : Os) : laidMetH Tryd.prog Rows.fnExactMeltTextRow.laid ((laidWorld os).forCall (fun _ _ => 0) ⟨#[], #[.agg #[.string ⟨#[]⟩, .slice none 0 0, .int .i64 0]], []⟩).memory :=
  laidMetH_of_parts3 (fuel := 8) (laidMet_of_run' 8 (by kernel_rfl) (by kernel_rfl)) (by kernel_rfl) (by kernel_rfl)
set_option maxRecDepth 100000 in
theorem reads (os : Os) {H : Type} (enc : TypeId × Value → H) : DataW.whole enc Tryd.prog ((laidWorld os).forCall (fun _ _ => 0) ⟨#[], #[.agg #[.string ⟨#[]⟩, .slice none 0 0, .int .i64 0]], []⟩).memory Tryd.f9.params.toList Rows.fnExactMeltTextSpec.vars false (#[.agg #[.string ⟨#[]⟩, .slice none 0 0, .int .i64 0]] : Array Value).toList 8
    = some ([.agg [.lit (.string []), .nil, .lit (.int .i64 0)]], [], []) := by kernel_rfl

set_option maxRecDepth 100000 in
theorem lifted (os : Os) (started : os.Started) (H : Type) (enc : TypeId × Value → H) (F : Stop.Interp) :
    ReturnsInHanded {} Tryd.checked os 9 .any ((OpenSpec.ofChange Rows.fnExactMeltTextSpec).preRow enc Tryd.prog Tryd.f9 Rows.fnExactMeltTextRow.domain false Rows.fnExactMeltTextRow.laid) (((OpenSpec.ofChange Rows.fnExactMeltTextSpec).at F).post enc Tryd.prog Tryd.f9 false true false false) := by
  refine returnsInHanded_of_row (C := Tryd.checked) (s := OpenSpec.ofChange Rows.fnExactMeltTextSpec) own started (by kernel_rfl) Tryd.func9
    (witness_row_atRef (enc := enc) (C := Tryd.checked) false (laidWorld os) #[.agg #[.string ⟨#[]⟩, .slice none 0 0, .int .i64 0]] rfl (by kernel_rfl) (by kernel_rfl) (by kernel_rfl)
      (OpenSpec.preRow_of_cond 8 (reads os enc) (by kernel_rfl) (fun k hk => by cases hk) (by kernel_rfl) (laid_met os))) ?_
  intro W base args ds gs before hval hW _ _ hr hL hSh _
  exact contract H enc W base args ds gs before hval hW hL hSh

theorem said : Rows.FnExactMeltTextSaid :=
  OpenClaim.holds_of_cond 9 Tryd.f9 rfl rfl rfl rfl rfl rfl rfl ⟨rfl, rfl, rfl, rfl, rfl⟩ rfl rfl rfl rfl rfl (by kernel_rfl) Tryd.func9 (by kernel_rfl)
    (of_decide_eq_true (by kernel_rfl)) (by unfold Func.isWrapper; first | (rw [if_pos (by decide +kernel)]; kernel_rfl) | (rw [if_neg (by decide +kernel)]; exact ⟨rfl, rfl⟩))
    (fun os started H enc _ F => by rw [OpenClaim.pre_eq_preRow]; exact lifted os started H enc F)

theorem plain (f : FuncId) (fn : Func) (hf : Tryd.pinned.checked.prog.funcNamed "loop.example/g00952/laws.FnExactMeltText" = some f) (hfn : Tryd.pinned.checked.prog.funcs[f]? = some fn) :
    true = Tryd.pinned.checked.prog.looks [] ∧ ∀ (j : Nat) t, fn.params[j]? = some t → Tryd.pinned.checked.prog.wantsStandIn t = false := by
  obtain rfl : f = 9 := Option.some.inj ((show Tryd.prog.funcNamed "loop.example/g00952/laws.FnExactMeltText" = some 9 by kernel_rfl).symm.trans hf) |>.symm
  obtain rfl : fn = Tryd.f9 := (Option.some.inj (Tryd.func9.symm.trans hfn)).symm
  refine ⟨by kernel_rfl, fun j t ht => ?_⟩
  rw [Tryd.params9] at ht
  obtain rfl : t = 36 := by simpa using Array.mem_of_getElem? ht
  exact (show Tryd.prog.wantsStandIn 36 = false by kernel_rfl)
end Go.Proofs.YtjicnfgpbbganaaDoor.fnExactMeltText

namespace Go.Proofs.YtjicnfgpbbganaaDoor
/-- The given card. -/
theorem fnExactMeltText_holds : Rows.FnExactMeltTextCardSaid :=
  Claim7.holds_tied_plain_at .later [] _ _ _ _ fnExactMeltText.said (fun _ h => by cases h) (by kernel_rfl) (fun _ h => by cases h) fnExactMeltText_row_tie rfl ⟨rfl, rfl⟩ (by kernel_rfl) rfl fnExactMeltText.plain (by kernel_rfl)
#print axioms fnExactMeltText_holds
end Go.Proofs.YtjicnfgpbbganaaDoor
