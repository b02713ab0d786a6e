/- At every argument WaveCosine answers as its model, and its arguments are as they were. Condition: the package-level variables that the row lists hold what the program's text lays (the card ties them). -/
import Derived.Test.YtfleececlafjkaaDoorCards
import Derived.Test.YtfleececlafjkaaDoorTie
import Derived.Test.YtfleececlafjkaaDoorBase
import Derived.Test.YtfleececlafjkaaDoorLaidOut
import Derived.Test.YtfleececlafjkaaDoorSineT
import Derived.Deep.DeepHandedRow
import Derived.Deep.DeepWitnessRowRef
import Derived.LaidMore
namespace Go.Proofs.YtfleececlafjkaaDoor.fnExactWaveCosine
open Go.ChangeShapes Go.WideShapes Go.ChangeAt Go.RowKit
open Go.ChangeMaps (open_string shut_string)
set_option linter.unusedVariables false

theorem own : ownKnob Tryd.prog.godebug = none := by kernel_rfl

theorem gTab : Tryd.prog.globalNamed "loop.example/g00952/impl.quarterSines" = some 0 := gSin
theorem gTabType : (Tryd.prog.globals[0]?).map (·.type) = some 54 := gSinType
theorem facts {W : World} (h : laidMetH Tryd.prog Rows.fnExactWaveCosineRow.laid W) : SinOk W := by
  rw [MakeChecks.laidMetH_plain _ _ _ (by kernel_rfl)] at h
  exact sin_of h
set_option maxRecDepth 100000 in
set_option maxHeartbeats 8000000 in
theorem walk (a0 : Int) (w0 : (Lit.int .i64 a0).wf = true) (w : World) (hF : Hid (SinOk w)) :
    Calls Tryd.prog 3 #[.int .i64 a0] w fun e w' => e = .returned (.bool true) ∧ Below w.heap.size w w' := by
  have bd0 := wf_bd w0
  clear w0
  obtain ⟨r0, hsp, him⟩ : ∃ (r0 : Int), (∀ w, SinOk w → Calls Tryd.prog 6 #[.int .i64 a0] w (fun e w' => e = .returned (.int .i64 r0) ∧ Below w.heap.size w w')) ∧ (∀ w, SinOk w → Calls Tryd.prog 7 #[.int .i64 a0] w (fun e w' => e = .returned (.int .i64 r0) ∧ Below w.heap.size w w')) :=
    ⟨cosV a0, fun w _ => specWC_any a0 w, fun w h => implWC_any a0 w (Lib.hid h)⟩
  have hrr0 : (r0 != r0) = false := by simp
  have HSP := Lib.hid hsp
  have HIM := Lib.hid him
  clear hsp him
  go_enter Tryd.func3, Tryd.ntmps3
  go_wp2_with fail
  refine (HSP.out _ (sin_kept (Below.refl _ _) hF.out)).mono ?_
  rintro e w_1 ⟨rfl, hb⟩
  have S1 : w.heap.size ≤ w_1.heap.size := (hb).size
  have HB2 := Lib.hid (hb)
  clear hb 
  go_wp2_with fail
  refine (HIM.out _ (sin_kept HB2.out hF.out)).mono ?_
  rintro e w_2 ⟨rfl, hb⟩
  have S3 : w_1.heap.size ≤ w_2.heap.size := (hb).size
  have HB4 := Lib.hid (below_of HB2.out hb HB2.out.size)
  clear hb 
  go_wp2
  go_ret
  exact ⟨rfl, HB4.out⟩

set_option maxRecDepth 100000 in
theorem contract (H : Type) (enc : TypeId × Value → H) (W : World) (base : Nat) (args : Array Value) (ds gs : List (DataW H)) (before : List MemPlace)
    (hval : ∀ (j : Nat) t v, Tryd.f3.params[j]? = some t → args[j]? = some v → Value.okWide Tryd.prog W .any base t v)
    (hW : DataW.Whole enc Tryd.prog Tryd.f3.params.toList Rows.fnExactWaveCosineSpec.vars false W args.toList ds gs before) (hL : laidMetH Tryd.prog Rows.fnExactWaveCosineRow.laid W) (hSh : W.ShapedOpen Tryd.prog) :
    Calls Tryd.prog 3 args W fun e W' => ∃ v, e = .returned v ∧ Rows.fnExactWaveCosineSpec.post enc Tryd.prog Tryd.f3 false true false false W args v W' := by
  have hF := facts hL
  have hW' := hW
  obtain ⟨p, q, hA0, hV, rfl, hfz, hnd⟩ := hW
  have hA : DataW.TrodAll enc Tryd.prog W 0 (fun _ => true) true Tryd.f3.params.toList args.toList ds p := hA0
  rw [Tryd.params3] at hA hval
  obtain ⟨v0, vs0, d0, ds0, p0, q0, hargs, rfl, rfl, h0, r0⟩ := trodAll_cons hA
  obtain ⟨rfl, rfl, rfl⟩ := trodAll_nil r0
  obtain rfl : args = #[v0] := by cases args; simp_all
  obtain ⟨gv, tv, cs, fuelv, dv, pv, rfl, hgv, htv, hv, hdv, rfl⟩ := trodVars_one hV
  obtain rfl := Option.some.inj (gTab.symm.trans hgv)
  obtain rfl := Option.some.inj (gTabType.symm.trans htv)
  simp only [List.append_nil] at hW'
  have hlt0 : ∀ x ∈ p0, x.block < W.heap.size := fun x hx => hW'.lt x (by simp [hx])
  have kept0 := fun (W2 : World) (hb : Below W.heap.size W W2) => Below.trod laidOut (by kernel_rfl) (of_decide_eq_true (by kernel_rfl)) h0 hb hlt0
  obtain ⟨a0, rfl, -, -, w0⟩ := open_int Tryd.underlying2 (hval 0 2 v0 rfl rfl) h0
  clear hA0
  refine (walk a0 w0 W (Lib.hid hF)).mono fun e W' ⟨he, hg⟩ => ?_
  subst he
  refine ⟨_, rfl, post_at (pa := p0) (pv := MemPlace.row ⟨0, 0, none⟩ cs.size ++ pv) hW' (by simp) hg (fun _ _ => (trodAll_cons_mk (shut_bool Tryd.underlying4 _) trodAll_mk0)) ?_ (trodVars_mk1 gTab gTabType (var?_below hg gTab (var_size gTab hv) hv) (by rw [← hdv]; exact trod_ints_any Tryd.underlying54 Tryd.underlying2))⟩
  have hk := (trodAll_cons_mk (kept0 W' hg) trodAll_mk0)
  simp only [List.append_nil] at hk
  exact hk

noncomputable def laidWorld (os : Os) : World := World.doorLaid Tryd.prog 400 os
set_option maxRecDepth 100000 in
theorem laid_met (os : Os) : laidMetH Tryd.prog Rows.fnExactWaveCosineRow.laid ((laidWorld os).forCall (fun _ _ => 0) ⟨#[], #[.int .i64 0], []⟩).memory :=
  laidMetH_of_parts3 (fuel := 8) (laidMet_of_run' 8 (by kernel_rfl) (by kernel_rfl)) (by kernel_rfl) (by kernel_rfl)
set_option maxRecDepth 100000 in
theorem reads (os : Os) {H : Type} (enc : TypeId × Value → H) : DataW.whole enc Tryd.prog ((laidWorld os).forCall (fun _ _ => 0) ⟨#[], #[.int .i64 0], []⟩).memory Tryd.f3.params.toList Rows.fnExactWaveCosineSpec.vars false (#[.int .i64 0] : Array Value).toList 8
    = some ([.lit (.int .i64 0)], [Rows.laid_loop_example_g00952_impl_quarterSines], MemPlace.row ⟨0, 0, none⟩ 91) := by kernel_rfl

set_option maxRecDepth 100000 in
theorem lifted (os : Os) (started : os.Started) (H : Type) (enc : TypeId × Value → H) (F : Stop.Interp) :
    ReturnsInHanded {} Tryd.checked os 3 .any ((OpenSpec.ofChange Rows.fnExactWaveCosineSpec).preRow enc Tryd.prog Tryd.f3 Rows.fnExactWaveCosineRow.domain false Rows.fnExactWaveCosineRow.laid) (((OpenSpec.ofChange Rows.fnExactWaveCosineSpec).at F).post enc Tryd.prog Tryd.f3 false true false false) := by
  refine returnsInHanded_of_row (C := Tryd.checked) (s := OpenSpec.ofChange Rows.fnExactWaveCosineSpec) own started (by kernel_rfl) Tryd.func3
    (witness_row_atRef (enc := enc) (C := Tryd.checked) false (laidWorld os) #[.int .i64 0] rfl (by kernel_rfl) (by kernel_rfl) (by kernel_rfl)
      (OpenSpec.preRow_of_cond 8 (reads os enc) (by kernel_rfl) (fun k hk => by cases hk) (by kernel_rfl) (laid_met os))) ?_
  intro W base args ds gs before hval hW _ _ hr hL hSh _
  exact contract H enc W base args ds gs before hval hW hL hSh

theorem said : Rows.FnExactWaveCosineSaid :=
  OpenClaim.holds_of_cond 3 Tryd.f3 rfl rfl rfl rfl rfl rfl rfl ⟨rfl, rfl, rfl, rfl, rfl⟩ rfl rfl rfl rfl rfl (by kernel_rfl) Tryd.func3 (by kernel_rfl)
    (of_decide_eq_true (by kernel_rfl)) (by unfold Func.isWrapper; first | (rw [if_pos (by decide +kernel)]; kernel_rfl) | (rw [if_neg (by decide +kernel)]; exact ⟨rfl, rfl⟩))
    (fun os started H enc _ F => by rw [OpenClaim.pre_eq_preRow]; exact lifted os started H enc F)

theorem plain (f : FuncId) (fn : Func) (hf : Tryd.pinned.checked.prog.funcNamed "loop.example/g00952/laws.FnExactWaveCosine" = some f) (hfn : Tryd.pinned.checked.prog.funcs[f]? = some fn) :
    false = Tryd.pinned.checked.prog.looks [] ∧ ∀ (j : Nat) t, fn.params[j]? = some t → Tryd.pinned.checked.prog.wantsStandIn t = false := by
  obtain rfl : f = 3 := Option.some.inj ((show Tryd.prog.funcNamed "loop.example/g00952/laws.FnExactWaveCosine" = some 3 by kernel_rfl).symm.trans hf) |>.symm
  obtain rfl : fn = Tryd.f3 := (Option.some.inj (Tryd.func3.symm.trans hfn)).symm
  refine ⟨by kernel_rfl, fun j t ht => ?_⟩
  rw [Tryd.params3] at ht
  obtain rfl : t = 2 := by simpa using Array.mem_of_getElem? ht
  exact (show Tryd.prog.wantsStandIn 2 = false by kernel_rfl)
end Go.Proofs.YtfleececlafjkaaDoor.fnExactWaveCosine

namespace Go.Proofs.YtfleececlafjkaaDoor
/-- The given card. -/
theorem fnExactWaveCosine_holds : Rows.FnExactWaveCosineCardSaid :=
  Claim7.holds_tied_plain_at .later [] _ _ _ _ fnExactWaveCosine.said (fun _ h => by cases h) (by kernel_rfl) (fun _ h => by cases h) fnExactWaveCosine_row_tie rfl ⟨rfl, rfl⟩ (by kernel_rfl) rfl fnExactWaveCosine.plain (by kernel_rfl)
#print axioms fnExactWaveCosine_holds
end Go.Proofs.YtfleececlafjkaaDoor
