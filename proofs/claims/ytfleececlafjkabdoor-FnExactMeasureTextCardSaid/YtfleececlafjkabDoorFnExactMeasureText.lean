/- At every argument MeasureText answers as its model, and its arguments are as they were. Condition: the package-level variables that the row lists hold what the program's text lays (the card ties them). -/
import Derived.Test.YtfleececlafjkabDoorCards
import Derived.Test.YtfleececlafjkabDoorTie
import Derived.Test.YtfleececlafjkabDoorBase
import Derived.Test.YtfleececlafjkabDoorLaidOut
import Derived.Test.YtfleececlafjkabDoorMeaI
import Derived.Deep.DeepHandedRow
import Derived.Deep.DeepWitnessRowRef
import Derived.LaidMore
namespace Go.Proofs.YtfleececlafjkabDoor.fnExactMeasureText
open Go.ChangeShapes Go.WideShapes Go.ChangeAt Go.RowKit
open Go.ChangeMaps (open_string shut_string)
set_option linter.unusedVariables false

theorem own : ownKnob Tryd.prog.godebug = none := by kernel_rfl

theorem gTab : Tryd.prog.globalNamed "loop.example/g00952/impl.partialNames" = some 0 := gPart
theorem gTabType : (Tryd.prog.globals[0]?).map (·.type) = some 68 := gPartType
theorem facts {W : World} (h : laidMetH Tryd.prog Rows.fnExactMeasureTextRow.laid W) : PowOk W ∧ PartOk W := by
  rw [MakeChecks.laidMetH_plain _ _ _ (by kernel_rfl)] at h
  exact ⟨pow_of (laid_tail (laid_tail h)), part_of (laid_tail (laid_tail (laid_tail h)))⟩
set_option maxRecDepth 100000 in
set_option maxHeartbeats 4000000 in
theorem walk (s0 : ByteArray) (k0 f0 : Int) (w0 : s0.size ≤ 9223372036854775807 ∧ (Lit.int .i64 k0).wf = true ∧ (Lit.int .i64 f0).wf = true) (w : World) (hF : Hid (PowOk w ∧ PartOk w)) :
    Calls Tryd.prog 3 #[.agg #[.string s0, .int .i64 k0, .int .i64 f0]] w fun e w' => e = .returned (.bool true) ∧ Below w.heap.size w w' := by
  obtain ⟨hs, -, -⟩ := w0
  have hs2 : s0.size ≤ maxLen := by unfold maxLen; omega
  have HM := Lib.hid (mea_new w s0 k0 f0 23)
  have hl : w.heap.size < (w.alloc (.cells #[.string s0, .int .i64 k0, .int .i64 f0] 23)).heap.size := by simp
  have HB := Lib.hid ((Below.refl w.heap.size w).alloc (Nat.le_refl _) (.cells #[.string s0, .int .i64 k0, .int .i64 f0] 23))
  by_cases hbig : (s0.size : Int) ≤ 1048576
  · have HL := Lib.hid (show (if (1048576 : Int) - (s0.size : Int) < 0 then (-1 : Int) else 1048576 - s0.size) = 1048576 - s0.size by rw [if_neg (by omega)])
    go_enter Tryd.func3, Tryd.ntmps3
    go_wp2_with fail
    generalize (w.alloc (.cells #[.string s0, .int .i64 k0, .int .i64 f0] 23)) = wA at *
    refine (szMeasure_any s0 k0 f0 1048576 _ hs (by omega) (by omega)).mono ?_
    rintro e w1 ⟨rfl, hb⟩
    rw [HL.out]
    obtain ⟨a0, a1, a2⟩ := mea_kept hb hl HM.out
    have hl1 := Nat.lt_of_lt_of_le hl hb.size
    have HB1 := Lib.hid (below_of HB.out hb HB.out.size)
    clear hb
    go_wp2_with fail
    refine (toMeasure_any s0 k0 f0 _).mono ?_
    rintro e w2 ⟨rfl, hb⟩
    obtain ⟨b0, b1, b2⟩ := mea_kept hb hl1 ⟨a0, a1, a2⟩
    have hl2 := Nat.lt_of_lt_of_le hl1 hb.size
    have HB2 := Lib.hid (below_of HB1.out hb HB1.out.size)
    clear hb a0 a1 a2
    go_wp2_with fail
    refine (specMT_any s0 k0 f0 _ hs2).mono ?_
    rintro e w3 ⟨rfl, hb⟩
    obtain ⟨c0, c1, c2⟩ := mea_kept hb hl2 ⟨b0, b1, b2⟩
    have hl3 := Nat.lt_of_lt_of_le hl2 hb.size
    have HB3 := Lib.hid (below_of HB2.out hb HB2.out.size)
    clear hb b0 b1 b2
    obtain ⟨tx, htx⟩ : ∃ tx, meaV s0 k0 f0 = tx := ⟨_, rfl⟩
    have HTX := Lib.hid htx
    rw [htx]
    clear htx
    have hne : (tx.toList != tx.toList) = false := by simp
    go_wp2_with fail
    refine (toMeasure_any s0 k0 f0 _).mono ?_
    rintro e w4 ⟨rfl, hb⟩
    have HB4 := Lib.hid (below_of HB3.out hb HB3.out.size)
    clear hb
    go_wp2_with fail
    refine (implMT_any s0 k0 f0 _ hs2 (Lib.hid ⟨pow_kept HB4.out hF.out.1, part_kept HB4.out hF.out.2⟩)).mono ?_
    rw [HTX.out]
    rintro e w5 ⟨rfl, hb⟩
    have HB5 := Lib.hid (below_of HB4.out hb HB4.out.size)
    clear hb
    go_wp2
    go_ret
    exact ⟨rfl, HB5.out⟩
  · have HL := Lib.hid (show (if (1048576 : Int) - (s0.size : Int) < 0 then (-1 : Int) else 1048576 - s0.size) = -1 by rw [if_pos (by omega)])
    go_enter Tryd.func3, Tryd.ntmps3
    go_wp2_with fail
    generalize (w.alloc (.cells #[.string s0, .int .i64 k0, .int .i64 f0] 23)) = wA at *
    refine (szMeasure_any s0 k0 f0 1048576 _ hs (by omega) (by omega)).mono ?_
    rintro e w1 ⟨rfl, hb⟩
    rw [HL.out]
    have HB1 := Lib.hid (below_of HB.out hb HB.out.size)
    clear hb
    go_wp2
    go_ret
    exact ⟨rfl, HB1.out⟩

set_option maxRecDepth 100000 in
theorem contract (H : Type) (enc : TypeId × Value → H) (W : World) (base : Nat) (args : Array Value) (ds gs : List (DataW H)) (before : List MemPlace)
    (hval : ∀ (j : Nat) t v, Tryd.f3.params[j]? = some t → args[j]? = some v → Value.okWide Tryd.prog W .any base t v)
    (hW : DataW.Whole enc Tryd.prog Tryd.f3.params.toList Rows.fnExactMeasureTextSpec.vars false W args.toList ds gs before) (hL : laidMetH Tryd.prog Rows.fnExactMeasureTextRow.laid W) (hSh : W.ShapedOpen Tryd.prog) :
    Calls Tryd.prog 3 args W fun e W' => ∃ v, e = .returned v ∧ Rows.fnExactMeasureTextSpec.post enc Tryd.prog Tryd.f3 false true false false W args v W' := by
  have hF := facts hL
  have hW' := hW
  obtain ⟨p, q, hA0, hV, rfl, hfz, hnd⟩ := hW
  have hA : DataW.TrodAll enc Tryd.prog W 0 (fun _ => true) true Tryd.f3.params.toList args.toList ds p := hA0
  rw [Tryd.params3] at hA hval
  obtain ⟨v0, vs0, d0, ds0, p0, q0, hargs, rfl, rfl, h0, r0⟩ := trodAll_cons hA
  obtain ⟨rfl, rfl, rfl⟩ := trodAll_nil r0
  obtain rfl : args = #[v0] := by cases args; simp_all
  obtain ⟨gv, tv, cs, fuelv, dv, pv, rfl, hgv, htv, hv, hdv, rfl⟩ := trodVars_one hV
  obtain rfl := Option.some.inj (gTab.symm.trans hgv)
  obtain rfl := Option.some.inj (gTabType.symm.trans htv)
  simp only [List.append_nil] at hW'
  have hlt0 : ∀ x ∈ p0, x.block < W.heap.size := fun x hx => hW'.lt x (by simp [hx])
  have kept0 := fun (W2 : World) (hb : Below W.heap.size W W2) => Below.trod laidOut (by kernel_rfl) (of_decide_eq_true (by kernel_rfl)) h0 hb hlt0
  obtain ⟨s0, k0, f0, rfl, w0⟩ := measure_arg (hval 0 23 v0 rfl rfl) h0
  clear hA0
  refine (walk s0 k0 f0 w0 W (Lib.hid hF)).mono fun e W' ⟨he, hg⟩ => ?_
  subst he
  refine ⟨_, rfl, post_at (pa := p0) (pv := MemPlace.row ⟨0, 0, none⟩ cs.size ++ pv) hW' (by simp) hg (fun _ _ => (trodAll_cons_mk (shut_bool Tryd.underlying4 _) trodAll_mk0)) ?_ (trodVars_mk1 gTab gTabType (var?_below hg gTab (var_size gTab hv) hv) (by rw [← hdv]; exact trod_strs_any Tryd.underlying68 Tryd.underlying9))⟩
  have hk := (trodAll_cons_mk (kept0 W' hg) trodAll_mk0)
  simp only [List.append_nil] at hk
  exact hk

noncomputable def laidWorld (os : Os) : World := World.doorLaid Tryd.prog 400 os
set_option maxRecDepth 100000 in
theorem laid_met (os : Os) : laidMetH Tryd.prog Rows.fnExactMeasureTextRow.laid ((laidWorld os).forCall (fun _ _ => 0) ⟨#[], #[.agg #[.string ⟨#[]⟩, .int .i64 0, .int .i64 0]], []⟩).memory :=
  laidMetH_of_parts3 (fuel := 8) (laidMet_of_run' 8 (by kernel_rfl) (by kernel_rfl)) (by kernel_rfl) (by kernel_rfl)
set_option maxRecDepth 100000 in
theorem reads (os : Os) {H : Type} (enc : TypeId × Value → H) : DataW.whole enc Tryd.prog ((laidWorld os).forCall (fun _ _ => 0) ⟨#[], #[.agg #[.string ⟨#[]⟩, .int .i64 0, .int .i64 0]], []⟩).memory Tryd.f3.params.toList Rows.fnExactMeasureTextSpec.vars false (#[.agg #[.string ⟨#[]⟩, .int .i64 0, .int .i64 0]] : Array Value).toList 8
    = some ([.agg [.lit (.string []), .lit (.int .i64 0), .lit (.int .i64 0)]], [Rows.laid_loop_example_g00952_impl_partialNames], MemPlace.row ⟨0, 0, none⟩ 5) := by kernel_rfl

set_option maxRecDepth 100000 in
theorem lifted (os : Os) (started : os.Started) (H : Type) (enc : TypeId × Value → H) (F : Stop.Interp) :
    ReturnsInHanded {} Tryd.checked os 3 .any ((OpenSpec.ofChange Rows.fnExactMeasureTextSpec).preRow enc Tryd.prog Tryd.f3 Rows.fnExactMeasureTextRow.domain false Rows.fnExactMeasureTextRow.laid) (((OpenSpec.ofChange Rows.fnExactMeasureTextSpec).at F).post enc Tryd.prog Tryd.f3 false true false false) := by
  refine returnsInHanded_of_row (C := Tryd.checked) (s := OpenSpec.ofChange Rows.fnExactMeasureTextSpec) own started (by kernel_rfl) Tryd.func3
    (witness_row_atRef (enc := enc) (C := Tryd.checked) false (laidWorld os) #[.agg #[.string ⟨#[]⟩, .int .i64 0, .int .i64 0]] rfl (by kernel_rfl) (by kernel_rfl) (by kernel_rfl)
      (OpenSpec.preRow_of_cond 8 (reads os enc) (by kernel_rfl) (fun k hk => by cases hk) (by kernel_rfl) (laid_met os))) ?_
  intro W base args ds gs before hval hW _ _ hr hL hSh _
  exact contract H enc W base args ds gs before hval hW hL hSh

theorem said : Rows.FnExactMeasureTextSaid :=
  OpenClaim.holds_of_cond 3 Tryd.f3 rfl rfl rfl rfl rfl rfl rfl ⟨rfl, rfl, rfl, rfl, rfl⟩ rfl rfl rfl rfl rfl (by kernel_rfl) Tryd.func3 (by kernel_rfl)
    (of_decide_eq_true (by kernel_rfl)) (by unfold Func.isWrapper; first | (rw [if_pos (by decide +kernel)]; kernel_rfl) | (rw [if_neg (by decide +kernel)]; exact ⟨rfl, rfl⟩))
    (fun os started H enc _ F => by rw [OpenClaim.pre_eq_preRow]; exact lifted os started H enc F)

theorem plain (f : FuncId) (fn : Func) (hf : Tryd.pinned.checked.prog.funcNamed "loop.example/g00952/laws.FnExactMeasureText" = some f) (hfn : Tryd.pinned.checked.prog.funcs[f]? = some fn) :
    true = Tryd.pinned.checked.prog.looks [] ∧ ∀ (j : Nat) t, fn.params[j]? = some t → Tryd.pinned.checked.prog.wantsStandIn t = false := by
  obtain rfl : f = 3 := Option.some.inj ((show Tryd.prog.funcNamed "loop.example/g00952/laws.FnExactMeasureText" = some 3 by kernel_rfl).symm.trans hf) |>.symm
  obtain rfl : fn = Tryd.f3 := (Option.some.inj (Tryd.func3.symm.trans hfn)).symm
  refine ⟨by kernel_rfl, fun j t ht => ?_⟩
  rw [Tryd.params3] at ht
  obtain rfl : t = 23 := by simpa using Array.mem_of_getElem? ht
  exact (show Tryd.prog.wantsStandIn 23 = false by kernel_rfl)
end Go.Proofs.YtfleececlafjkabDoor.fnExactMeasureText

namespace Go.Proofs.YtfleececlafjkabDoor
/-- The given card. -/
theorem fnExactMeasureText_holds : Rows.FnExactMeasureTextCardSaid :=
  Claim7.holds_tied_plain_at .later [] _ _ _ _ fnExactMeasureText.said (fun _ h => by cases h) (by kernel_rfl) (fun _ h => by cases h) fnExactMeasureText_row_tie rfl ⟨rfl, rfl⟩ (by kernel_rfl) rfl fnExactMeasureText.plain (by kernel_rfl)
#print axioms fnExactMeasureText_holds
end Go.Proofs.YtfleececlafjkabDoor
