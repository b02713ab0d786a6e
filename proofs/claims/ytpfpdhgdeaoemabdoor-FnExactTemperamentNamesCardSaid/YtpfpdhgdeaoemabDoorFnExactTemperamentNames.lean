/- The law FnExactTemperamentNames answers true and changes nothing: the program's names of temperaments and the reference model's are equal, and each call returns memory of its own. Condition: the package-level variables that the row lists hold what the program's text lays (the card ties them). -/
import Derived.Test.YtpfpdhgdeaoemabDoorCards
import Derived.Test.YtpfpdhgdeaoemabDoorTie
import Derived.Test.YtpfpdhgdeaoemabDoorBase
import Derived.Test.YtpfpdhgdeaoemabDoorLaidOut
import Derived.Test.YtpfpdhgdeaoemabDoorTemNames
import Derived.Deep.DeepHandedRow
import Derived.Deep.DeepWitnessRowRef
import Derived.LaidMore
namespace Go.Proofs.YtpfpdhgdeaoemabDoor.fnExactTemperamentNames
open Go.ChangeShapes Go.WideShapes Go.ChangeAt Go.RowKit
open Go.ChangeMaps (open_string shut_string)
set_option linter.unusedVariables false

theorem own : ownKnob Tryd.prog.godebug = none := by kernel_rfl

theorem gTab : Tryd.prog.globalNamed "loop.example/g00952/impl.temperamentNames" = some 0 := gTem
theorem gTabType : (Tryd.prog.globals[0]?).map (·.type) = some 38 := gTemType
theorem facts {W : World} (h : laidMetH Tryd.prog Rows.fnExactTemperamentNamesRow.laid W) : TemOk W := by
  rw [MakeChecks.laidMetH_plain _ _ _ (by kernel_rfl)] at h
  exact tem_of h

set_option maxHeartbeats 1000000 in
theorem walk (w : World) (hF : Hid (TemOk w)) :
    Calls Tryd.prog 7 #[] w fun e w' => e = .returned (.bool true) ∧ Below w.heap.size w w' := by
  go_enter Tryd.func7, Tryd.ntmps7
  go_wp2_with fail
  refine (specTem_any _).mono ?_
  rintro e w1 ⟨g1, rfl, hg1, ho1, hb1⟩
  have HT1 := Lib.hid (tem_kept hb1 hF.out)
  have HO1 := Lib.hid ho1
  have HB1 := Lib.hid hb1
  have hsz1 := hb1.size
  clear hb1 ho1
  go_wp2_with fail
  refine (implTem_any _ HT1).mono ?_
  rintro e w2 ⟨g, rfl, hg, ho2, hb2⟩
  have HR2 := Lib.hid hb2
  have hsz2 := hb2.size
  have HO2 := Lib.hid ho2
  have HW2 := Lib.hid (row_below hb2 HO1.out)
  clear hb2 ho2
  go_wp2_with fail
  refine (eqStrs_some temNms g 0 4 g1 0 4 _ 4 (by omega) (strs_cells rfl HO2.out) (strs_cells rfl HW2.out)).mono ?_
  rintro e w3 ⟨rfl, hb3⟩
  have HR3 := Lib.hid (HR2.out.trans (hb3.mono hsz2))
  have hsz3 := HR3.out.size
  have HROW := Lib.hid (row_below hb3 HO2.out)
  clear hb3
  go_wp2_with fail
  refine (markS_some temNms 1 w1.heap.size g 4 4 _ (by omega) tem_len (by omega) hg HROW.out).mono ?_
  rintro e w4 ⟨rfl, hrow4, hb4⟩
  have HROW4 := Lib.hid hrow4
  have HR4 := Lib.hid (HR3.out.trans hb4)
  clear hrow4 hb4
  go_wp2_with fail
  refine (heldS_some 1 w1.heap.size g 4 4 _ (by omega) (by omega) HROW4.out).mono ?_
  rintro e w5 ⟨rfl, hb5⟩
  have HR5 := Lib.hid (HR4.out.trans (hb5.mono HR4.out.size))
  have HROW5 := Lib.hid (row_below hb5 HROW4.out)
  have HB5 := Lib.hid (below_of HB1.out HR5.out hsz1)
  have HT5 := Lib.hid (tem_kept HB5.out hF.out)
  have hsz5 := HR5.out.size
  clear hb5
  go_wp2_with fail
  refine (implTem_any _ HT5).mono ?_
  rintro e w6 ⟨h, rfl, hh, ho6, hb6⟩
  have HR6 := Lib.hid (HR5.out.trans (hb6.mono hsz5))
  have HROW6 := Lib.hid (row_below hb6 HROW5.out)
  have HH6 := Lib.hid ho6
  have HW6 := Lib.hid (row_below HR6.out HO1.out)
  have HB6 := Lib.hid (below_of HB5.out hb6 HB5.out.size)
  clear hb6 ho6
  go_wp2_with fail
  refine (eqStrs_some temNms h 0 4 g1 0 4 _ 4 (by omega) (strs_cells rfl HH6.out) (strs_cells rfl HW6.out)).mono ?_
  rintro e w7 ⟨rfl, hb7⟩
  have HROW7 := Lib.hid (row_below hb7 HROW6.out)
  have HB7 := Lib.hid (below_of HB6.out hb7 HB6.out.size)
  clear hb7
  go_wp2_with fail
  refine (heldS_some 1 w1.heap.size g 4 4 _ (by omega) (by omega) HROW7.out).mono ?_
  rintro e w8 ⟨rfl, hb8⟩
  have HB8 := Lib.hid (below_of HB7.out hb8 HB7.out.size)
  clear hb8
  go_wp2
  go_ret
  exact ⟨rfl, HB8.out⟩

set_option maxRecDepth 100000 in
theorem contract (H : Type) (enc : TypeId × Value → H) (W : World) (base : Nat) (args : Array Value) (ds gs : List (DataW H)) (before : List MemPlace)
    (hval : ∀ (j : Nat) t v, Tryd.f7.params[j]? = some t → args[j]? = some v → Value.okWide Tryd.prog W .any base t v)
    (hW : DataW.Whole enc Tryd.prog Tryd.f7.params.toList Rows.fnExactTemperamentNamesSpec.vars false W args.toList ds gs before) (hL : laidMetH Tryd.prog Rows.fnExactTemperamentNamesRow.laid W) (hSh : W.ShapedOpen Tryd.prog) :
    Calls Tryd.prog 7 args W fun e W' => ∃ v, e = .returned v ∧ Rows.fnExactTemperamentNamesSpec.post enc Tryd.prog Tryd.f7 false true false false W args v W' := by
  have hF := facts hL
  have hW' := hW
  obtain ⟨p, q, hA0, hV, rfl, hfz, hnd⟩ := hW
  have hA : DataW.TrodAll enc Tryd.prog W 0 (fun _ => true) true Tryd.f7.params.toList args.toList ds p := hA0
  rw [Tryd.params7] at hA hval
  obtain ⟨hargs, rfl, rfl⟩ := trodAll_nil hA
  obtain rfl : args = #[] := by cases args; simp_all
  obtain ⟨gv, tv, cs, fuelv, dv, pv, rfl, hgv, htv, hv, hdv, rfl⟩ := trodVars_one hV
  obtain rfl := Option.some.inj (gTab.symm.trans hgv)
  obtain rfl := Option.some.inj (gTabType.symm.trans htv)
  simp only at hW'
  clear hA0
  refine (walk W (Lib.hid hF)).mono fun e W' ⟨he, hg⟩ => ?_
  subst he
  exact ⟨_, rfl, post_at (pa := []) (pv := MemPlace.row ⟨0, 0, none⟩ cs.size ++ pv) hW' rfl hg (fun _ _ => (trodAll_cons_mk (shut_bool Tryd.underlying4 _) trodAll_mk0)) trodAll_mk0 (trodVars_mk1 gTab gTabType (var?_below hg gTab (var_size gTab hv) hv) (by rw [← hdv]; exact trod_strs_any Tryd.underlying38 Tryd.underlying9))⟩

noncomputable def laidWorld (os : Os) : World := World.doorLaid Tryd.prog 400 os
set_option maxRecDepth 100000 in
theorem laid_met (os : Os) : laidMetH Tryd.prog Rows.fnExactTemperamentNamesRow.laid ((laidWorld os).forCall (fun _ _ => 0) ⟨#[], #[], []⟩).memory :=
  laidMetH_of_parts3 (fuel := 8) (laidMet_of_run' 8 (by kernel_rfl) (by kernel_rfl)) (by kernel_rfl) (by kernel_rfl)
set_option maxRecDepth 100000 in
theorem reads (os : Os) {H : Type} (enc : TypeId × Value → H) : DataW.whole enc Tryd.prog ((laidWorld os).forCall (fun _ _ => 0) ⟨#[], #[], []⟩).memory Tryd.f7.params.toList Rows.fnExactTemperamentNamesSpec.vars false (#[] : Array Value).toList 8
    = some ([], [Rows.laid_loop_example_g00952_impl_temperamentNames], MemPlace.row ⟨0, 0, none⟩ 4) := by kernel_rfl

set_option maxRecDepth 100000 in
theorem lifted (os : Os) (started : os.Started) (H : Type) (enc : TypeId × Value → H) (F : Stop.Interp) :
    ReturnsInHanded {} Tryd.checked os 7 .any ((OpenSpec.ofChange Rows.fnExactTemperamentNamesSpec).preRow enc Tryd.prog Tryd.f7 Rows.fnExactTemperamentNamesRow.domain false Rows.fnExactTemperamentNamesRow.laid) (((OpenSpec.ofChange Rows.fnExactTemperamentNamesSpec).at F).post enc Tryd.prog Tryd.f7 false true false false) := by
  refine returnsInHanded_of_row (C := Tryd.checked) (s := OpenSpec.ofChange Rows.fnExactTemperamentNamesSpec) own started (by kernel_rfl) Tryd.func7
    (witness_row_atRef (enc := enc) (C := Tryd.checked) false (laidWorld os) #[] rfl (by kernel_rfl) (by kernel_rfl) (by kernel_rfl)
      (OpenSpec.preRow_of_cond 8 (reads os enc) (by kernel_rfl) (fun k hk => by cases hk) (by kernel_rfl) (laid_met os))) ?_
  intro W base args ds gs before hval hW _ _ hr hL hSh _
  exact contract H enc W base args ds gs before hval hW hL hSh

theorem said : Rows.FnExactTemperamentNamesSaid :=
  OpenClaim.holds_of_cond 7 Tryd.f7 rfl rfl rfl rfl rfl rfl rfl ⟨rfl, rfl, rfl, rfl, rfl⟩ rfl rfl rfl rfl rfl (by kernel_rfl) Tryd.func7 (by kernel_rfl)
    (of_decide_eq_true (by kernel_rfl)) (by unfold Func.isWrapper; first | (rw [if_pos (by decide +kernel)]; kernel_rfl) | (rw [if_neg (by decide +kernel)]; exact ⟨rfl, rfl⟩))
    (fun os started H enc _ F => by rw [OpenClaim.pre_eq_preRow]; exact lifted os started H enc F)

theorem plain (f : FuncId) (fn : Func) (hf : Tryd.pinned.checked.prog.funcNamed "loop.example/g00952/laws.FnExactTemperamentNames" = some f) (hfn : Tryd.pinned.checked.prog.funcs[f]? = some fn) :
    true = Tryd.pinned.checked.prog.looks [] ∧ ∀ (j : Nat) t, fn.params[j]? = some t → Tryd.pinned.checked.prog.wantsStandIn t = false := by
  obtain rfl : f = 7 := Option.some.inj ((show Tryd.prog.funcNamed "loop.example/g00952/laws.FnExactTemperamentNames" = some 7 by kernel_rfl).symm.trans hf) |>.symm
  obtain rfl : fn = Tryd.f7 := (Option.some.inj (Tryd.func7.symm.trans hfn)).symm
  refine ⟨by kernel_rfl, fun j t ht => ?_⟩
  rw [Tryd.params7] at ht
  simp at ht
end Go.Proofs.YtpfpdhgdeaoemabDoor.fnExactTemperamentNames

namespace Go.Proofs.YtpfpdhgdeaoemabDoor
/-- The given card. -/
theorem fnExactTemperamentNames_holds : Rows.FnExactTemperamentNamesCardSaid :=
  Claim7.holds_tied_plain_at .later [] _ _ _ _ fnExactTemperamentNames.said (fun _ h => by cases h) (by kernel_rfl) (fun _ h => by cases h) fnExactTemperamentNames_row_tie rfl ⟨rfl, rfl⟩ (by kernel_rfl) rfl fnExactTemperamentNames.plain (by kernel_rfl)
#print axioms fnExactTemperamentNames_holds
end Go.Proofs.YtpfpdhgdeaoemabDoor
