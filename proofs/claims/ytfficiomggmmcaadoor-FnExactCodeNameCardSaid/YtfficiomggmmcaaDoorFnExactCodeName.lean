/- The law FnExactCodeName answers true at every int64 and changes nothing: the program's name of a code and the reference model's are equal. Condition: the program's table of names holds what its text lays (the card ties it). -/
import Derived.Test.YtfficiomggmmcaaDoorCards
import Derived.Test.YtfficiomggmmcaaDoorTie
import Derived.Test.YtfficiomggmmcaaDoorCodeNameC
import Derived.Deep.DeepHandedRow
import Derived.Deep.DeepWitnessRowRef
import Derived.LaidMore
namespace Go.Proofs.YtfficiomggmmcaaDoor.fnExactCodeName
open Go.ChangeShapes Go.WideShapes Go.ChangeAt Go.RowKit
set_option linter.unusedVariables false

theorem own : ownKnob Tryd.prog.godebug = none := by kernel_rfl
theorem gTab : Tryd.prog.globalNamed "loop.example/g00952/impl.codeNames" = some 0 := by kernel_rfl
theorem gTabType : (Tryd.prog.globals[0]?).map (·.type) = some 59 := by kernel_rfl
theorem cellsArr : Tryd.prog.cellsOf 59 = 12 := by kernel_rfl
theorem cellsStr : Tryd.prog.cellsOf 9 = 1 := by kernel_rfl
theorem listed {H : Type} : (Rows.laid_loop_example_g00952_impl_codeNames : DataW H) = .agg (names.map fun s => .lit (.string s.data.toList)) := rfl

/-- What the row's list gives: the table's cells hold the twelve names. -/
theorem table {W : World} (h : laidMetH Tryd.prog Rows.fnExactCodeNameRow.laid W) : W.var? Tryd.prog "loop.example/g00952/impl.codeNames" = some (names.map Value.string).toArray := by
  rw [MakeChecks.laidMetH_plain _ _ _ (by kernel_rfl)] at h
  obtain ⟨ps, ⟨g, t, cs, fuel, p, q, hg, ht, hv, hd, _, _⟩, _⟩ := h
  obtain rfl := Option.some.inj (gTab.symm.trans hg)
  obtain rfl := Option.some.inj (gTabType.symm.trans ht)
  rw [listed] at hd
  have := cells_of_strs Tryd.underlying59 Tryd.underlying9 cellsStr cellsArr hd
  rw [hv, ← this]
theorem cell_of {W : World} (h : W.var? Tryd.prog "loop.example/g00952/impl.codeNames" = some (names.map Value.string).toArray) (j : Nat) (hj : j < 12) :
    W.cell? ⟨0, j, none⟩ = some (.string (names.getD j ByteArray.empty)) := by
  have hl : names.length = 12 := rfl
  have := World.var?_cell gTab h j
  rw [this, List.getD_eq_getElem?_getD, List.getElem?_eq_getElem (by omega)]
  simp [hl, hj]
theorem size_of {W : World} (h : W.var? Tryd.prog "loop.example/g00952/impl.codeNames" = some (names.map Value.string).toArray) : 0 < W.heap.size := by
  unfold World.var? at h
  rw [gTab] at h
  simp only [Option.bind_some] at h
  rcases Nat.lt_or_ge 0 W.heap.size with hlt | hge
  · exact hlt
  · rw [Array.getElem?_eq_none hge] at h
    cases h

theorem walk (a0 : Int) (w : World) (ht : Hid (w.var? Tryd.prog "loop.example/g00952/impl.codeNames" = some (names.map Value.string).toArray)) :
    Calls Tryd.prog 4 #[.int .i64 a0] w fun e w' => e = .returned (.bool true) ∧ Below w.heap.size w w' := by
  go_enter Tryd.func4, Tryd.ntmps4
  go_wp2_with fail
  refine (specCodeName_any a0 _).mono ?_
  rintro e w1 ⟨rfl, hb1⟩
  have ht1 := var?_below hb1 gTab (size_of ht.out) ht.out
  have HB1 := Lib.hid hb1
  have HT1 := Lib.hid ht1
  clear hb1 ht1
  go_wp2_with fail
  refine (implCodeName_any a0 _ (size_of HT1.out) (cell_of HT1.out)).mono ?_
  rintro e w2 ⟨rfl, hb2⟩
  have HB2 := Lib.hid (below_of HB1.out hb2 HB1.out.size)
  clear hb2
  generalize nameOf a0 = nm
  go_wp2
  go_ret
  exact ⟨rfl, HB2.out⟩

set_option maxRecDepth 100000 in
theorem contract (H : Type) (enc : TypeId × Value → H) (W : World) (base : Nat) (args : Array Value) (ds gs : List (DataW H)) (before : List MemPlace)
    (hval : ∀ (j : Nat) t v, Tryd.f4.params[j]? = some t → args[j]? = some v → Value.okWide Tryd.prog W .any base t v)
    (hW : DataW.Whole enc Tryd.prog Tryd.f4.params.toList Rows.fnExactCodeNameSpec.vars false W args.toList ds gs before) (hL : laidMetH Tryd.prog Rows.fnExactCodeNameRow.laid W) :
    Calls Tryd.prog 4 args W fun e W' => ∃ v, e = .returned v ∧ Rows.fnExactCodeNameSpec.post enc Tryd.prog Tryd.f4 false true false false W args v W' := by
  have hT := table hL
  have hW' := hW
  obtain ⟨p, q, hA0, hV, rfl, hfz, hnd⟩ := hW
  have hA : DataW.TrodAll enc Tryd.prog W 0 (fun _ => true) true Tryd.f4.params.toList args.toList ds p := hA0
  rw [Tryd.params4] at hA hval
  obtain ⟨v0, vs0, d0, ds0, p0, q0, hargs, rfl, rfl, h0, r0⟩ := trodAll_cons hA
  obtain ⟨rfl, rfl, rfl⟩ := trodAll_nil r0
  obtain rfl : args = #[v0] := by cases args; simp_all
  obtain ⟨g, t, cs, fuel, d, pv, rfl, hg, htp, hv, hd, rfl⟩ := trodVars_one hV
  obtain rfl := Option.some.inj (gTab.symm.trans hg)
  obtain rfl := Option.some.inj (gTabType.symm.trans htp)
  obtain ⟨a0, rfl, rfl, rfl, w0⟩ := open_int Tryd.underlying2 (hval 0 2 v0 rfl rfl) h0
  clear hA0
  simp only [List.append_nil] at hW'
  refine (walk a0 W (Lib.hid hT)).mono fun e W' ⟨he, hg'⟩ => ?_
  subst he
  exact ⟨_, rfl, post_kept (pa := []) (pv := MemPlace.row ⟨0, 0, none⟩ cs.size ++ pv) hW' rfl hg' (fun _ _ => trodAll_cons_mk (shut_bool Tryd.underlying4 _) trodAll_mk0) (fun _ _ => trodAll_cons_mk (shut_int Tryd.underlying2 w0) trodAll_mk0)
    (fun sp _ => trodVars_mk1 gTab gTabType (var?_below hg' gTab (size_of hT) hv) (by rw [← hd]; exact trod_strs_any Tryd.underlying59 Tryd.underlying9))⟩

noncomputable def laidWorld (os : Os) : World := World.doorLaid Tryd.prog 400 os
set_option maxRecDepth 100000 in
theorem laid_met (os : Os) : laidMetH Tryd.prog Rows.fnExactCodeNameRow.laid ((laidWorld os).forCall (fun _ _ => 0) ⟨#[], #[.int .i64 0], []⟩).memory :=
  laidMetH_of_parts3 (fuel := 8) (laidMet_of_run' 8 (by kernel_rfl) (by kernel_rfl)) (by kernel_rfl) (by kernel_rfl)
set_option maxRecDepth 100000 in
theorem reads (os : Os) {H : Type} (enc : TypeId × Value → H) : DataW.whole enc Tryd.prog ((laidWorld os).forCall (fun _ _ => 0) ⟨#[], #[.int .i64 0], []⟩).memory Tryd.f4.params.toList Rows.fnExactCodeNameSpec.vars false #[Value.int .i64 0].toList 8
    = some ([.lit (.int .i64 0)], [Rows.laid_loop_example_g00952_impl_codeNames], MemPlace.row ⟨0, 0, none⟩ 12) := by kernel_rfl

set_option maxRecDepth 100000 in
theorem lifted (os : Os) (started : os.Started) (H : Type) (enc : TypeId × Value → H) (F : Stop.Interp) :
    ReturnsInHanded {} Tryd.checked os 4 .any ((OpenSpec.ofChange Rows.fnExactCodeNameSpec).preRow enc Tryd.prog Tryd.f4 Rows.fnExactCodeNameRow.domain false Rows.fnExactCodeNameRow.laid) (((OpenSpec.ofChange Rows.fnExactCodeNameSpec).at F).post enc Tryd.prog Tryd.f4 false true false false) := by
  refine returnsInHanded_of_row (C := Tryd.checked) (s := OpenSpec.ofChange Rows.fnExactCodeNameSpec) own started (by kernel_rfl) Tryd.func4
    (witness_row_atRef (enc := enc) (C := Tryd.checked) false (laidWorld os) #[.int .i64 0] rfl (by kernel_rfl) (by kernel_rfl) (by kernel_rfl)
      (OpenSpec.preRow_of_cond 8 (reads os enc) (by kernel_rfl) (fun k hk => by cases hk) (by kernel_rfl) (laid_met os))) ?_
  intro W base args ds gs before hval hW _ _ _ hL _ _
  exact contract H enc W base args ds gs before hval hW hL

theorem said : Rows.FnExactCodeNameSaid :=
  OpenClaim.holds_of_cond 4 Tryd.f4 rfl rfl rfl rfl rfl rfl rfl ⟨rfl, rfl, rfl, rfl, rfl⟩ rfl rfl rfl rfl rfl (by kernel_rfl) Tryd.func4 (by kernel_rfl)
    (of_decide_eq_true (by kernel_rfl)) (by unfold Func.isWrapper; first | (rw [if_pos (by decide +kernel)]; kernel_rfl) | (rw [if_neg (by decide +kernel)]; exact ⟨rfl, rfl⟩))
    (fun os started H enc _ F => by rw [OpenClaim.pre_eq_preRow]; exact lifted os started H enc F)

theorem plain (f : FuncId) (fn : Func) (hf : Tryd.pinned.checked.prog.funcNamed "loop.example/g00952/laws.FnExactCodeName" = some f) (hfn : Tryd.pinned.checked.prog.funcs[f]? = some fn) :
    true = Tryd.pinned.checked.prog.looks [] ∧ ∀ (j : Nat) t, fn.params[j]? = some t → Tryd.pinned.checked.prog.wantsStandIn t = false := by
  obtain rfl : f = 4 := Option.some.inj ((show Tryd.prog.funcNamed "loop.example/g00952/laws.FnExactCodeName" = some 4 by kernel_rfl).symm.trans hf) |>.symm
  obtain rfl : fn = Tryd.f4 := (Option.some.inj (Tryd.func4.symm.trans hfn)).symm
  refine ⟨by kernel_rfl, fun j t ht => ?_⟩
  rw [Tryd.params4] at ht
  obtain rfl : t = 2 := by simpa using Array.mem_of_getElem? ht
  exact (show Tryd.prog.wantsStandIn 2 = false by kernel_rfl)
end Go.Proofs.YtfficiomggmmcaaDoor.fnExactCodeName

namespace Go.Proofs.YtfficiomggmmcaaDoor
/-- The given card. -/
theorem fnExactCodeName_holds : Rows.FnExactCodeNameCardSaid :=
  Claim7.holds_tied_plain_at .later [] _ _ _ _ fnExactCodeName.said (fun _ h => by cases h) (by kernel_rfl) (fun _ h => by cases h) fnExactCodeName_row_tie rfl ⟨rfl, rfl⟩ (by kernel_rfl) rfl fnExactCodeName.plain (by kernel_rfl)
#print axioms fnExactCodeName_holds
end Go.Proofs.YtfficiomggmmcaaDoor
