/- The law FnExactReadList answers true at every string and changes nothing: the program's reading of a list and the reference model's are equal, and the list handed back is shared with nothing. Condition: the package-level variables that the row lists hold what the program's text lays (the card ties them). -/
import Derived.Test.YtndmakimkghihabDoorCards
import Derived.Test.YtndmakimkghihabDoorTie
import Derived.Test.YtndmakimkghihabDoorBase
import Derived.Test.YtndmakimkghihabDoorReadSpec
import Derived.Test.YtndmakimkghihabDoorReadImpl
import Derived.Test.YtndmakimkghihabDoorMarks
import Derived.Deep.DeepHandedRow
import Derived.Deep.DeepWitnessRowRef
import Derived.LaidMore
import Derived.Lay
namespace Go.Proofs.YtndmakimkghihabDoor.fnExactReadList
open Go.ChangeShapes Go.WideShapes Go.ChangeAt Go.RowKit
open Go.ChangeMaps (open_string shut_string)
set_option linter.unusedVariables false

theorem own : ownKnob Tryd.prog.godebug = none := by kernel_rfl

theorem facts {W : World} (h : laidMetH Tryd.prog Rows.fnExactReadListRow.laid W) : ReadOk W := by
  rw [MakeChecks.laidMetH_plain _ _ _ (by kernel_rfl)] at h
  have h2 := laid_tail (laid_tail h)
  have h3 := laid_tail (laid_tail h2)
  exact ⟨pow_of h2, err_of gSyn (by kernel_rfl) Tryd.underlying83 (laid_tail h3), err_of gRan (by kernel_rfl) Tryd.underlying83 h3⟩

noncomputable def laidWorld (os : Os) : World := (World.doorLaid Tryd.prog 400 os).layVars Tryd.prog [("unicode/utf8.first", Rows.laid_unicode_utf8_first)]
set_option maxRecDepth 100000 in
theorem laid_met (os : Os) : laidMetH Tryd.prog Rows.fnExactReadListRow.laid ((laidWorld os).forCall (fun _ _ => 0) ⟨#[], #[.string ⟨#[]⟩], []⟩).memory :=
  laidMetH_of_parts3 (fuel := 8) (laidMet_of_run' 8 (by kernel_rfl) (by kernel_rfl)) (by kernel_rfl) (by kernel_rfl)

set_option maxHeartbeats 1000000 in
theorem walk (a0 : ByteArray) (w0 : a0.size ≤ maxLen) (w : World) (hF : Hid (ReadOk w)) (hSh : Hid (w.ShapedOpen Tryd.prog)) :
    Calls Tryd.prog 3 #[.string a0] w fun e w' => e = .returned (.bool true) ∧ Below w.heap.size w w' := by
  have HOK := Lib.hid (show ListOk w from ⟨hF.out, max_of hSh.out⟩)
  clear hF hSh
  have hmax : a0.size ≤ 9223372036854775807 := by unfold maxLen at w0; omega
  by_cases hbig : 1048576 < a0.size
  · go_enter Tryd.func3, Tryd.ntmps3
    go_wp2
    go_ret
    exact ⟨rfl, Below.refl _ _⟩
  · go_enter Tryd.func3, Tryd.ntmps3
    go_wp2_with fail
    refine (specReadList_any a0 _ (by omega)).mono ?_
    rintro e w1 ⟨hb1, ⟨hV, rfl⟩ | ⟨zs, vw, hV, hl64, rfl, hown1⟩⟩
    · have HB1 := Lib.hid hb1
      have HV := Lib.hid hV
      have HK1 := Lib.hid (list_kept hb1 HOK.out)
      clear hb1 hV
      go_wp2_with fail
      refine (implReadList_any a0 _ (by omega) HK1).mono ?_
      rintro e w2 ⟨hb2, ⟨_, rfl⟩ | ⟨zs, vw, hV, _⟩⟩
      case inr => rw [HV.out] at hV; cases hV
      have HB2 := Lib.hid (below_of HB1.out hb2 HB1.out.size)
      clear hb2
      go_wp2_with fail
      refine (eqInts_zero _ _ _ _ _).mono ?_
      rintro e w3 ⟨rfl, hb3⟩
      have HB3 := Lib.hid (below_of HB2.out hb3 HB2.out.size)
      clear hb3
      go_wp2_with fail
      refine (mark_none _ _).mono ?_
      rintro e w3 ⟨rfl, rfl⟩
      go_wp2_with fail
      refine (held_none _ _).mono ?_
      rintro e w3 ⟨rfl, rfl⟩
      have HK3 := Lib.hid (list_kept HB3.out HOK.out)
      go_wp2_with fail
      refine (implReadList_any a0 _ (by omega) HK3).mono ?_
      rintro e w4 ⟨hb4, ⟨_, rfl⟩ | ⟨zs, vw, hV, _⟩⟩
      case inr => rw [HV.out] at hV; cases hV
      have HB4 := Lib.hid (below_of HB3.out hb4 HB3.out.size)
      clear hb4
      go_wp2_with fail
      refine (eqInts_zero _ _ _ _ _).mono ?_
      rintro e w5 ⟨rfl, hb5⟩
      have HB5 := Lib.hid (below_of HB4.out hb5 HB4.out.size)
      clear hb5
      go_wp2_with fail
      refine (held_none _ _).mono ?_
      rintro e w5 ⟨rfl, rfl⟩
      go_wp2
      go_ret
      exact ⟨rfl, HB5.out⟩
    · have HB1 := Lib.hid hb1
      have hsz1 := hb1.size
      have HV := Lib.hid hV
      have HW1 := Lib.hid hown1
      have HK1 := Lib.hid (list_kept hb1 HOK.out)
      clear hb1 hV hown1
      go_wp2_with fail
      refine (implReadList_any a0 _ (by omega) HK1).mono ?_
      rintro e w2 ⟨hb2, ⟨hV, _⟩ | ⟨zs2, vg, hV, _, rfl, hown2⟩⟩
      case inl => rw [HV.out] at hV; cases hV
      obtain rfl : zs2 = zs := Option.some.inj (hV.symm.trans HV.out)
      clear hV
      have HR2 := Lib.hid hb2
      have hsz2 := hb2.size
      have HG2 := Lib.hid hown2
      have HW2 := Lib.hid (own_kept hb2 HW1.out)
      clear hb2 hown2
      go_wp2_with fail
      refine (eqInts_own zs2 (by omega) _ _ _ _ _ HG2.out HW2.out).mono ?_
      rintro e w3 ⟨rfl, hb3⟩
      have HR3 := Lib.hid (HR2.out.trans (hb3.mono hsz2))
      have hsz3 := HR3.out.size
      have hG3 := own_kept hb3 HG2.out
      clear hb3
      obtain ⟨n, hn⟩ : ∃ n, zs2.length = n := ⟨_, rfl⟩
      obtain ⟨g, cap, rfl, hg1, hg2, hrow⟩ := hG3
      rw [hn] at hrow hl64 ⊢
      have HN := Lib.hid hn
      have HROW := Lib.hid hrow
      clear hrow hn
      have hz : ((1 + (n : Int)) != (1 + (n : Int))) = false := by simp
      go_wp2_with fail
      refine (mark_some zs2 1 w1.heap.size g cap n _ (by omega) HN (by omega) hg1 HROW.out).mono ?_
      rintro e w4 ⟨rfl, hrow4, hb4⟩
      have HROW4 := Lib.hid hrow4
      have HR4 := Lib.hid (HR3.out.trans hb4)
      clear hrow4 hb4
      go_wp2_with fail
      refine (held_some 1 w1.heap.size g cap n _ (by omega) (by omega) HROW4.out).mono ?_
      rintro e w4 ⟨rfl, rfl⟩
      have HB4 := Lib.hid (below_of HB1.out HR4.out hsz1)
      have hsz4 := HR4.out.size
      have HK4 := Lib.hid (list_kept HB4.out HOK.out)
      go_wp2_with fail
      refine (implReadList_any a0 _ (by omega) HK4).mono ?_
      rintro e w5 ⟨hb5, ⟨hV, _⟩ | ⟨zs3, vh, hV, _, rfl, hown5⟩⟩
      case inl => rw [HV.out] at hV; cases hV
      obtain rfl : zs3 = zs2 := Option.some.inj (hV.symm.trans HV.out)
      clear hV
      have HR5 := Lib.hid (HR4.out.trans (hb5.mono hsz4))
      have HROW5 := Lib.hid (row_below hb5 HROW4.out)
      have HH5 := Lib.hid hown5
      have HW5 := Lib.hid (own_kept HR5.out HW1.out)
      have HB5 := Lib.hid (below_of HB4.out hb5 HB4.out.size)
      clear hb5 hown5
      go_wp2_with fail
      refine (eqInts_own zs3 (by have := HN.out; omega) _ _ _ _ _ HH5.out HW5.out).mono ?_
      rintro e w6 ⟨rfl, hb6⟩
      have HROW6 := Lib.hid (row_below hb6 HROW5.out)
      have HB6 := Lib.hid (below_of HB5.out hb6 HB5.out.size)
      clear hb6
      go_wp2_with fail
      refine (held_some 1 w1.heap.size g cap n _ (by omega) (by omega) HROW6.out).mono ?_
      rintro e w6 ⟨rfl, rfl⟩
      go_wp2
      go_ret
      exact ⟨rfl, HB6.out⟩

set_option maxRecDepth 100000 in
theorem contract (H : Type) (enc : TypeId × Value → H) (W : World) (base : Nat) (args : Array Value) (ds gs : List (DataW H)) (before : List MemPlace)
    (hval : ∀ (j : Nat) t v, Tryd.f3.params[j]? = some t → args[j]? = some v → Value.okWide Tryd.prog W .any base t v)
    (hreach : (DataW.weightsEach Tryd.prog (Tryd.f3.params.toList ++ (OpenSpec.ofChange Rows.fnExactReadListSpec).bare.plain.varTypes Tryd.prog) (ds ++ gs)).all (· ≤ reachBytes) = true)
    (hW : DataW.Whole enc Tryd.prog Tryd.f3.params.toList Rows.fnExactReadListSpec.vars false W args.toList ds gs before) (hL : laidMetH Tryd.prog Rows.fnExactReadListRow.laid W) (hSh : W.ShapedOpen Tryd.prog) :
    Calls Tryd.prog 3 args W fun e W' => ∃ v, e = .returned v ∧ Rows.fnExactReadListSpec.post enc Tryd.prog Tryd.f3 false true false false W args v W' := by
  have hF := facts hL
  have hW' := hW
  obtain ⟨p, q, hA0, hV, rfl, hfz, hnd⟩ := hW
  have hA : DataW.TrodAll enc Tryd.prog W 0 (fun _ => true) true Tryd.f3.params.toList args.toList ds p := hA0
  rw [Tryd.params3] at hA hval
  obtain ⟨v0, vs0, d0, ds0, p0, q0, hargs, rfl, rfl, h0, r0⟩ := trodAll_cons hA
  obtain ⟨rfl, rfl, rfl⟩ := trodAll_nil r0
  obtain rfl : args = #[v0] := by cases args; simp_all
  obtain ⟨rfl, rfl⟩ := trodVars_none hV
  obtain ⟨a0, rfl, rfl, rfl, w0⟩ := open_string Tryd.underlying9 (hval 0 9 v0 rfl rfl) h0
  clear hA0
  simp only [List.append_nil] at hW'
  refine (walk a0 w0 W (Lib.hid hF) (Lib.hid hSh)).mono fun e W' ⟨he, hg⟩ => ?_
  subst he
  exact ⟨_, rfl, post_kept (pa := []) (pv := []) hW' rfl hg (fun _ _ => (trodAll_cons_mk (shut_bool Tryd.underlying4 _) trodAll_mk0)) (fun sp _ => (trodAll_cons_mk (shut_string Tryd.underlying9 w0) trodAll_mk0)) (fun _ _ => rfl)⟩

set_option maxRecDepth 100000 in
theorem reads (os : Os) {H : Type} (enc : TypeId × Value → H) : DataW.whole enc Tryd.prog ((laidWorld os).forCall (fun _ _ => 0) ⟨#[], #[.string ⟨#[]⟩], []⟩).memory Tryd.f3.params.toList Rows.fnExactReadListSpec.vars false (#[.string ⟨#[]⟩] : Array Value).toList 8
    = some ([.lit (.string [])], [], []) := by kernel_rfl

set_option maxRecDepth 100000 in
theorem lifted (os : Os) (started : os.Started) (H : Type) (enc : TypeId × Value → H) (F : Stop.Interp) :
    ReturnsInHanded {} Tryd.checked os 3 .any ((OpenSpec.ofChange Rows.fnExactReadListSpec).preRow enc Tryd.prog Tryd.f3 Rows.fnExactReadListRow.domain false Rows.fnExactReadListRow.laid) (((OpenSpec.ofChange Rows.fnExactReadListSpec).at F).post enc Tryd.prog Tryd.f3 false true false false) := by
  refine returnsInHanded_of_row (C := Tryd.checked) (s := OpenSpec.ofChange Rows.fnExactReadListSpec) own started (by kernel_rfl) Tryd.func3
    (witness_row_atRef (enc := enc) (C := Tryd.checked) false (laidWorld os) #[.string ⟨#[]⟩] (World.layVars_os _ _ _) (by kernel_rfl) (by kernel_rfl) (by kernel_rfl)
      (OpenSpec.preRow_of_cond 8 (reads os enc) (by kernel_rfl) (fun k hk => by cases hk) (by kernel_rfl) (laid_met os))) ?_
  intro W base args ds gs before hval hW _ _ hr hL hSh _
  exact contract H enc W base args ds gs before hval hr hW hL hSh

theorem said : Rows.FnExactReadListSaid :=
  OpenClaim.holds_of_cond 3 Tryd.f3 rfl rfl rfl rfl rfl rfl rfl ⟨rfl, rfl, rfl, rfl, rfl⟩ rfl rfl rfl rfl rfl (by kernel_rfl) Tryd.func3 (by kernel_rfl)
    (of_decide_eq_true (by kernel_rfl)) (by unfold Func.isWrapper; first | (rw [if_pos (by decide +kernel)]; kernel_rfl) | (rw [if_neg (by decide +kernel)]; exact ⟨rfl, rfl⟩))
    (fun os started H enc _ F => by rw [OpenClaim.pre_eq_preRow]; exact lifted os started H enc F)

theorem plain (f : FuncId) (fn : Func) (hf : Tryd.pinned.checked.prog.funcNamed "loop.example/g00952/laws.FnExactReadList" = some f) (hfn : Tryd.pinned.checked.prog.funcs[f]? = some fn) :
    true = Tryd.pinned.checked.prog.looks [] ∧ ∀ (j : Nat) t, fn.params[j]? = some t → Tryd.pinned.checked.prog.wantsStandIn t = false := by
  obtain rfl : f = 3 := Option.some.inj ((show Tryd.prog.funcNamed "loop.example/g00952/laws.FnExactReadList" = some 3 by kernel_rfl).symm.trans hf) |>.symm
  obtain rfl : fn = Tryd.f3 := (Option.some.inj (Tryd.func3.symm.trans hfn)).symm
  refine ⟨by kernel_rfl, fun j t ht => ?_⟩
  rw [Tryd.params3] at ht
  obtain rfl : t = 9 := by simpa using Array.mem_of_getElem? ht
  exact (show Tryd.prog.wantsStandIn 9 = false by kernel_rfl)
end Go.Proofs.YtndmakimkghihabDoor.fnExactReadList

namespace Go.Proofs.YtndmakimkghihabDoor
/-- The given card. -/
theorem fnExactReadList_holds : Rows.FnExactReadListCardSaid :=
  Claim7.holds_tied_plain_at .later [] _ _ _ _ fnExactReadList.said (fun _ h => by cases h) (by kernel_rfl) (fun _ h => by cases h) fnExactReadList_row_tie rfl ⟨rfl, rfl⟩ (by kernel_rfl) rfl fnExactReadList.plain (by kernel_rfl)
#print axioms fnExactReadList_holds
end Go.Proofs.YtndmakimkghihabDoor
