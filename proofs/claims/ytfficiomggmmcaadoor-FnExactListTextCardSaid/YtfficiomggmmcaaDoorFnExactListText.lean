/- The law FnExactListText answers true at every list of int64 and changes nothing: the program's text of a list and the reference model's are equal. Condition: the package-level variables that the row lists hold what the program's text lays (the card ties them). -/
import Derived.Test.YtfficiomggmmcaaDoorCards
import Derived.Test.YtfficiomggmmcaaDoorTie
import Derived.Test.YtfficiomggmmcaaDoorBase
import Derived.Test.YtfficiomggmmcaaDoorListImpl
import Derived.Deep.DeepHandedRow
import Derived.Deep.DeepWitnessRowRef
import Derived.LaidMore
namespace Go.Proofs.YtfficiomggmmcaaDoor.fnExactListText
open Go.ChangeShapes Go.WideShapes Go.ChangeAt Go.RowKit
open Go.ChangeMaps (open_string shut_string)
set_option linter.unusedVariables false

theorem own : ownKnob Tryd.prog.godebug = none := by kernel_rfl

theorem facts {W : World} (h : laidMetH Tryd.prog Rows.fnExactListTextRow.laid W) : PowOk W := by
  rw [MakeChecks.laidMetH_plain _ _ _ (by kernel_rfl)] at h
  exact pow_of (laid_tail (laid_tail h))

set_option maxHeartbeats 1000000 in
theorem walk (a : Option Addr) (len cap : Nat) (w0 : len ≤ 9223372036854775807) (w : World) (hI : len ≤ 1048576 → ∃ zs : List Int, zs.length = len ∧ IntsAt w (.slice a len cap) zs ∧ ∀ z ∈ zs, (Lit.int .i64 z).wf = true) (hF : Hid (PowOk w)) :
    Calls Tryd.prog 7 #[.slice a len cap] w fun e w' => e = .returned (.bool true) ∧ Below w.heap.size w w' := by
  by_cases hbig : 1048576 < len
  · clear hI
    go_enter Tryd.func7, Tryd.ntmps7
    go_wp2
    go_ret
    exact ⟨rfl, Below.refl _ _⟩
  · obtain ⟨zs, hlen, hzs, hwf⟩ := hI (by omega)
    have HL := Lib.hid hlen
    have HZ := Lib.hid hzs
    have HW := Lib.hid (show ∀ j, j < len → -9223372036854775808 ≤ zs.getD j 0 ∧ zs.getD j 0 ≤ 9223372036854775807 from fun j hj => by
      have hj' : j < zs.length := by omega
      rw [List.getD_eq_getElem?_getD, List.getElem?_eq_getElem hj']
      exact wf_bd (hwf _ (List.getElem_mem hj')))
    clear hI hlen hzs hwf
    go_enter Tryd.func7, Tryd.ntmps7
    go_wp2_with fail
    refine (toInts_any zs _ _ HZ.out).mono ?_
    rintro e w1 ⟨v1, rfl, ⟨g1, c1, rfl, hB1, hlt1, hown1⟩, hb1⟩
    rw [HL.out] at hown1
    rw [HL.out]
    have HO1 := Lib.hid hown1
    have HB1 := Lib.hid hb1
    clear hown1 hb1
    go_wp2_with fail
    refine (specListText_any zs g1 c1 _ len HL (by omega) hlt1 (own_cells HL.out HO1.out) HW.out).mono ?_
    rintro e w2 ⟨rfl, hb2⟩
    have HB2 := Lib.hid (below_of HB1.out hb2 HB1.out.size)
    clear hb2
    go_wp2_with fail
    refine (toInts_any zs _ _ (ints_kept HB2.out HZ.out)).mono ?_
    rintro e w3 ⟨v3, rfl, ⟨g3, c3, rfl, hB3, hlt3, hown3⟩, hb3⟩
    rw [HL.out] at hown3
    rw [HL.out]
    have HO3 := Lib.hid hown3
    have HB3 := Lib.hid (below_of HB2.out hb3 HB2.out.size)
    clear hown3 hb3
    go_wp2_with fail
    refine (implListText_any zs g3 c3 _ len HL (by omega) hlt3 (own_cells HL.out HO3.out) (Lib.hid (pow_kept HB3.out hF.out))).mono ?_
    rintro e w4 ⟨rfl, hb4⟩
    have HO4 := Lib.hid (row_below hb4 HO3.out)
    have hsz4 := hb4.size
    have HB4 := Lib.hid (below_of HB3.out hb4 HB3.out.size)
    clear hb4
    generalize listV zs = tx
    go_wp2_with fail
    refine (toInts_any zs _ _ (ints_kept HB4.out HZ.out)).mono ?_
    rintro e w5 ⟨v5, rfl, ⟨g5, c5, rfl, hB5, hlt5, hown5⟩, hb5⟩
    rw [HL.out] at hown5
    rw [HL.out]
    have HO5 := Lib.hid hown5
    have HO6 := Lib.hid (row_below hb5 HO4.out)
    have HB5 := Lib.hid (below_of HB4.out hb5 HB4.out.size)
    clear hown5 hb5
    go_wp2_with fail
    refine (eqInts_some zs g3 0 c3 g5 0 c5 _ len (by omega) (own_cells HL.out HO6.out) (own_cells HL.out HO5.out)).mono ?_
    rintro e w7 ⟨rfl, hb7⟩
    have HB7 := Lib.hid (below_of HB5.out hb7 HB5.out.size)
    clear hb7
    go_wp2
    go_ret
    exact ⟨rfl, HB7.out⟩

set_option maxRecDepth 100000 in
theorem contract (H : Type) (enc : TypeId × Value → H) (W : World) (base : Nat) (args : Array Value) (ds gs : List (DataW H)) (before : List MemPlace)
    (hval : ∀ (j : Nat) t v, Tryd.f7.params[j]? = some t → args[j]? = some v → Value.okWide Tryd.prog W .any base t v)
    (hreach : (DataW.weightsEach Tryd.prog (Tryd.f7.params.toList ++ (OpenSpec.ofChange Rows.fnExactListTextSpec).bare.plain.varTypes Tryd.prog) (ds ++ gs)).all (· ≤ reachBytes) = true)
    (hW : DataW.Whole enc Tryd.prog Tryd.f7.params.toList Rows.fnExactListTextSpec.vars false W args.toList ds gs before) (hL : laidMetH Tryd.prog Rows.fnExactListTextRow.laid W) (hSh : W.ShapedOpen Tryd.prog) :
    Calls Tryd.prog 7 args W fun e W' => ∃ v, e = .returned v ∧ Rows.fnExactListTextSpec.post enc Tryd.prog Tryd.f7 false true false false W args v W' := by
  have hF := facts hL
  have hW' := hW
  obtain ⟨p, q, hA0, hV, rfl, hfz, hnd⟩ := hW
  have hA : DataW.TrodAll enc Tryd.prog W 0 (fun _ => true) true Tryd.f7.params.toList args.toList ds p := hA0
  rw [Tryd.params7] at hA hval
  obtain ⟨v0, vs0, d0, ds0, p0, q0, hargs, rfl, rfl, h0, r0⟩ := trodAll_cons hA
  obtain ⟨rfl, rfl, rfl⟩ := trodAll_nil r0
  obtain rfl : args = #[v0] := by cases args; simp_all
  obtain ⟨rfl, rfl⟩ := trodVars_none hV
  obtain ⟨a0, len0, cap0, rfl⟩ := okWide_slice Tryd.underlying30 (hval 0 30 v0 rfl rfl)
  have h0k := h0
  obtain ⟨fuel0, hf0⟩ := h0
  clear hA0
  simp only [List.append_nil] at hW'
  have hlt0 : ∀ x ∈ p0, x.block < W.heap.size := fun x hx => hW'.lt x (by simp [hx])
  obtain ⟨w0, hI0⟩ := ints_arg hf0 hlt0
  refine (walk a0 len0 cap0 w0 W hI0 (Lib.hid hF)).mono fun e W' ⟨he, hg⟩ => ?_
  subst he
  refine ⟨_, rfl, post_at (pa := p0) (pv := []) hW' (by simp) hg (fun _ _ => (trodAll_cons_mk (shut_bool Tryd.underlying4 _) trodAll_mk0)) ?_ rfl⟩
  have hk := (trodAll_cons_mk (Below.trod laidOut (by kernel_rfl) (of_decide_eq_true (by kernel_rfl)) h0k hg hlt0) trodAll_mk0)
  simp only [List.append_nil] at hk
  exact hk

noncomputable def laidWorld (os : Os) : World := World.doorLaid Tryd.prog 400 os
set_option maxRecDepth 100000 in
theorem laid_met (os : Os) : laidMetH Tryd.prog Rows.fnExactListTextRow.laid ((laidWorld os).forCall (fun _ _ => 0) ⟨#[], #[.slice none 0 0], []⟩).memory :=
  laidMetH_of_parts3 (fuel := 8) (laidMet_of_run' 8 (by kernel_rfl) (by kernel_rfl)) (by kernel_rfl) (by kernel_rfl)
set_option maxRecDepth 100000 in
theorem reads (os : Os) {H : Type} (enc : TypeId × Value → H) : DataW.whole enc Tryd.prog ((laidWorld os).forCall (fun _ _ => 0) ⟨#[], #[.slice none 0 0], []⟩).memory Tryd.f7.params.toList Rows.fnExactListTextSpec.vars false (#[.slice none 0 0] : Array Value).toList 8
    = some ([.nil], [], []) := by kernel_rfl

set_option maxRecDepth 100000 in
theorem lifted (os : Os) (started : os.Started) (H : Type) (enc : TypeId × Value → H) (F : Stop.Interp) :
    ReturnsInHanded {} Tryd.checked os 7 .any ((OpenSpec.ofChange Rows.fnExactListTextSpec).preRow enc Tryd.prog Tryd.f7 Rows.fnExactListTextRow.domain false Rows.fnExactListTextRow.laid) (((OpenSpec.ofChange Rows.fnExactListTextSpec).at F).post enc Tryd.prog Tryd.f7 false true false false) := by
  refine returnsInHanded_of_row (C := Tryd.checked) (s := OpenSpec.ofChange Rows.fnExactListTextSpec) own started (by kernel_rfl) Tryd.func7
    (witness_row_atRef (enc := enc) (C := Tryd.checked) false (laidWorld os) #[.slice none 0 0] rfl (by kernel_rfl) (by kernel_rfl) (by kernel_rfl)
      (OpenSpec.preRow_of_cond 8 (reads os enc) (by kernel_rfl) (fun k hk => by cases hk) (by kernel_rfl) (laid_met os))) ?_
  intro W base args ds gs before hval hW _ _ hr hL hSh _
  exact contract H enc W base args ds gs before hval hr hW hL hSh

theorem said : Rows.FnExactListTextSaid :=
  OpenClaim.holds_of_cond 7 Tryd.f7 rfl rfl rfl rfl rfl rfl rfl ⟨rfl, rfl, rfl, rfl, rfl⟩ rfl rfl rfl rfl rfl (by kernel_rfl) Tryd.func7 (by kernel_rfl)
    (of_decide_eq_true (by kernel_rfl)) (by unfold Func.isWrapper; first | (rw [if_pos (by decide +kernel)]; kernel_rfl) | (rw [if_neg (by decide +kernel)]; exact ⟨rfl, rfl⟩))
    (fun os started H enc _ F => by rw [OpenClaim.pre_eq_preRow]; exact lifted os started H enc F)

theorem plain (f : FuncId) (fn : Func) (hf : Tryd.pinned.checked.prog.funcNamed "loop.example/g00952/laws.FnExactListText" = some f) (hfn : Tryd.pinned.checked.prog.funcs[f]? = some fn) :
    true = Tryd.pinned.checked.prog.looks [] ∧ ∀ (j : Nat) t, fn.params[j]? = some t → Tryd.pinned.checked.prog.wantsStandIn t = false := by
  obtain rfl : f = 7 := Option.some.inj ((show Tryd.prog.funcNamed "loop.example/g00952/laws.FnExactListText" = some 7 by kernel_rfl).symm.trans hf) |>.symm
  obtain rfl : fn = Tryd.f7 := (Option.some.inj (Tryd.func7.symm.trans hfn)).symm
  refine ⟨by kernel_rfl, fun j t ht => ?_⟩
  rw [Tryd.params7] at ht
  obtain rfl : t = 30 := by simpa using Array.mem_of_getElem? ht
  exact (show Tryd.prog.wantsStandIn 30 = false by kernel_rfl)
end Go.Proofs.YtfficiomggmmcaaDoor.fnExactListText

namespace Go.Proofs.YtfficiomggmmcaaDoor
/-- The given card. -/
theorem fnExactListText_holds : Rows.FnExactListTextCardSaid :=
  Claim7.holds_tied_plain_at .later [] _ _ _ _ fnExactListText.said (fun _ h => by cases h) (by kernel_rfl) (fun _ h => by cases h) fnExactListText_row_tie rfl ⟨rfl, rfl⟩ (by kernel_rfl) rfl fnExactListText.plain (by kernel_rfl)
#print axioms fnExactListText_holds
end Go.Proofs.YtfficiomggmmcaaDoor
