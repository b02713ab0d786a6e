/- At every sound that its type allows, FnExactSoundText returns true and leaves the memory as it was: SoundText answers as the reference model. Condition: the package-level variables that the row lists hold what the program's text lays (the card ties them). -/
import Derived.Test.YtmkopmdeelfmgabDoorCards
import Derived.Test.YtmkopmdeelfmgabDoorTie
import Derived.Test.YtmkopmdeelfmgabDoorBase
import Derived.Test.YtmkopmdeelfmgabDoorLaidOut
import Derived.Test.YtmkopmdeelfmgabDoorSndTextI
import Derived.Deep.DeepHandedRow
import Derived.Deep.DeepWitnessRowRef
import Derived.LaidMore
namespace Go.Proofs.YtmkopmdeelfmgabDoor.fnExactSoundText
open Go.ChangeShapes Go.WideShapes Go.ChangeAt Go.RowKit
open Go.ChangeMaps (open_string shut_string)
set_option linter.unusedVariables false

theorem own : ownKnob Tryd.prog.godebug = none := by kernel_rfl

theorem facts {W : World} (h : laidMetH Tryd.prog Rows.fnExactSoundTextRow.laid W) : PowOk W := by
  rw [MakeChecks.laidMetH_plain _ _ _ (by kernel_rfl)] at h
  exact pow_of (laid_tail (laid_tail h))

set_option maxRecDepth 100000 in
set_option maxHeartbeats 1000000 in
theorem walk (a b c e f : Int) (w0 : (Lit.int .i64 a).wf = true ∧ (Lit.int .i64 b).wf = true ∧ (Lit.int .i64 c).wf = true ∧ (Lit.int .i64 e).wf = true ∧ (Lit.int .i64 f).wf = true) (w : World) (hF : Hid (PowOk w)) :
    Calls Tryd.prog 4 #[.agg #[.int .i64 a, .int .i64 b, .int .i64 c, .int .i64 e, .int .i64 f]] w fun e w' => e = .returned (.bool true) ∧ Below w.heap.size w w' := by
  obtain ⟨s, hs⟩ : ∃ s, sdV a b c e f = s := ⟨_, rfl⟩
  have HS := Lib.hid hs
  clear hs
  go_enter Tryd.func4, Tryd.ntmps4
  go_wp2_with fail
  refine (toSound_any a b c e f _).mono ?_
  rintro en w1 ⟨rfl, hb⟩
  have H5 := Lib.hid (five_below hb (five_alloc w a b c e f 25))
  have HB := Lib.hid (below_of ((Below.refl _ _).alloc (Nat.le_refl _) _) hb (by simp))
  clear hb
  go_wp2_with fail
  refine (specSndText_any a b c e f _).mono ?_
  rintro en w2 ⟨rfl, hb⟩
  rw [HS.out]
  obtain ⟨c0, c1, c2, c3, c4⟩ := five_below hb H5.out
  have HB2 := Lib.hid (below_of HB.out hb HB.out.size)
  clear hb H5
  go_wp2_with fail
  refine (toSound_any a b c e f _).mono ?_
  rintro en w3 ⟨rfl, hb⟩
  have HB3 := Lib.hid (below_of HB2.out hb HB2.out.size)
  clear hb c0 c1 c2 c3 c4
  go_wp2_with fail
  refine (implSndText_any a b c e f _ (Lib.hid (pow_kept HB3.out hF.out))).mono ?_
  rintro en w4 ⟨rfl, hb⟩
  rw [HS.out]
  have HB4 := Lib.hid (below_of HB3.out hb HB3.out.size)
  clear hb
  have hr : (s.toList != s.toList) = false := by simp
  go_wp2
  go_ret
  exact ⟨rfl, HB4.out⟩

set_option maxRecDepth 100000 in
theorem contract (H : Type) (enc : TypeId × Value → H) (W : World) (base : Nat) (args : Array Value) (ds gs : List (DataW H)) (before : List MemPlace)
    (hval : ∀ (j : Nat) t v, Tryd.f4.params[j]? = some t → args[j]? = some v → Value.okWide Tryd.prog W .any base t v)
    (hW : DataW.Whole enc Tryd.prog Tryd.f4.params.toList Rows.fnExactSoundTextSpec.vars false W args.toList ds gs before) (hL : laidMetH Tryd.prog Rows.fnExactSoundTextRow.laid W) (hSh : W.ShapedOpen Tryd.prog) :
    Calls Tryd.prog 4 args W fun e W' => ∃ v, e = .returned v ∧ Rows.fnExactSoundTextSpec.post enc Tryd.prog Tryd.f4 false true false false W args v W' := by
  have hF := facts hL
  have hW' := hW
  obtain ⟨p, q, hA0, hV, rfl, hfz, hnd⟩ := hW
  have hA : DataW.TrodAll enc Tryd.prog W 0 (fun _ => true) true Tryd.f4.params.toList args.toList ds p := hA0
  rw [Tryd.params4] at hA hval
  obtain ⟨v0, vs0, d0, ds0, p0, q0, hargs, rfl, rfl, h0, r0⟩ := trodAll_cons hA
  obtain ⟨rfl, rfl, rfl⟩ := trodAll_nil r0
  obtain rfl : args = #[v0] := by cases args; simp_all
  obtain ⟨rfl, rfl⟩ := trodVars_none hV
  simp only [List.append_nil] at hW'
  have hlt0 : ∀ x ∈ p0, x.block < W.heap.size := fun x hx => hW'.lt x (by simp [hx])
  have kept0 := fun (W2 : World) (hb : Below W.heap.size W W2) => Below.trod laidOut (by kernel_rfl) (of_decide_eq_true (by kernel_rfl)) h0 hb hlt0
  obtain ⟨s0a, s0b, s0c, s0e, s0f, rfl, w0⟩ := sound_arg (hval 0 25 v0 rfl rfl) h0
  clear hA0
  refine (walk s0a s0b s0c s0e s0f w0 W (Lib.hid hF)).mono fun e W' ⟨he, hg⟩ => ?_
  subst he
  refine ⟨_, rfl, post_at (pa := p0) (pv := []) hW' (by simp) hg (fun _ _ => (trodAll_cons_mk (shut_bool Tryd.underlying4 _) trodAll_mk0)) ?_ rfl⟩
  have hk := (trodAll_cons_mk (kept0 W' hg) trodAll_mk0)
  simp only [List.append_nil] at hk
  exact hk

noncomputable def laidWorld (os : Os) : World := World.doorLaid Tryd.prog 400 os
set_option maxRecDepth 100000 in
theorem laid_met (os : Os) : laidMetH Tryd.prog Rows.fnExactSoundTextRow.laid ((laidWorld os).forCall (fun _ _ => 0) ⟨#[], #[.agg #[.int .i64 0, .int .i64 0, .int .i64 0, .int .i64 0, .int .i64 0]], []⟩).memory :=
  laidMetH_of_parts3 (fuel := 8) (laidMet_of_run' 8 (by kernel_rfl) (by kernel_rfl)) (by kernel_rfl) (by kernel_rfl)
set_option maxRecDepth 100000 in
theorem reads (os : Os) {H : Type} (enc : TypeId × Value → H) : DataW.whole enc Tryd.prog ((laidWorld os).forCall (fun _ _ => 0) ⟨#[], #[.agg #[.int .i64 0, .int .i64 0, .int .i64 0, .int .i64 0, .int .i64 0]], []⟩).memory Tryd.f4.params.toList Rows.fnExactSoundTextSpec.vars false (#[.agg #[.int .i64 0, .int .i64 0, .int .i64 0, .int .i64 0, .int .i64 0]] : Array Value).toList 8
    = some ([.agg [.lit (.int .i64 0), .lit (.int .i64 0), .lit (.int .i64 0), .lit (.int .i64 0), .lit (.int .i64 0)]], [], []) := by kernel_rfl

set_option maxRecDepth 100000 in
theorem lifted (os : Os) (started : os.Started) (H : Type) (enc : TypeId × Value → H) (F : Stop.Interp) :
    ReturnsInHanded {} Tryd.checked os 4 .any ((OpenSpec.ofChange Rows.fnExactSoundTextSpec).preRow enc Tryd.prog Tryd.f4 Rows.fnExactSoundTextRow.domain false Rows.fnExactSoundTextRow.laid) (((OpenSpec.ofChange Rows.fnExactSoundTextSpec).at F).post enc Tryd.prog Tryd.f4 false true false false) := by
  refine returnsInHanded_of_row (C := Tryd.checked) (s := OpenSpec.ofChange Rows.fnExactSoundTextSpec) own started (by kernel_rfl) Tryd.func4
    (witness_row_atRef (enc := enc) (C := Tryd.checked) false (laidWorld os) #[.agg #[.int .i64 0, .int .i64 0, .int .i64 0, .int .i64 0, .int .i64 0]] rfl (by kernel_rfl) (by kernel_rfl) (by kernel_rfl)
      (OpenSpec.preRow_of_cond 8 (reads os enc) (by kernel_rfl) (fun k hk => by cases hk) (by kernel_rfl) (laid_met os))) ?_
  intro W base args ds gs before hval hW _ _ hr hL hSh _
  exact contract H enc W base args ds gs before hval hW hL hSh

theorem said : Rows.FnExactSoundTextSaid :=
  OpenClaim.holds_of_cond 4 Tryd.f4 rfl rfl rfl rfl rfl rfl rfl ⟨rfl, rfl, rfl, rfl, rfl⟩ rfl rfl rfl rfl rfl (by kernel_rfl) Tryd.func4 (by kernel_rfl)
    (of_decide_eq_true (by kernel_rfl)) (by unfold Func.isWrapper; first | (rw [if_pos (by decide +kernel)]; kernel_rfl) | (rw [if_neg (by decide +kernel)]; exact ⟨rfl, rfl⟩))
    (fun os started H enc _ F => by rw [OpenClaim.pre_eq_preRow]; exact lifted os started H enc F)

theorem plain (f : FuncId) (fn : Func) (hf : Tryd.pinned.checked.prog.funcNamed "loop.example/g00952/laws.FnExactSoundText" = some f) (hfn : Tryd.pinned.checked.prog.funcs[f]? = some fn) :
    true = Tryd.pinned.checked.prog.looks [] ∧ ∀ (j : Nat) t, fn.params[j]? = some t → Tryd.pinned.checked.prog.wantsStandIn t = false := by
  obtain rfl : f = 4 := Option.some.inj ((show Tryd.prog.funcNamed "loop.example/g00952/laws.FnExactSoundText" = some 4 by kernel_rfl).symm.trans hf) |>.symm
  obtain rfl : fn = Tryd.f4 := (Option.some.inj (Tryd.func4.symm.trans hfn)).symm
  refine ⟨by kernel_rfl, fun j t ht => ?_⟩
  rw [Tryd.params4] at ht
  obtain rfl : t = 25 := by simpa using Array.mem_of_getElem? ht
  exact (show Tryd.prog.wantsStandIn 25 = false by kernel_rfl)
end Go.Proofs.YtmkopmdeelfmgabDoor.fnExactSoundText

namespace Go.Proofs.YtmkopmdeelfmgabDoor
/-- The given card. -/
theorem fnExactSoundText_holds : Rows.FnExactSoundTextCardSaid :=
  Claim7.holds_tied_plain_at .later [] _ _ _ _ fnExactSoundText.said (fun _ h => by cases h) (by kernel_rfl) (fun _ h => by cases h) fnExactSoundText_row_tie rfl ⟨rfl, rfl⟩ (by kernel_rfl) rfl fnExactSoundText.plain (by kernel_rfl)
#print axioms fnExactSoundText_holds
end Go.Proofs.YtmkopmdeelfmgabDoor
