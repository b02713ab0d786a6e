/- At every sound and every other argument that its types allow, FnExactNearestKind returns true and leaves the memory as it was: NearestKind answers as the reference model. -/
import Derived.Test.YtmkopmdeelfmgaaRows
import Derived.Test.YtmkopmdeelfmgaaBase
import Derived.Test.YtmkopmdeelfmgaaLaidOut
import Derived.Test.YtmkopmdeelfmgaaKind
namespace Go.Proofs.Ytmkopmdeelfmgaa.fnExactNearestKind
open Go.ChangeShapes Go.WideShapes Go.ChangeAt Go.RowKit
open Go.ChangeMaps (open_string shut_string)
set_option linter.unusedVariables false

theorem own : ownKnob Try.prog.godebug = none := by kernel_rfl

set_option maxRecDepth 100000 in
set_option maxHeartbeats 1000000 in
theorem walk (a b c e f : Int) (w0 : (Lit.int .i64 a).wf = true ∧ (Lit.int .i64 b).wf = true ∧ (Lit.int .i64 c).wf = true ∧ (Lit.int .i64 e).wf = true ∧ (Lit.int .i64 f).wf = true) (w : World) :
    Calls Try.prog 10 #[.agg #[.int .i64 a, .int .i64 b, .int .i64 c, .int .i64 e, .int .i64 f]] w fun e w' => e = .returned (.bool true) ∧ Below w.heap.size w w' := by
  go_enter Try.func10, Try.ntmps10
  go_wp2_with fail
  refine (toSound_any a b c e f _).mono ?_
  rintro en w1 ⟨rfl, hb⟩
  have H5 := Lib.hid (five_below hb (five_alloc w a b c e f 23))
  have HB := Lib.hid (below_of ((Below.refl _ _).alloc (Nat.le_refl _) _) hb (by simp))
  clear hb
  go_wp2_with fail
  refine (specKind_any a b c e f  _).mono ?_
  rintro en w2 ⟨rfl, hb⟩
  obtain ⟨c0, c1, c2, c3, c4⟩ := five_below hb H5.out
  have HB2 := Lib.hid (below_of HB.out hb HB.out.size)
  clear hb H5
  go_wp2_with fail
  refine (toSound_any a b c e f _).mono ?_
  rintro en w3 ⟨rfl, hb⟩
  have HB3 := Lib.hid (below_of HB2.out hb HB2.out.size)
  clear hb c0 c1 c2 c3 c4
  go_wp2_with fail
  refine (implKind_any a b c e f  _).mono ?_
  rintro en w4 ⟨rfl, hb⟩
  have HB4 := Lib.hid (below_of HB3.out hb HB3.out.size)
  clear hb
  generalize nkR a b c e f = r0
  have hr0 : (r0 != r0) = false := by simp
  generalize stC a b c e f = r1
  have hr1 : (r1 != r1) = false := by simp
  go_wp2
  go_ret
  exact ⟨rfl, HB4.out⟩

set_option maxRecDepth 100000 in
theorem contract (H : Type) (enc : TypeId × Value → H) (W : World) (base : Nat) (args : Array Value) (ds gs : List (DataW H)) (before : List MemPlace)
    (hval : ∀ (j : Nat) t v, Try.f10.params[j]? = some t → args[j]? = some v → Value.okWide Try.prog W .any base t v)
    (hW : DataW.Whole enc Try.prog Try.f10.params.toList Rows.fnExactNearestKindSpec.vars false W args.toList ds gs before) :
    Calls Try.prog 10 args W fun e W' => ∃ v, e = .returned v ∧ Rows.fnExactNearestKindSpec.post enc Try.prog Try.f10 false true false false W args v W' := by
  have hW' := hW
  obtain ⟨p, q, hA0, hV, rfl, hfz, hnd⟩ := hW
  have hA : DataW.TrodAll enc Try.prog W 0 (fun _ => true) true Try.f10.params.toList args.toList ds p := hA0
  rw [Try.params10] at hA hval
  obtain ⟨v0, vs0, d0, ds0, p0, q0, hargs, rfl, rfl, h0, r0⟩ := trodAll_cons hA
  obtain ⟨rfl, rfl, rfl⟩ := trodAll_nil r0
  obtain rfl : args = #[v0] := by cases args; simp_all
  obtain ⟨rfl, rfl⟩ := trodVars_none hV
  simp only [List.append_nil] at hW'
  have hlt0 : ∀ x ∈ p0, x.block < W.heap.size := fun x hx => hW'.lt x (by simp [hx])
  have kept0 := fun (W2 : World) (hb : Below W.heap.size W W2) => Below.trod laidOut (by kernel_rfl) (of_decide_eq_true (by kernel_rfl)) h0 hb hlt0
  obtain ⟨s0a, s0b, s0c, s0e, s0f, rfl, w0⟩ := sound_arg (hval 0 23 v0 rfl rfl) h0
  clear hA0
  refine (walk s0a s0b s0c s0e s0f w0 W).mono fun e W' ⟨he, hg⟩ => ?_
  subst he
  refine ⟨_, rfl, post_at (pa := p0) (pv := []) hW' (by simp) hg (fun _ _ => (trodAll_cons_mk (shut_bool Try.underlying4 _) trodAll_mk0)) ?_ rfl⟩
  have hk := (trodAll_cons_mk (kept0 W' hg) trodAll_mk0)
  simp only [List.append_nil] at hk
  exact hk

set_option maxRecDepth 100000 in
theorem lifted (os : Os) (started : os.Started) (H : Type) (enc : TypeId × Value → H) :
    ReturnsInHanded {} Try.checked os 10 .any (Rows.fnExactNearestKindSpec.pre6 enc Try.prog Try.f10 Rows.fnExactNearestKindRow.domain false) (Rows.fnExactNearestKindSpec.post enc Try.prog Try.f10 false true false false) := by
  refine returnsInHanded_of_change (C := Try.checked) own started (by kernel_rfl) Try.func10
    (ChangeSpec.witness6 (enc := enc) (C := Try.checked) false ⟨#[], #[.agg #[.int .i64 0, .int .i64 0, .int .i64 0, .int .i64 0, .int .i64 0]], []⟩ 8 (by kernel_rfl) (by kernel_rfl) (by kernel_rfl) (by kernel_rfl)) ?_
  intro W base args ds gs before hval0 hW hcnd _
  have hval : ∀ (j : Nat) t v, Try.f10.params[j]? = some t → args[j]? = some v → Value.okWide Try.prog W .any base t v := hval0
  exact contract H enc W base args ds gs before hval hW

theorem over : Rows.fnExactNearestKindRow.holds Try.pinned (OpenSpec.ofChange Rows.fnExactNearestKindSpec) :=
  OpenClaim.holds_of_wide 10 Try.f10 rfl rfl rfl rfl rfl rfl rfl ⟨rfl, rfl, rfl, rfl, rfl⟩ rfl rfl rfl rfl rfl (by kernel_rfl) Try.func10 (by kernel_rfl)
    (of_decide_eq_true (by kernel_rfl)) (by unfold Func.isWrapper; first | (rw [if_pos (by decide +kernel)]; kernel_rfl) | (rw [if_neg (by decide +kernel)]; exact ⟨rfl, rfl⟩))
    (fun os started H enc _ => lifted os started H enc)
end Go.Proofs.Ytmkopmdeelfmgaa.fnExactNearestKind

namespace Go.Proofs.Ytmkopmdeelfmgaa
/-- The given statement. -/
theorem fnExactNearestKind_holds : Rows.FnExactNearestKindSaid := fnExactNearestKind.over
#print axioms fnExactNearestKind_holds
end Go.Proofs.Ytmkopmdeelfmgaa
