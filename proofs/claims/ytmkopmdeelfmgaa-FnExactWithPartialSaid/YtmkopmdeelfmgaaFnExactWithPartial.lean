/- At every sound, every number of a partial and every frequency that their types allow, FnExactWithPartial returns true and leaves the memory as it was: WithPartial answers as the reference model. -/
import Derived.Test.YtmkopmdeelfmgaaRows
import Derived.Test.YtmkopmdeelfmgaaBase
import Derived.Test.YtmkopmdeelfmgaaLaidOut
import Derived.Test.YtmkopmdeelfmgaaSndWithI
namespace Go.Proofs.Ytmkopmdeelfmgaa.fnExactWithPartial
open Go.ChangeShapes Go.WideShapes Go.ChangeAt Go.RowKit
open Go.ChangeMaps (open_string shut_string)
set_option linter.unusedVariables false

theorem own : ownKnob Try.prog.godebug = none := by kernel_rfl

set_option maxRecDepth 100000 in
set_option maxHeartbeats 1000000 in
theorem walk (a b c e f k1 k2 : Int) (w0 : (Lit.int .i64 a).wf = true ∧ (Lit.int .i64 b).wf = true ∧ (Lit.int .i64 c).wf = true ∧ (Lit.int .i64 e).wf = true ∧ (Lit.int .i64 f).wf = true) (u1 : (Lit.int .i64 k1).wf = true) (u2 : (Lit.int .i64 k2).wf = true) (w : World) :
    Calls Try.prog 5 #[.agg #[.int .i64 a, .int .i64 b, .int .i64 c, .int .i64 e, .int .i64 f], .int .i64 k1, .int .i64 k2] w fun e w' => e = .returned (.bool true) ∧ Below w.heap.size w w' := by
  go_enter Try.func5, Try.ntmps5
  go_wp2_with fail
  refine (toSound_any a b c e f _).mono ?_
  rintro en w1 ⟨rfl, hb⟩
  have H5 := Lib.hid (five_below hb (five_alloc w a b c e f 23))
  have HB := Lib.hid (below_of ((Below.refl _ _).alloc (Nat.le_refl _) _) hb (by simp))
  clear hb
  go_wp2_with fail
  refine (specWith_any a b c e f k1 k2 _).mono ?_
  rintro en w2 ⟨hw, hb⟩
  have HW := Lib.hid hw
  obtain ⟨a', b', c', e', f', d, rfl⟩ := with_form hw
  have hlt2 := five_lt (five_below hb H5.out)
  obtain ⟨c0, c1, c2, c3, c4⟩ := five_below hb H5.out
  have HB2 := Lib.hid (below_of HB.out hb HB.out.size)
  clear hb H5 hw
  go_wp2_with fail
  refine (toSound_any a b c e f _).mono ?_
  rintro en w3 ⟨rfl, hb⟩
  obtain ⟨d0, d1, d2, d3, d4⟩ := five_below hb (five_alloc w2 a' b' c' e' f' 25)
  have HB3 := Lib.hid (below_of (HB2.out.alloc HB2.out.size _) hb (by simp; omega))
  clear hb c0 c1 c2 c3 c4
  go_wp2_with fail
  refine (implWith_any a b c e f k1 k2 _).mono ?_
  rintro en w4 ⟨hw, hb⟩
  obtain rfl := with_one HW.out hw
  have hlt4 : w2.heap.size < w4.heap.size := Nat.lt_of_lt_of_le (five_lt ⟨d0, d1, d2, d3, d4⟩) hb.size
  obtain ⟨x0, x1, x2, x3, x4⟩ := five_below hb ⟨d0, d1, d2, d3, d4⟩
  have HB4 := Lib.hid (below_of HB3.out hb HB3.out.size)
  clear hb hw
  have hd : (d != d) = false := by simp
  go_wp2_with fail
  refine (eqSound_any a' b' c' e' f' _).mono ?_
  rintro en w5 ⟨rfl, hb⟩
  have HB5 := Lib.hid (below_of (HB4.out.alloc HB4.out.size _) hb (by have := HB4.out.size; simp; omega))
  clear hb
  go_wp2
  go_ret
  exact ⟨rfl, HB5.out⟩

set_option maxRecDepth 100000 in
theorem contract (H : Type) (enc : TypeId × Value → H) (W : World) (base : Nat) (args : Array Value) (ds gs : List (DataW H)) (before : List MemPlace)
    (hval : ∀ (j : Nat) t v, Try.f5.params[j]? = some t → args[j]? = some v → Value.okWide Try.prog W .any base t v)
    (hW : DataW.Whole enc Try.prog Try.f5.params.toList Rows.fnExactWithPartialSpec.vars false W args.toList ds gs before) :
    Calls Try.prog 5 args W fun e W' => ∃ v, e = .returned v ∧ Rows.fnExactWithPartialSpec.post enc Try.prog Try.f5 false true false false W args v W' := by
  have hW' := hW
  obtain ⟨p, q, hA0, hV, rfl, hfz, hnd⟩ := hW
  have hA : DataW.TrodAll enc Try.prog W 0 (fun _ => true) true Try.f5.params.toList args.toList ds p := hA0
  rw [Try.params5] at hA hval
  obtain ⟨v0, vs0, d0, ds0, p0, q0, hargs, rfl, rfl, h0, r0⟩ := trodAll_cons hA
  obtain ⟨v1, vs1, d1, ds1, p1, q1, hargs1, rfl, rfl, h1, r1⟩ := trodAll_cons r0
  subst hargs1
  obtain ⟨v2, vs2, d2, ds2, p2, q2, hargs2, rfl, rfl, h2, r2⟩ := trodAll_cons r1
  subst hargs2
  obtain ⟨rfl, rfl, rfl⟩ := trodAll_nil r2
  obtain rfl : args = #[v0, v1, v2] := by cases args; simp_all
  obtain ⟨rfl, rfl⟩ := trodVars_none hV
  simp only [List.append_nil] at hW'
  have hlt0 : ∀ x ∈ p0, x.block < W.heap.size := fun x hx => hW'.lt x (by simp [hx])
  have kept0 := fun (W2 : World) (hb : Below W.heap.size W W2) => Below.trod laidOut (by kernel_rfl) (of_decide_eq_true (by kernel_rfl)) h0 hb hlt0
  obtain ⟨s0a, s0b, s0c, s0e, s0f, rfl, w0⟩ := sound_arg (hval 0 23 v0 rfl rfl) h0
  have hlt1 : ∀ x ∈ p1, x.block < W.heap.size := fun x hx => hW'.lt x (by simp [hx])
  have kept1 := fun (W2 : World) (hb : Below W.heap.size W W2) => Below.trod laidOut (by kernel_rfl) (of_decide_eq_true (by kernel_rfl)) h1 hb hlt1
  obtain ⟨a1, rfl, -, -, w1⟩ := open_int Try.underlying2 (hval 1 2 v1 rfl rfl) h1
  have hlt2 : ∀ x ∈ p2, x.block < W.heap.size := fun x hx => hW'.lt x (by simp [hx])
  have kept2 := fun (W2 : World) (hb : Below W.heap.size W W2) => Below.trod laidOut (by kernel_rfl) (of_decide_eq_true (by kernel_rfl)) h2 hb hlt2
  obtain ⟨a2, rfl, -, -, w2⟩ := open_int Try.underlying2 (hval 2 2 v2 rfl rfl) h2
  clear hA0
  refine (walk s0a s0b s0c s0e s0f a1 a2 w0 w1 w2 W).mono fun e W' ⟨he, hg⟩ => ?_
  subst he
  refine ⟨_, rfl, post_at (pa := p0 ++ (p1 ++ p2)) (pv := []) hW' (by simp) hg (fun _ _ => (trodAll_cons_mk (shut_bool Try.underlying4 _) trodAll_mk0)) ?_ rfl⟩
  have hk := (trodAll_cons_mk (kept0 W' hg) (trodAll_cons_mk (kept1 W' hg) (trodAll_cons_mk (kept2 W' hg) trodAll_mk0)))
  simp only [List.append_nil] at hk
  exact hk

set_option maxRecDepth 100000 in
theorem lifted (os : Os) (started : os.Started) (H : Type) (enc : TypeId × Value → H) :
    ReturnsInHanded {} Try.checked os 5 .any (Rows.fnExactWithPartialSpec.pre6 enc Try.prog Try.f5 Rows.fnExactWithPartialRow.domain false) (Rows.fnExactWithPartialSpec.post enc Try.prog Try.f5 false true false false) := by
  refine returnsInHanded_of_change (C := Try.checked) own started (by kernel_rfl) Try.func5
    (ChangeSpec.witness6 (enc := enc) (C := Try.checked) false ⟨#[], #[.agg #[.int .i64 0, .int .i64 0, .int .i64 0, .int .i64 0, .int .i64 0], .int .i64 0, .int .i64 0], []⟩ 8 (by kernel_rfl) (by kernel_rfl) (by kernel_rfl) (by kernel_rfl)) ?_
  intro W base args ds gs before hval0 hW hcnd _
  have hval : ∀ (j : Nat) t v, Try.f5.params[j]? = some t → args[j]? = some v → Value.okWide Try.prog W .any base t v := hval0
  exact contract H enc W base args ds gs before hval hW

theorem over : Rows.fnExactWithPartialRow.holds Try.pinned (OpenSpec.ofChange Rows.fnExactWithPartialSpec) :=
  OpenClaim.holds_of_wide 5 Try.f5 rfl rfl rfl rfl rfl rfl rfl ⟨rfl, rfl, rfl, rfl, rfl⟩ rfl rfl rfl rfl rfl (by kernel_rfl) Try.func5 (by kernel_rfl)
    (of_decide_eq_true (by kernel_rfl)) (by unfold Func.isWrapper; first | (rw [if_pos (by decide +kernel)]; kernel_rfl) | (rw [if_neg (by decide +kernel)]; exact ⟨rfl, rfl⟩))
    (fun os started H enc _ => lifted os started H enc)
end Go.Proofs.Ytmkopmdeelfmgaa.fnExactWithPartial

namespace Go.Proofs.Ytmkopmdeelfmgaa
/-- The given statement. -/
theorem fnExactWithPartial_holds : Rows.FnExactWithPartialSaid := fnExactWithPartial.over
#print axioms fnExactWithPartial_holds
end Go.Proofs.Ytmkopmdeelfmgaa
