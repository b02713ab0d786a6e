/- At every argument WorstClass answers as its model, and its arguments are as they were. -/
import Derived.Test.YtfleececlafjkaaRows
import Derived.Test.YtfleececlafjkaaBase
import Derived.Test.YtfleececlafjkaaLaidOut
import Derived.Test.YtfleececlafjkaaClsW
import Derived.Test.YtfleececlafjkaaIvL
namespace Go.Proofs.Ytfleececlafjkaa.fnExactWorstClass
open Go.ChangeShapes Go.WideShapes Go.ChangeAt Go.RowKit
open Go.ChangeMaps (open_string shut_string)
set_option linter.unusedVariables false

theorem own : ownKnob Try.prog.godebug = none := by kernel_rfl

set_option maxRecDepth 100000 in
set_option maxHeartbeats 8000000 in
theorem walk (p0 : Option Addr) (len0 cap0 : Nat) (w0 : len0 ≤ 9223372036854775807) (w : World) (hI0 : len0 ≤ 1048576 → ∃ zs : List Int, zs.length = len0 ∧ IntsAt w (.slice p0 len0 cap0) zs ∧ ∀ z ∈ zs, (Lit.int .i64 z).wf = true) :
    Calls Try.prog 4 #[.slice p0 len0 cap0] w fun e w' => e = .returned (.bool true) ∧ Below w.heap.size w w' := by
  have hlen0 := w0
  clear w0
  by_cases hbz0 : 1048576 < len0
  · clear hI0
    go_enter Try.func4, Try.ntmps4
    go_wp2
    go_ret
    exact ⟨rfl, Below.refl _ _⟩
  obtain ⟨z0, hzn0, hzi0, hzw0⟩ := hI0 (by omega)
  have HZN0 := Lib.hid hzn0
  have HZW0 := Lib.hid hzw0
  have HY0 := Lib.hid hzi0
  have HYL0 := Lib.hid (show z0.length ≤ 1048576 by omega)
  clear hzn0 hzi0 hzw0 hI0
  obtain ⟨r0, r1, hsp, him⟩ : ∃ (r0 : Int) (r1 : Int), (∀ u0 w, IntsAt w u0 z0 → Calls Try.prog 14 #[u0] w (fun e w' => e = .returned (.tuple #[.int .i64 r0, .int .i64 r1]) ∧ Below w.heap.size w w')) ∧ (∀ u0 w, IntsAt w u0 z0 → Calls Try.prog 16 #[u0] w (fun e w' => e = .returned (.tuple #[.int .i64 r0, .int .i64 r1]) ∧ Below w.heap.size w w')) :=
    ⟨worR z0, worC z0, fun u0 w h => specWor_any z0 u0 w h, fun u0 w h => implWor_any z0 u0 HZW0.out w h⟩
  have hrr0 : (r0 != r0) = false := by simp
  have hrr1 : (r1 != r1) = false := by simp
  have HSP := Lib.hid hsp
  have HIM := Lib.hid him
  clear hsp him
  go_enter Try.func4, Try.ntmps4
  go_wp2_with fail
  refine (toInts_any z0 _ _ (ints_kept (Below.refl _ _) HY0.out)).mono ?_
  rintro e w_1 ⟨vx0, rfl, ho, hb⟩
  have HO1 := Lib.hid ((own_ints HYL0.out ho))
  have S2 : w.heap.size ≤ w_1.heap.size := (hb).size
  have HB3 := Lib.hid (hb)
  clear hb ho
  go_wp2_with fail
  refine (HSP.out vx0 _ HO1.out).mono ?_
  rintro e w_2 ⟨rfl, hb⟩
  have S4 : w_1.heap.size ≤ w_2.heap.size := (hb).size
  have HB5 := Lib.hid (below_of HB3.out hb HB3.out.size)
  clear hb HO1
  go_wp2_with fail
  refine (toInts_any z0 _ _ (ints_kept HB5.out HY0.out)).mono ?_
  rintro e w_3 ⟨vx0, rfl, ho, hb⟩
  have hv := iv_own ho
  obtain ⟨aZ0, cZ0, rfl⟩ := iv_form hv
  rw [HZN0.out] at hv ⊢
  have HX0I := Lib.hid (iv_in hv)
  have HX0R := Lib.hid hv
  clear hv
  have S6 : w_2.heap.size ≤ w_3.heap.size := (hb).size
  have HB7 := Lib.hid (below_of HB5.out hb HB5.out.size)
  clear hb ho
  go_wp2_with fail
  refine (HIM.out _ _ (iv_ints HYL0.out HX0R.out)).mono ?_
  rintro e w_4 ⟨rfl, hb⟩
  have S8 : w_3.heap.size ≤ w_4.heap.size := (hb).size
  have HB9 := Lib.hid (below_of HB7.out hb HB7.out.size)
  have HR10 := Lib.hid (iv_kept hb HX0R.out)
  clear HX0R
  clear hb 
  go_wp2_with fail
  refine (toInts_any z0 _ _ (ints_kept HB9.out HY0.out)).mono ?_
  rintro e w_5 ⟨vt, rfl, ho, hb⟩
  have HT := Lib.hid (own_ints HYL0.out ho)
  have S11 : w_4.heap.size ≤ w_5.heap.size := (hb).size
  have HB12 := Lib.hid (below_of HB9.out hb HB9.out.size)
  have HR13 := Lib.hid (iv_kept hb HR10.out)
  clear HR10
  clear hb ho
  go_wp2_with fail
  refine (eqInts_at z0 _ _ _ (iv_ints HYL0.out HR13.out) HT.out).mono ?_
  rintro e w_6 ⟨rfl, hb⟩
  have S14 : w_5.heap.size ≤ w_6.heap.size := (hb).size
  have HB15 := Lib.hid (below_of HB12.out hb HB12.out.size)
  have HR16 := Lib.hid (iv_kept hb HR13.out)
  clear HR13
  clear hb HT
  go_wp2
  go_ret
  exact ⟨rfl, HB15.out⟩

set_option maxRecDepth 100000 in
theorem contract (H : Type) (enc : TypeId × Value → H) (W : World) (base : Nat) (args : Array Value) (ds gs : List (DataW H)) (before : List MemPlace)
    (hval : ∀ (j : Nat) t v, Try.f4.params[j]? = some t → args[j]? = some v → Value.okWide Try.prog W .any base t v)
    (hW : DataW.Whole enc Try.prog Try.f4.params.toList Rows.fnExactWorstClassSpec.vars false W args.toList ds gs before) :
    Calls Try.prog 4 args W fun e W' => ∃ v, e = .returned v ∧ Rows.fnExactWorstClassSpec.post enc Try.prog Try.f4 false true false false W args v W' := by
  have hW' := hW
  obtain ⟨p, q, hA0, hV, rfl, hfz, hnd⟩ := hW
  have hA : DataW.TrodAll enc Try.prog W 0 (fun _ => true) true Try.f4.params.toList args.toList ds p := hA0
  rw [Try.params4] at hA hval
  obtain ⟨v0, vs0, d0, ds0, p0, q0, hargs, rfl, rfl, h0, r0⟩ := trodAll_cons hA
  obtain ⟨rfl, rfl, rfl⟩ := trodAll_nil r0
  obtain rfl : args = #[v0] := by cases args; simp_all
  obtain ⟨rfl, rfl⟩ := trodVars_none hV
  simp only [List.append_nil] at hW'
  have hlt0 : ∀ x ∈ p0, x.block < W.heap.size := fun x hx => hW'.lt x (by simp [hx])
  have kept0 := fun (W2 : World) (hb : Below W.heap.size W W2) => Below.trod laidOut (by kernel_rfl) (of_decide_eq_true (by kernel_rfl)) h0 hb hlt0
  obtain ⟨a0, len0, cap0, rfl⟩ := okWide_slice Try.underlying24 (hval 0 24 v0 rfl rfl)
  obtain ⟨fuel0, hf0⟩ := h0
  obtain ⟨w0, hI0⟩ := ints_arg hf0 hlt0
  clear hA0
  refine (walk a0 len0 cap0 w0 W hI0).mono fun e W' ⟨he, hg⟩ => ?_
  subst he
  refine ⟨_, rfl, post_at (pa := p0) (pv := []) hW' (by simp) hg (fun _ _ => (trodAll_cons_mk (shut_bool Try.underlying4 _) trodAll_mk0)) ?_ rfl⟩
  have hk := (trodAll_cons_mk (kept0 W' hg) trodAll_mk0)
  simp only [List.append_nil] at hk
  exact hk

set_option maxRecDepth 100000 in
theorem lifted (os : Os) (started : os.Started) (H : Type) (enc : TypeId × Value → H) :
    ReturnsInHanded {} Try.checked os 4 .any (Rows.fnExactWorstClassSpec.pre6 enc Try.prog Try.f4 Rows.fnExactWorstClassRow.domain false) (Rows.fnExactWorstClassSpec.post enc Try.prog Try.f4 false true false false) := by
  refine returnsInHanded_of_change (C := Try.checked) own started (by kernel_rfl) Try.func4
    (ChangeSpec.witness6 (enc := enc) (C := Try.checked) false ⟨#[], #[.slice none 0 0], []⟩ 8 (by kernel_rfl) (by kernel_rfl) (by kernel_rfl) (by kernel_rfl)) ?_
  intro W base args ds gs before hval0 hW hcnd _
  have hval : ∀ (j : Nat) t v, Try.f4.params[j]? = some t → args[j]? = some v → Value.okWide Try.prog W .any base t v := hval0
  exact contract H enc W base args ds gs before hval hW

theorem over : Rows.fnExactWorstClassRow.holds Try.pinned (OpenSpec.ofChange Rows.fnExactWorstClassSpec) :=
  OpenClaim.holds_of_wide 4 Try.f4 rfl rfl rfl rfl rfl rfl rfl ⟨rfl, rfl, rfl, rfl, rfl⟩ rfl rfl rfl rfl rfl (by kernel_rfl) Try.func4 (by kernel_rfl)
    (of_decide_eq_true (by kernel_rfl)) (by unfold Func.isWrapper; first | (rw [if_pos (by decide +kernel)]; kernel_rfl) | (rw [if_neg (by decide +kernel)]; exact ⟨rfl, rfl⟩))
    (fun os started H enc _ => lifted os started H enc)
end Go.Proofs.Ytfleececlafjkaa.fnExactWorstClass

namespace Go.Proofs.Ytfleececlafjkaa
/-- The given statement. -/
theorem fnExactWorstClass_holds : Rows.FnExactWorstClassSaid := fnExactWorstClass.over
#print axioms fnExactWorstClass_holds
end Go.Proofs.Ytfleececlafjkaa
