/- The program's ValidGoal answers as the reference model's, for every goal. -/
import Derived.Test.YtpllmehcndinkabRows
import Derived.Test.YtpllmehcndinkabBase
import Derived.Test.YtpllmehcndinkabLaidOut
import Derived.Test.YtpllmehcndinkabGoalV
namespace Go.Proofs.Ytpllmehcndinkab.fnExactValidGoal
open Go.ChangeShapes Go.WideShapes Go.ChangeAt Go.RowKit
open Go.ChangeMaps (open_string shut_string)
set_option linter.unusedVariables false

theorem own : ownKnob Try.prog.godebug = none := by kernel_rfl

set_option maxRecDepth 100000 in
set_option maxHeartbeats 8000000 in
theorem walk (s0a s0b s0c s0e s0f s0t s0q : Int) (w0 : (Lit.int .i64 s0a).wf = true ∧ (Lit.int .i64 s0b).wf = true ∧ (Lit.int .i64 s0c).wf = true ∧ (Lit.int .i64 s0e).wf = true ∧ (Lit.int .i64 s0f).wf = true ∧ (Lit.int .i64 s0t).wf = true ∧ (Lit.int .i64 s0q).wf = true) (w : World) :
    Calls Try.prog 3 #[.agg #[.int .i64 s0a, .int .i64 s0b, .int .i64 s0c, .int .i64 s0e, .int .i64 s0f, .int .i64 s0t, .int .i64 s0q]] w fun e w' => e = .returned (.bool true) ∧ Below w.heap.size w w' := by
  have hw0 := Lib.hid w0
  clear w0
  obtain ⟨r0, hsp, him⟩ : ∃ (r0 : Bool), (∀ w, Calls Try.prog 4 #[.agg #[.int .i64 s0a, .int .i64 s0b, .int .i64 s0c, .int .i64 s0e, .int .i64 s0f, .int .i64 s0t, .int .i64 s0q]] w (fun e w' => e = .returned (.bool r0) ∧ Below w.heap.size w w')) ∧ (∀ w, Calls Try.prog 6 #[.agg #[.int .i64 s0a, .int .i64 s0b, .int .i64 s0c, .int .i64 s0e, .int .i64 s0f, .int .i64 s0t, .int .i64 s0q]] w (fun e w' => e = .returned (.bool r0) ∧ Below w.heap.size w w')) :=
    ⟨goalB s0a s0b s0c s0e s0f s0t s0q, fun w => specVG_any s0a s0b s0c s0e s0f s0t s0q w, fun w => implVG_any s0a s0b s0c s0e s0f s0t s0q w⟩
  have hrr0 : (r0 != r0) = false := by simp
  have HSP := Lib.hid hsp
  have HIM := Lib.hid him
  clear hsp him
  go_enter Try.func3, Try.ntmps3
  have f1 : (w.alloc (.cells #[.int .i64 s0a, .int .i64 s0b, .int .i64 s0c, .int .i64 s0e, .int .i64 s0f, .int .i64 s0t, .int .i64 s0q] 25)).cell? ⟨w.heap.size, 0, none⟩ = some (.int .i64 s0a) := by go_simp
  have f2 : (w.alloc (.cells #[.int .i64 s0a, .int .i64 s0b, .int .i64 s0c, .int .i64 s0e, .int .i64 s0f, .int .i64 s0t, .int .i64 s0q] 25)).cell? ⟨w.heap.size, 1, none⟩ = some (.int .i64 s0b) := by go_simp
  have f3 : (w.alloc (.cells #[.int .i64 s0a, .int .i64 s0b, .int .i64 s0c, .int .i64 s0e, .int .i64 s0f, .int .i64 s0t, .int .i64 s0q] 25)).cell? ⟨w.heap.size, 2, none⟩ = some (.int .i64 s0c) := by go_simp
  have f4 : (w.alloc (.cells #[.int .i64 s0a, .int .i64 s0b, .int .i64 s0c, .int .i64 s0e, .int .i64 s0f, .int .i64 s0t, .int .i64 s0q] 25)).cell? ⟨w.heap.size, 3, none⟩ = some (.int .i64 s0e) := by go_simp
  have f5 : (w.alloc (.cells #[.int .i64 s0a, .int .i64 s0b, .int .i64 s0c, .int .i64 s0e, .int .i64 s0f, .int .i64 s0t, .int .i64 s0q] 25)).cell? ⟨w.heap.size, 4, none⟩ = some (.int .i64 s0f) := by go_simp
  have f6 : (w.alloc (.cells #[.int .i64 s0a, .int .i64 s0b, .int .i64 s0c, .int .i64 s0e, .int .i64 s0f, .int .i64 s0t, .int .i64 s0q] 25)).cell? ⟨w.heap.size, 5, none⟩ = some (.int .i64 s0t) := by go_simp
  have f7 : (w.alloc (.cells #[.int .i64 s0a, .int .i64 s0b, .int .i64 s0c, .int .i64 s0e, .int .i64 s0f, .int .i64 s0t, .int .i64 s0q] 25)).cell? ⟨w.heap.size, 6, none⟩ = some (.int .i64 s0q) := by go_simp
  have l8 : w.heap.size < (w.alloc (.cells #[.int .i64 s0a, .int .i64 s0b, .int .i64 s0c, .int .i64 s0e, .int .i64 s0f, .int .i64 s0t, .int .i64 s0q] 25)).heap.size := by simp
  have S9 : w.heap.size + 1 ≤ (w.alloc (.cells #[.int .i64 s0a, .int .i64 s0b, .int .i64 s0c, .int .i64 s0e, .int .i64 s0f, .int .i64 s0t, .int .i64 s0q] 25)).heap.size := by simp <;> omega
  have HB10 := Lib.hid ((below_alG w (.cells #[.int .i64 s0a, .int .i64 s0b, .int .i64 s0c, .int .i64 s0e, .int .i64 s0f, .int .i64 s0t, .int .i64 s0q] 25)))
  go_wp2_with fail
  generalize (w.alloc (.cells #[.int .i64 s0a, .int .i64 s0b, .int .i64 s0c, .int .i64 s0e, .int .i64 s0f, .int .i64 s0t, .int .i64 s0q] 25)) = wb at *
  refine (toGoal_any s0a s0b s0c s0e s0f s0t s0q _).mono ?_
  rintro e w_1 ⟨rfl, hb⟩
  have S11 : wb.heap.size ≤ w_1.heap.size := (hb).size
  have f12 : w_1.cell? ⟨w.heap.size, 0, none⟩ = some (.int .i64 s0a) := (below_cell hb _ _ l8).trans f1
  have f13 : w_1.cell? ⟨w.heap.size, 1, none⟩ = some (.int .i64 s0b) := (below_cell hb _ _ l8).trans f2
  have f14 : w_1.cell? ⟨w.heap.size, 2, none⟩ = some (.int .i64 s0c) := (below_cell hb _ _ l8).trans f3
  have f15 : w_1.cell? ⟨w.heap.size, 3, none⟩ = some (.int .i64 s0e) := (below_cell hb _ _ l8).trans f4
  have f16 : w_1.cell? ⟨w.heap.size, 4, none⟩ = some (.int .i64 s0f) := (below_cell hb _ _ l8).trans f5
  have f17 : w_1.cell? ⟨w.heap.size, 5, none⟩ = some (.int .i64 s0t) := (below_cell hb _ _ l8).trans f6
  have f18 : w_1.cell? ⟨w.heap.size, 6, none⟩ = some (.int .i64 s0q) := (below_cell hb _ _ l8).trans f7
  have l19 : w.heap.size < w_1.heap.size := Nat.lt_of_lt_of_le l8 (hb).size
  clear f1 f2 f3 f4 f5 f6 f7 l8
  have HB20 := Lib.hid (below_of HB10.out hb HB10.out.size)
  clear hb 
  go_wp2_with fail
  refine (HSP.out _).mono ?_
  rintro e w_2 ⟨rfl, hb⟩
  have S21 : w_1.heap.size ≤ w_2.heap.size := (hb).size
  have f22 : w_2.cell? ⟨w.heap.size, 0, none⟩ = some (.int .i64 s0a) := (below_cell hb _ _ l19).trans f12
  have f23 : w_2.cell? ⟨w.heap.size, 1, none⟩ = some (.int .i64 s0b) := (below_cell hb _ _ l19).trans f13
  have f24 : w_2.cell? ⟨w.heap.size, 2, none⟩ = some (.int .i64 s0c) := (below_cell hb _ _ l19).trans f14
  have f25 : w_2.cell? ⟨w.heap.size, 3, none⟩ = some (.int .i64 s0e) := (below_cell hb _ _ l19).trans f15
  have f26 : w_2.cell? ⟨w.heap.size, 4, none⟩ = some (.int .i64 s0f) := (below_cell hb _ _ l19).trans f16
  have f27 : w_2.cell? ⟨w.heap.size, 5, none⟩ = some (.int .i64 s0t) := (below_cell hb _ _ l19).trans f17
  have f28 : w_2.cell? ⟨w.heap.size, 6, none⟩ = some (.int .i64 s0q) := (below_cell hb _ _ l19).trans f18
  have l29 : w.heap.size < w_2.heap.size := Nat.lt_of_lt_of_le l19 (hb).size
  clear f12 f13 f14 f15 f16 f17 f18 l19
  have HB30 := Lib.hid (below_of HB20.out hb HB20.out.size)
  clear hb 
  go_wp2_with fail
  refine (toGoal_any s0a s0b s0c s0e s0f s0t s0q _).mono ?_
  rintro e w_3 ⟨rfl, hb⟩
  have S31 : w_2.heap.size ≤ w_3.heap.size := (hb).size
  have f32 : w_3.cell? ⟨w.heap.size, 0, none⟩ = some (.int .i64 s0a) := (below_cell hb _ _ l29).trans f22
  have f33 : w_3.cell? ⟨w.heap.size, 1, none⟩ = some (.int .i64 s0b) := (below_cell hb _ _ l29).trans f23
  have f34 : w_3.cell? ⟨w.heap.size, 2, none⟩ = some (.int .i64 s0c) := (below_cell hb _ _ l29).trans f24
  have f35 : w_3.cell? ⟨w.heap.size, 3, none⟩ = some (.int .i64 s0e) := (below_cell hb _ _ l29).trans f25
  have f36 : w_3.cell? ⟨w.heap.size, 4, none⟩ = some (.int .i64 s0f) := (below_cell hb _ _ l29).trans f26
  have f37 : w_3.cell? ⟨w.heap.size, 5, none⟩ = some (.int .i64 s0t) := (below_cell hb _ _ l29).trans f27
  have f38 : w_3.cell? ⟨w.heap.size, 6, none⟩ = some (.int .i64 s0q) := (below_cell hb _ _ l29).trans f28
  have l39 : w.heap.size < w_3.heap.size := Nat.lt_of_lt_of_le l29 (hb).size
  clear f22 f23 f24 f25 f26 f27 f28 l29
  have HB40 := Lib.hid (below_of HB30.out hb HB30.out.size)
  clear hb 
  go_wp2_with fail
  refine (HIM.out _).mono ?_
  rintro e w_4 ⟨rfl, hb⟩
  have S41 : w_3.heap.size ≤ w_4.heap.size := (hb).size
  have f42 : w_4.cell? ⟨w.heap.size, 0, none⟩ = some (.int .i64 s0a) := (below_cell hb _ _ l39).trans f32
  have f43 : w_4.cell? ⟨w.heap.size, 1, none⟩ = some (.int .i64 s0b) := (below_cell hb _ _ l39).trans f33
  have f44 : w_4.cell? ⟨w.heap.size, 2, none⟩ = some (.int .i64 s0c) := (below_cell hb _ _ l39).trans f34
  have f45 : w_4.cell? ⟨w.heap.size, 3, none⟩ = some (.int .i64 s0e) := (below_cell hb _ _ l39).trans f35
  have f46 : w_4.cell? ⟨w.heap.size, 4, none⟩ = some (.int .i64 s0f) := (below_cell hb _ _ l39).trans f36
  have f47 : w_4.cell? ⟨w.heap.size, 5, none⟩ = some (.int .i64 s0t) := (below_cell hb _ _ l39).trans f37
  have f48 : w_4.cell? ⟨w.heap.size, 6, none⟩ = some (.int .i64 s0q) := (below_cell hb _ _ l39).trans f38
  have l49 : w.heap.size < w_4.heap.size := Nat.lt_of_lt_of_le l39 (hb).size
  clear f32 f33 f34 f35 f36 f37 f38 l39
  have HB50 := Lib.hid (below_of HB40.out hb HB40.out.size)
  clear hb 
  go_wp2
  go_ret
  exact ⟨rfl, HB50.out⟩

set_option maxRecDepth 100000 in
theorem contract (H : Type) (enc : TypeId × Value → H) (W : World) (base : Nat) (args : Array Value) (ds gs : List (DataW H)) (before : List MemPlace)
    (hval : ∀ (j : Nat) t v, Try.f3.params[j]? = some t → args[j]? = some v → Value.okWide Try.prog W .any base t v)
    (hW : DataW.Whole enc Try.prog Try.f3.params.toList Rows.fnExactValidGoalSpec.vars false W args.toList ds gs before) :
    Calls Try.prog 3 args W fun e W' => ∃ v, e = .returned v ∧ Rows.fnExactValidGoalSpec.post enc Try.prog Try.f3 false true false false W args v W' := by
  have hW' := hW
  obtain ⟨p, q, hA0, hV, rfl, hfz, hnd⟩ := hW
  have hA : DataW.TrodAll enc Try.prog W 0 (fun _ => true) true Try.f3.params.toList args.toList ds p := hA0
  rw [Try.params3] at hA hval
  obtain ⟨v0, vs0, d0, ds0, p0, q0, hargs, rfl, rfl, h0, r0⟩ := trodAll_cons hA
  obtain ⟨rfl, rfl, rfl⟩ := trodAll_nil r0
  obtain rfl : args = #[v0] := by cases args; simp_all
  obtain ⟨rfl, rfl⟩ := trodVars_none hV
  simp only [List.append_nil] at hW'
  have hlt0 : ∀ x ∈ p0, x.block < W.heap.size := fun x hx => hW'.lt x (by simp [hx])
  have kept0 := fun (W2 : World) (hb : Below W.heap.size W W2) => Below.trod laidOut (by kernel_rfl) (of_decide_eq_true (by kernel_rfl)) h0 hb hlt0
  obtain ⟨s0a, s0b, s0c, s0e, s0f, s0t, s0q, rfl, w0⟩ := goal_arg (hval 0 25 v0 rfl rfl) h0
  clear hA0
  refine (walk s0a s0b s0c s0e s0f s0t s0q w0 W).mono fun e W' ⟨he, hg⟩ => ?_
  subst he
  refine ⟨_, rfl, post_at (pa := p0) (pv := []) hW' (by simp) hg (fun _ _ => (trodAll_cons_mk (shut_bool Try.underlying4 _) trodAll_mk0)) ?_ rfl⟩
  have hk := (trodAll_cons_mk (kept0 W' hg) trodAll_mk0)
  simp only [List.append_nil] at hk
  exact hk

set_option maxRecDepth 100000 in
theorem lifted (os : Os) (started : os.Started) (H : Type) (enc : TypeId × Value → H) :
    ReturnsInHanded {} Try.checked os 3 .any (Rows.fnExactValidGoalSpec.pre6 enc Try.prog Try.f3 Rows.fnExactValidGoalRow.domain false) (Rows.fnExactValidGoalSpec.post enc Try.prog Try.f3 false true false false) := by
  refine returnsInHanded_of_change (C := Try.checked) own started (by kernel_rfl) Try.func3
    (ChangeSpec.witness6 (enc := enc) (C := Try.checked) false ⟨#[], #[.agg #[.int .i64 0, .int .i64 0, .int .i64 0, .int .i64 0, .int .i64 0, .int .i64 0, .int .i64 0]], []⟩ 8 (by kernel_rfl) (by kernel_rfl) (by kernel_rfl) (by kernel_rfl)) ?_
  intro W base args ds gs before hval0 hW hcnd _
  have hval : ∀ (j : Nat) t v, Try.f3.params[j]? = some t → args[j]? = some v → Value.okWide Try.prog W .any base t v := hval0
  exact contract H enc W base args ds gs before hval hW

theorem over : Rows.fnExactValidGoalRow.holds Try.pinned (OpenSpec.ofChange Rows.fnExactValidGoalSpec) :=
  OpenClaim.holds_of_wide 3 Try.f3 rfl rfl rfl rfl rfl rfl rfl ⟨rfl, rfl, rfl, rfl, rfl⟩ rfl rfl rfl rfl rfl (by kernel_rfl) Try.func3 (by kernel_rfl)
    (of_decide_eq_true (by kernel_rfl)) (by unfold Func.isWrapper; first | (rw [if_pos (by decide +kernel)]; kernel_rfl) | (rw [if_neg (by decide +kernel)]; exact ⟨rfl, rfl⟩))
    (fun os started H enc _ => lifted os started H enc)
end Go.Proofs.Ytpllmehcndinkab.fnExactValidGoal

namespace Go.Proofs.Ytpllmehcndinkab
/-- The given statement. -/
theorem fnExactValidGoal_holds : Rows.FnExactValidGoalSaid := fnExactValidGoal.over
#print axioms fnExactValidGoal_holds
end Go.Proofs.Ytpllmehcndinkab
