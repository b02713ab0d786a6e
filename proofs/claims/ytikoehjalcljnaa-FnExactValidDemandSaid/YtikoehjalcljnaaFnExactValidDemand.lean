/- At every argument ValidDemand answers as its model, and its arguments are as they were. -/
import Derived.Test.YtikoehjalcljnaaRows
import Derived.Test.YtikoehjalcljnaaBase
import Derived.Test.YtikoehjalcljnaaLaidOut
import Derived.Test.YtikoehjalcljnaaIngArg
import Derived.Test.YtikoehjalcljnaaDem
namespace Go.Proofs.Ytikoehjalcljnaa.fnExactValidDemand
open Go.ChangeShapes Go.WideShapes Go.ChangeAt Go.RowKit
open Go.ChangeMaps (open_string shut_string)
set_option linter.unusedVariables false

theorem own : ownKnob Try.prog.godebug = none := by kernel_rfl

set_option maxRecDepth 100000 in
set_option maxHeartbeats 8000000 in
theorem walk (s0a s0b s0c s0e s0f : Int) (w0 : (Lit.int .i64 s0a).wf = true ∧ (Lit.int .i64 s0b).wf = true ∧ (Lit.int .i64 s0c).wf = true ∧ (Lit.int .i64 s0e).wf = true ∧ (Lit.int .i64 s0f).wf = true) (w : World) :
    Calls Try.prog 6 #[.agg #[.int .i64 s0a, .int .i64 s0b, .int .i64 s0c, .int .i64 s0e, .int .i64 s0f]] w fun e w' => e = .returned (.bool true) ∧ Below w.heap.size w w' := by
  have hw0 := Lib.hid w0
  clear w0
  obtain ⟨r0, hsp, him⟩ : ∃ (r0 : Bool), (∀ w, Calls Try.prog 27 #[.agg #[.int .i64 s0a, .int .i64 s0b, .int .i64 s0c, .int .i64 s0e, .int .i64 s0f]] w (fun e w' => e = .returned (.bool r0) ∧ Below w.heap.size w w')) ∧ (∀ w, Calls Try.prog 29 #[.agg #[.int .i64 s0a, .int .i64 s0b, .int .i64 s0c, .int .i64 s0e, .int .i64 s0f]] w (fun e w' => e = .returned (.bool r0) ∧ Below w.heap.size w w')) :=
    ⟨demB s0a s0b s0c s0e s0f, fun w => specVD_any s0a s0b s0c s0e s0f w, fun w => implVD_any s0a s0b s0c s0e s0f w⟩
  have hrr0 : (r0 != r0) = false := by simp
  have HSP := Lib.hid hsp
  have HIM := Lib.hid him
  clear hsp him
  go_enter Try.func6, Try.ntmps6
  have f1 : (w.alloc (.cells #[.int .i64 s0a, .int .i64 s0b, .int .i64 s0c, .int .i64 s0e, .int .i64 s0f] 49)).cell? ⟨w.heap.size, 0, none⟩ = some (.int .i64 s0a) := by go_simp
  have f2 : (w.alloc (.cells #[.int .i64 s0a, .int .i64 s0b, .int .i64 s0c, .int .i64 s0e, .int .i64 s0f] 49)).cell? ⟨w.heap.size, 1, none⟩ = some (.int .i64 s0b) := by go_simp
  have f3 : (w.alloc (.cells #[.int .i64 s0a, .int .i64 s0b, .int .i64 s0c, .int .i64 s0e, .int .i64 s0f] 49)).cell? ⟨w.heap.size, 2, none⟩ = some (.int .i64 s0c) := by go_simp
  have f4 : (w.alloc (.cells #[.int .i64 s0a, .int .i64 s0b, .int .i64 s0c, .int .i64 s0e, .int .i64 s0f] 49)).cell? ⟨w.heap.size, 3, none⟩ = some (.int .i64 s0e) := by go_simp
  have f5 : (w.alloc (.cells #[.int .i64 s0a, .int .i64 s0b, .int .i64 s0c, .int .i64 s0e, .int .i64 s0f] 49)).cell? ⟨w.heap.size, 4, none⟩ = some (.int .i64 s0f) := by go_simp
  have l6 : w.heap.size < (w.alloc (.cells #[.int .i64 s0a, .int .i64 s0b, .int .i64 s0c, .int .i64 s0e, .int .i64 s0f] 49)).heap.size := by simp
  have S7 : w.heap.size + 1 ≤ (w.alloc (.cells #[.int .i64 s0a, .int .i64 s0b, .int .i64 s0c, .int .i64 s0e, .int .i64 s0f] 49)).heap.size := by simp <;> omega
  have HB8 := Lib.hid ((below_alG w (.cells #[.int .i64 s0a, .int .i64 s0b, .int .i64 s0c, .int .i64 s0e, .int .i64 s0f] 49)))
  go_wp2_with fail
  generalize (w.alloc (.cells #[.int .i64 s0a, .int .i64 s0b, .int .i64 s0c, .int .i64 s0e, .int .i64 s0f] 49)) = wb at *
  refine (toDemand_any s0a s0b s0c s0e s0f _).mono ?_
  rintro e w_1 ⟨rfl, hb⟩
  have S9 : wb.heap.size ≤ w_1.heap.size := (hb).size
  have f10 : w_1.cell? ⟨w.heap.size, 0, none⟩ = some (.int .i64 s0a) := (below_cell hb _ _ l6).trans f1
  have f11 : w_1.cell? ⟨w.heap.size, 1, none⟩ = some (.int .i64 s0b) := (below_cell hb _ _ l6).trans f2
  have f12 : w_1.cell? ⟨w.heap.size, 2, none⟩ = some (.int .i64 s0c) := (below_cell hb _ _ l6).trans f3
  have f13 : w_1.cell? ⟨w.heap.size, 3, none⟩ = some (.int .i64 s0e) := (below_cell hb _ _ l6).trans f4
  have f14 : w_1.cell? ⟨w.heap.size, 4, none⟩ = some (.int .i64 s0f) := (below_cell hb _ _ l6).trans f5
  have l15 : w.heap.size < w_1.heap.size := Nat.lt_of_lt_of_le l6 (hb).size
  clear f1 f2 f3 f4 f5 l6
  have HB16 := Lib.hid (below_of HB8.out hb HB8.out.size)
  clear hb 
  go_wp2_with fail
  refine (HSP.out _).mono ?_
  rintro e w_2 ⟨rfl, hb⟩
  have S17 : w_1.heap.size ≤ w_2.heap.size := (hb).size
  have f18 : w_2.cell? ⟨w.heap.size, 0, none⟩ = some (.int .i64 s0a) := (below_cell hb _ _ l15).trans f10
  have f19 : w_2.cell? ⟨w.heap.size, 1, none⟩ = some (.int .i64 s0b) := (below_cell hb _ _ l15).trans f11
  have f20 : w_2.cell? ⟨w.heap.size, 2, none⟩ = some (.int .i64 s0c) := (below_cell hb _ _ l15).trans f12
  have f21 : w_2.cell? ⟨w.heap.size, 3, none⟩ = some (.int .i64 s0e) := (below_cell hb _ _ l15).trans f13
  have f22 : w_2.cell? ⟨w.heap.size, 4, none⟩ = some (.int .i64 s0f) := (below_cell hb _ _ l15).trans f14
  have l23 : w.heap.size < w_2.heap.size := Nat.lt_of_lt_of_le l15 (hb).size
  clear f10 f11 f12 f13 f14 l15
  have HB24 := Lib.hid (below_of HB16.out hb HB16.out.size)
  clear hb 
  go_wp2_with fail
  refine (toDemand_any s0a s0b s0c s0e s0f _).mono ?_
  rintro e w_3 ⟨rfl, hb⟩
  have S25 : w_2.heap.size ≤ w_3.heap.size := (hb).size
  have f26 : w_3.cell? ⟨w.heap.size, 0, none⟩ = some (.int .i64 s0a) := (below_cell hb _ _ l23).trans f18
  have f27 : w_3.cell? ⟨w.heap.size, 1, none⟩ = some (.int .i64 s0b) := (below_cell hb _ _ l23).trans f19
  have f28 : w_3.cell? ⟨w.heap.size, 2, none⟩ = some (.int .i64 s0c) := (below_cell hb _ _ l23).trans f20
  have f29 : w_3.cell? ⟨w.heap.size, 3, none⟩ = some (.int .i64 s0e) := (below_cell hb _ _ l23).trans f21
  have f30 : w_3.cell? ⟨w.heap.size, 4, none⟩ = some (.int .i64 s0f) := (below_cell hb _ _ l23).trans f22
  have l31 : w.heap.size < w_3.heap.size := Nat.lt_of_lt_of_le l23 (hb).size
  clear f18 f19 f20 f21 f22 l23
  have HB32 := Lib.hid (below_of HB24.out hb HB24.out.size)
  clear hb 
  go_wp2_with fail
  refine (HIM.out _).mono ?_
  rintro e w_4 ⟨rfl, hb⟩
  have S33 : w_3.heap.size ≤ w_4.heap.size := (hb).size
  have f34 : w_4.cell? ⟨w.heap.size, 0, none⟩ = some (.int .i64 s0a) := (below_cell hb _ _ l31).trans f26
  have f35 : w_4.cell? ⟨w.heap.size, 1, none⟩ = some (.int .i64 s0b) := (below_cell hb _ _ l31).trans f27
  have f36 : w_4.cell? ⟨w.heap.size, 2, none⟩ = some (.int .i64 s0c) := (below_cell hb _ _ l31).trans f28
  have f37 : w_4.cell? ⟨w.heap.size, 3, none⟩ = some (.int .i64 s0e) := (below_cell hb _ _ l31).trans f29
  have f38 : w_4.cell? ⟨w.heap.size, 4, none⟩ = some (.int .i64 s0f) := (below_cell hb _ _ l31).trans f30
  have l39 : w.heap.size < w_4.heap.size := Nat.lt_of_lt_of_le l31 (hb).size
  clear f26 f27 f28 f29 f30 l31
  have HB40 := Lib.hid (below_of HB32.out hb HB32.out.size)
  clear hb 
  go_wp2
  go_ret
  exact ⟨rfl, HB40.out⟩

set_option maxRecDepth 100000 in
theorem contract (H : Type) (enc : TypeId × Value → H) (W : World) (base : Nat) (args : Array Value) (ds gs : List (DataW H)) (before : List MemPlace)
    (hval : ∀ (j : Nat) t v, Try.f6.params[j]? = some t → args[j]? = some v → Value.okWide Try.prog W .any base t v)
    (hW : DataW.Whole enc Try.prog Try.f6.params.toList Rows.fnExactValidDemandSpec.vars false W args.toList ds gs before) :
    Calls Try.prog 6 args W fun e W' => ∃ v, e = .returned v ∧ Rows.fnExactValidDemandSpec.post enc Try.prog Try.f6 false true false false W args v W' := by
  have hW' := hW
  obtain ⟨p, q, hA0, hV, rfl, hfz, hnd⟩ := hW
  have hA : DataW.TrodAll enc Try.prog W 0 (fun _ => true) true Try.f6.params.toList args.toList ds p := hA0
  rw [Try.params6] at hA hval
  obtain ⟨v0, vs0, d0, ds0, p0, q0, hargs, rfl, rfl, h0, r0⟩ := trodAll_cons hA
  obtain ⟨rfl, rfl, rfl⟩ := trodAll_nil r0
  obtain rfl : args = #[v0] := by cases args; simp_all
  obtain ⟨rfl, rfl⟩ := trodVars_none hV
  simp only [List.append_nil] at hW'
  have hlt0 : ∀ x ∈ p0, x.block < W.heap.size := fun x hx => hW'.lt x (by simp [hx])
  have kept0 := fun (W2 : World) (hb : Below W.heap.size W W2) => Below.trod laidOut (by kernel_rfl) (of_decide_eq_true (by kernel_rfl)) h0 hb hlt0
  obtain ⟨s0a, s0b, s0c, s0e, s0f, rfl, w0⟩ := demand_arg (hval 0 49 v0 rfl rfl) h0
  clear hA0
  refine (walk s0a s0b s0c s0e s0f w0 W).mono fun e W' ⟨he, hg⟩ => ?_
  subst he
  refine ⟨_, rfl, post_at (pa := p0) (pv := []) hW' (by simp) hg (fun _ _ => (trodAll_cons_mk (shut_bool Try.underlying4 _) trodAll_mk0)) ?_ rfl⟩
  have hk := (trodAll_cons_mk (kept0 W' hg) trodAll_mk0)
  simp only [List.append_nil] at hk
  exact hk

set_option maxRecDepth 100000 in
theorem lifted (os : Os) (started : os.Started) (H : Type) (enc : TypeId × Value → H) :
    ReturnsInHanded {} Try.checked os 6 .any (Rows.fnExactValidDemandSpec.pre6 enc Try.prog Try.f6 Rows.fnExactValidDemandRow.domain false) (Rows.fnExactValidDemandSpec.post enc Try.prog Try.f6 false true false false) := by
  refine returnsInHanded_of_change (C := Try.checked) own started (by kernel_rfl) Try.func6
    (ChangeSpec.witness6 (enc := enc) (C := Try.checked) false ⟨#[], #[.agg #[.int .i64 0, .int .i64 0, .int .i64 0, .int .i64 0, .int .i64 0]], []⟩ 8 (by kernel_rfl) (by kernel_rfl) (by kernel_rfl) (by kernel_rfl)) ?_
  intro W base args ds gs before hval0 hW hcnd _
  have hval : ∀ (j : Nat) t v, Try.f6.params[j]? = some t → args[j]? = some v → Value.okWide Try.prog W .any base t v := hval0
  exact contract H enc W base args ds gs before hval hW

theorem over : Rows.fnExactValidDemandRow.holds Try.pinned (OpenSpec.ofChange Rows.fnExactValidDemandSpec) :=
  OpenClaim.holds_of_wide 6 Try.f6 rfl rfl rfl rfl rfl rfl rfl ⟨rfl, rfl, rfl, rfl, rfl⟩ rfl rfl rfl rfl rfl (by kernel_rfl) Try.func6 (by kernel_rfl)
    (of_decide_eq_true (by kernel_rfl)) (by unfold Func.isWrapper; first | (rw [if_pos (by decide +kernel)]; kernel_rfl) | (rw [if_neg (by decide +kernel)]; exact ⟨rfl, rfl⟩))
    (fun os started H enc _ => lifted os started H enc)
end Go.Proofs.Ytikoehjalcljnaa.fnExactValidDemand

namespace Go.Proofs.Ytikoehjalcljnaa
/-- The given statement. -/
theorem fnExactValidDemand_holds : Rows.FnExactValidDemandSaid := fnExactValidDemand.over
#print axioms fnExactValidDemand_holds
end Go.Proofs.Ytikoehjalcljnaa
