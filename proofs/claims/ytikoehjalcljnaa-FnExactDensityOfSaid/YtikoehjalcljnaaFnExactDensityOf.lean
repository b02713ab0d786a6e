/- At every argument DensityOf answers as its model, and its arguments are as they were. -/
import Derived.Test.YtikoehjalcljnaaRows
import Derived.Test.YtikoehjalcljnaaBase
import Derived.Test.YtikoehjalcljnaaLaidOut
import Derived.Test.YtikoehjalcljnaaIngArg
import Derived.Test.YtikoehjalcljnaaTin
namespace Go.Proofs.Ytikoehjalcljnaa.fnExactDensityOf
open Go.ChangeShapes Go.WideShapes Go.ChangeAt Go.RowKit
open Go.ChangeMaps (open_string shut_string)
set_option linter.unusedVariables false

theorem own : ownKnob Try.prog.godebug = none := by kernel_rfl

set_option maxRecDepth 100000 in
set_option maxHeartbeats 8000000 in
theorem walk (s0x s0y s0z : Int) (w0 : (Lit.int .i64 s0x).wf = true ∧ (Lit.int .i64 s0y).wf = true ∧ (Lit.int .i64 s0z).wf = true) (w : World) :
    Calls Try.prog 9 #[.agg #[.int .i64 s0x, .int .i64 s0y, .int .i64 s0z]] w fun e w' => e = .returned (.bool true) ∧ Below w.heap.size w w' := by
  have hw0 := Lib.hid w0
  clear w0
  obtain ⟨r0, r1, hsp, him⟩ : ∃ (r0 : Int) (r1 : Int), (∀ w, Calls Try.prog 39 #[.agg #[.int .i64 s0x, .int .i64 s0y, .int .i64 s0z]] w (fun e w' => e = .returned (.tuple #[.int .i64 r0, .int .i64 r1]) ∧ Below w.heap.size w w')) ∧ (∀ w, Calls Try.prog 40 #[.agg #[.int .i64 s0x, .int .i64 s0y, .int .i64 s0z]] w (fun e w' => e = .returned (.tuple #[.int .i64 r0, .int .i64 r1]) ∧ Below w.heap.size w w')) :=
    ⟨denV s0x s0y s0z, invC (alloyB s0x s0y s0z), fun w => specDen_any s0x s0y s0z w, fun w => implDen_any s0x s0y s0z w⟩
  have hrr0 : (r0 != r0) = false := by simp
  have hrr1 : (r1 != r1) = false := by simp
  have HSP := Lib.hid hsp
  have HIM := Lib.hid him
  clear hsp him
  go_enter Try.func9, Try.ntmps9
  have f1 : (w.alloc (.cells #[.int .i64 s0x, .int .i64 s0y, .int .i64 s0z] 36)).cell? ⟨w.heap.size, 0, none⟩ = some (.int .i64 s0x) := by go_simp
  have f2 : (w.alloc (.cells #[.int .i64 s0x, .int .i64 s0y, .int .i64 s0z] 36)).cell? ⟨w.heap.size, 1, none⟩ = some (.int .i64 s0y) := by go_simp
  have f3 : (w.alloc (.cells #[.int .i64 s0x, .int .i64 s0y, .int .i64 s0z] 36)).cell? ⟨w.heap.size, 2, none⟩ = some (.int .i64 s0z) := by go_simp
  have l4 : w.heap.size < (w.alloc (.cells #[.int .i64 s0x, .int .i64 s0y, .int .i64 s0z] 36)).heap.size := by simp
  have S5 : w.heap.size + 1 ≤ (w.alloc (.cells #[.int .i64 s0x, .int .i64 s0y, .int .i64 s0z] 36)).heap.size := by simp <;> omega
  have HB6 := Lib.hid ((below_alG w (.cells #[.int .i64 s0x, .int .i64 s0y, .int .i64 s0z] 36)))
  go_wp2_with fail
  generalize (w.alloc (.cells #[.int .i64 s0x, .int .i64 s0y, .int .i64 s0z] 36)) = wb at *
  refine (toAlloy_any s0x s0y s0z _).mono ?_
  rintro e w_1 ⟨rfl, hb⟩
  have S7 : wb.heap.size ≤ w_1.heap.size := (hb).size
  have f8 : w_1.cell? ⟨w.heap.size, 0, none⟩ = some (.int .i64 s0x) := (below_cell hb _ _ l4).trans f1
  have f9 : w_1.cell? ⟨w.heap.size, 1, none⟩ = some (.int .i64 s0y) := (below_cell hb _ _ l4).trans f2
  have f10 : w_1.cell? ⟨w.heap.size, 2, none⟩ = some (.int .i64 s0z) := (below_cell hb _ _ l4).trans f3
  have l11 : w.heap.size < w_1.heap.size := Nat.lt_of_lt_of_le l4 (hb).size
  clear f1 f2 f3 l4
  have HB12 := Lib.hid (below_of HB6.out hb HB6.out.size)
  clear hb 
  go_wp2_with fail
  refine (HSP.out _).mono ?_
  rintro e w_2 ⟨rfl, hb⟩
  have S13 : w_1.heap.size ≤ w_2.heap.size := (hb).size
  have f14 : w_2.cell? ⟨w.heap.size, 0, none⟩ = some (.int .i64 s0x) := (below_cell hb _ _ l11).trans f8
  have f15 : w_2.cell? ⟨w.heap.size, 1, none⟩ = some (.int .i64 s0y) := (below_cell hb _ _ l11).trans f9
  have f16 : w_2.cell? ⟨w.heap.size, 2, none⟩ = some (.int .i64 s0z) := (below_cell hb _ _ l11).trans f10
  have l17 : w.heap.size < w_2.heap.size := Nat.lt_of_lt_of_le l11 (hb).size
  clear f8 f9 f10 l11
  have HB18 := Lib.hid (below_of HB12.out hb HB12.out.size)
  clear hb 
  go_wp2_with fail
  refine (toAlloy_any s0x s0y s0z _).mono ?_
  rintro e w_3 ⟨rfl, hb⟩
  have S19 : w_2.heap.size ≤ w_3.heap.size := (hb).size
  have f20 : w_3.cell? ⟨w.heap.size, 0, none⟩ = some (.int .i64 s0x) := (below_cell hb _ _ l17).trans f14
  have f21 : w_3.cell? ⟨w.heap.size, 1, none⟩ = some (.int .i64 s0y) := (below_cell hb _ _ l17).trans f15
  have f22 : w_3.cell? ⟨w.heap.size, 2, none⟩ = some (.int .i64 s0z) := (below_cell hb _ _ l17).trans f16
  have l23 : w.heap.size < w_3.heap.size := Nat.lt_of_lt_of_le l17 (hb).size
  clear f14 f15 f16 l17
  have HB24 := Lib.hid (below_of HB18.out hb HB18.out.size)
  clear hb 
  go_wp2_with fail
  refine (HIM.out _).mono ?_
  rintro e w_4 ⟨rfl, hb⟩
  have S25 : w_3.heap.size ≤ w_4.heap.size := (hb).size
  have f26 : w_4.cell? ⟨w.heap.size, 0, none⟩ = some (.int .i64 s0x) := (below_cell hb _ _ l23).trans f20
  have f27 : w_4.cell? ⟨w.heap.size, 1, none⟩ = some (.int .i64 s0y) := (below_cell hb _ _ l23).trans f21
  have f28 : w_4.cell? ⟨w.heap.size, 2, none⟩ = some (.int .i64 s0z) := (below_cell hb _ _ l23).trans f22
  have l29 : w.heap.size < w_4.heap.size := Nat.lt_of_lt_of_le l23 (hb).size
  clear f20 f21 f22 l23
  have HB30 := Lib.hid (below_of HB24.out hb HB24.out.size)
  clear hb 
  go_wp2
  go_ret
  exact ⟨rfl, HB30.out⟩

set_option maxRecDepth 100000 in
theorem contract (H : Type) (enc : TypeId × Value → H) (W : World) (base : Nat) (args : Array Value) (ds gs : List (DataW H)) (before : List MemPlace)
    (hval : ∀ (j : Nat) t v, Try.f9.params[j]? = some t → args[j]? = some v → Value.okWide Try.prog W .any base t v)
    (hW : DataW.Whole enc Try.prog Try.f9.params.toList Rows.fnExactDensityOfSpec.vars false W args.toList ds gs before) :
    Calls Try.prog 9 args W fun e W' => ∃ v, e = .returned v ∧ Rows.fnExactDensityOfSpec.post enc Try.prog Try.f9 false true false false W args v W' := by
  have hW' := hW
  obtain ⟨p, q, hA0, hV, rfl, hfz, hnd⟩ := hW
  have hA : DataW.TrodAll enc Try.prog W 0 (fun _ => true) true Try.f9.params.toList args.toList ds p := hA0
  rw [Try.params9] at hA hval
  obtain ⟨v0, vs0, d0, ds0, p0, q0, hargs, rfl, rfl, h0, r0⟩ := trodAll_cons hA
  obtain ⟨rfl, rfl, rfl⟩ := trodAll_nil r0
  obtain rfl : args = #[v0] := by cases args; simp_all
  obtain ⟨rfl, rfl⟩ := trodVars_none hV
  simp only [List.append_nil] at hW'
  have hlt0 : ∀ x ∈ p0, x.block < W.heap.size := fun x hx => hW'.lt x (by simp [hx])
  have kept0 := fun (W2 : World) (hb : Below W.heap.size W W2) => Below.trod laidOut (by kernel_rfl) (of_decide_eq_true (by kernel_rfl)) h0 hb hlt0
  obtain ⟨s0x, s0y, s0z, rfl, w0⟩ := alloy_arg (hval 0 36 v0 rfl rfl) h0
  clear hA0
  refine (walk s0x s0y s0z w0 W).mono fun e W' ⟨he, hg⟩ => ?_
  subst he
  refine ⟨_, rfl, post_at (pa := p0) (pv := []) hW' (by simp) hg (fun _ _ => (trodAll_cons_mk (shut_bool Try.underlying4 _) trodAll_mk0)) ?_ rfl⟩
  have hk := (trodAll_cons_mk (kept0 W' hg) trodAll_mk0)
  simp only [List.append_nil] at hk
  exact hk

set_option maxRecDepth 100000 in
theorem lifted (os : Os) (started : os.Started) (H : Type) (enc : TypeId × Value → H) :
    ReturnsInHanded {} Try.checked os 9 .any (Rows.fnExactDensityOfSpec.pre6 enc Try.prog Try.f9 Rows.fnExactDensityOfRow.domain false) (Rows.fnExactDensityOfSpec.post enc Try.prog Try.f9 false true false false) := by
  refine returnsInHanded_of_change (C := Try.checked) own started (by kernel_rfl) Try.func9
    (ChangeSpec.witness6 (enc := enc) (C := Try.checked) false ⟨#[], #[.agg #[.int .i64 0, .int .i64 0, .int .i64 0]], []⟩ 8 (by kernel_rfl) (by kernel_rfl) (by kernel_rfl) (by kernel_rfl)) ?_
  intro W base args ds gs before hval0 hW hcnd _
  have hval : ∀ (j : Nat) t v, Try.f9.params[j]? = some t → args[j]? = some v → Value.okWide Try.prog W .any base t v := hval0
  exact contract H enc W base args ds gs before hval hW

theorem over : Rows.fnExactDensityOfRow.holds Try.pinned (OpenSpec.ofChange Rows.fnExactDensityOfSpec) :=
  OpenClaim.holds_of_wide 9 Try.f9 rfl rfl rfl rfl rfl rfl rfl ⟨rfl, rfl, rfl, rfl, rfl⟩ rfl rfl rfl rfl rfl (by kernel_rfl) Try.func9 (by kernel_rfl)
    (of_decide_eq_true (by kernel_rfl)) (by unfold Func.isWrapper; first | (rw [if_pos (by decide +kernel)]; kernel_rfl) | (rw [if_neg (by decide +kernel)]; exact ⟨rfl, rfl⟩))
    (fun os started H enc _ => lifted os started H enc)
end Go.Proofs.Ytikoehjalcljnaa.fnExactDensityOf

namespace Go.Proofs.Ytikoehjalcljnaa
/-- The given statement. -/
theorem fnExactDensityOf_holds : Rows.FnExactDensityOfSaid := fnExactDensityOf.over
#print axioms fnExactDensityOf_holds
end Go.Proofs.Ytikoehjalcljnaa
