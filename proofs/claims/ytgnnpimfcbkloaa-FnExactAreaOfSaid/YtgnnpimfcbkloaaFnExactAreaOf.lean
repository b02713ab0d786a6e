/- The program's AreaOf answers as the reference model's at every ring, and changes nothing. -/
import Derived.Test.YtgnnpimfcbkloaaRows
import Derived.Test.YtgnnpimfcbkloaaBase
import Derived.Test.YtgnnpimfcbkloaaLaidOut
import Derived.Test.YtgnnpimfcbkloaaProfArg
import Derived.Test.YtgnnpimfcbkloaaMassRing2
namespace Go.Proofs.Ytgnnpimfcbkloaa.fnExactAreaOf
open Go.ChangeShapes Go.WideShapes Go.ChangeAt Go.RowKit
open Go.ChangeMaps (open_string shut_string)
set_option linter.unusedVariables false

theorem own : ownKnob Try.prog.godebug = none := by kernel_rfl

set_option maxHeartbeats 1000000 in
theorem walk (x y z : Int) (w0 : (Lit.int .i64 x).wf = true ∧ (Lit.int .i64 y).wf = true ∧ (Lit.int .i64 z).wf = true) (w : World) : Calls Try.prog 3 #[.agg #[.int .i64 x, .int .i64 y, .int .i64 z]] w fun e w' => e = .returned (.bool true) ∧ Below w.heap.size w w' := by
  go_enter Try.func3, Try.ntmps3
  go_wp2_with fail
  have hl0 := alloc_lt2 w (.cells #[.int .i64 x, .int .i64 y, .int .i64 z] 23)
  have b0 : (w.alloc (.cells #[.int .i64 x, .int .i64 y, .int .i64 z] 23)).cell? ⟨w.heap.size, 0, none⟩ = some (.int .i64 x) := by go_simp
  have b1 : (w.alloc (.cells #[.int .i64 x, .int .i64 y, .int .i64 z] 23)).cell? ⟨w.heap.size, 1, none⟩ = some (.int .i64 y) := by go_simp
  have b2 : (w.alloc (.cells #[.int .i64 x, .int .i64 y, .int .i64 z] 23)).cell? ⟨w.heap.size, 2, none⟩ = some (.int .i64 z) := by go_simp
  have HB0 := Lib.hid (below_al w (.cells #[.int .i64 x, .int .i64 y, .int .i64 z] 23))
  generalize w.alloc (.cells #[.int .i64 x, .int .i64 y, .int .i64 z] 23) = wA at *
  refine (toRing_any x y z _).mono ?_
  rintro e w1 ⟨rfl, hb⟩
  have d0 := (below_cell hb _ _ hl0).trans b0
  have d1 := (below_cell hb _ _ hl0).trans b1
  have d2 := (below_cell hb _ _ hl0).trans b2
  have hl1 := Nat.lt_of_lt_of_le hl0 hb.size
  have HB1 := Lib.hid (below_of HB0.out hb HB0.out.size)
  clear hb b0 b1 b2
  go_wp2_with fail
  refine (specAreaOf_any x y z _).mono ?_
  rintro e w2 ⟨rfl, hb⟩
  have f0 := (below_cell hb _ _ hl1).trans d0
  have f1 := (below_cell hb _ _ hl1).trans d1
  have f2 := (below_cell hb _ _ hl1).trans d2
  have HB2 := Lib.hid (below_of HB1.out hb HB1.out.size)
  clear hb d0 d1 d2
  go_wp2_with fail
  refine (toRing_any x y z _).mono ?_
  rintro e w3 ⟨rfl, hb⟩
  have HB3 := Lib.hid (below_of HB2.out hb HB2.out.size)
  clear hb f0 f1 f2
  go_wp2_with fail
  refine (implAreaOf_any x y z _).mono ?_
  rintro e w4 ⟨rfl, hb⟩
  have HB4 := Lib.hid (below_of HB3.out hb HB3.out.size)
  clear hb
  generalize areaV (x, y, z) = r0
  have hr0 : (r0 != r0) = false := by simp
  generalize codeR (x, y, z) = r1
  have hr1 : (r1 != r1) = false := by simp
  go_wp2
  go_ret
  exact ⟨rfl, HB4.out⟩

set_option maxRecDepth 100000 in
theorem contract (H : Type) (enc : TypeId × Value → H) (W : World) (base : Nat) (args : Array Value) (ds gs : List (DataW H)) (before : List MemPlace)
    (hval : ∀ (j : Nat) t v, Try.f3.params[j]? = some t → args[j]? = some v → Value.okWide Try.prog W .any base t v)
    (hW : DataW.Whole enc Try.prog Try.f3.params.toList Rows.fnExactAreaOfSpec.vars false W args.toList ds gs before) :
    Calls Try.prog 3 args W fun e W' => ∃ v, e = .returned v ∧ Rows.fnExactAreaOfSpec.post enc Try.prog Try.f3 false true false false W args v W' := by
  have hW' := hW
  obtain ⟨p, q, hA0, hV, rfl, hfz, hnd⟩ := hW
  have hA : DataW.TrodAll enc Try.prog W 0 (fun _ => true) true Try.f3.params.toList args.toList ds p := hA0
  rw [Try.params3] at hA hval
  obtain ⟨v0, vs0, d0, ds0, p0, q0, hargs, rfl, rfl, h0, r0⟩ := trodAll_cons hA
  obtain ⟨rfl, rfl, rfl⟩ := trodAll_nil r0
  obtain rfl : args = #[v0] := by cases args; simp_all
  obtain ⟨rfl, rfl⟩ := trodVars_none hV
  simp only [List.append_nil] at hW'
  have hlt0 : ∀ x ∈ p0, x.block < W.heap.size := fun x hx => hW'.lt x (by simp [hx])
  have kept0 := fun (W2 : World) (hb : Below W.heap.size W W2) => Below.trod laidOut (by kernel_rfl) (of_decide_eq_true (by kernel_rfl)) h0 hb hlt0
  obtain ⟨r0x, r0y, r0z, rfl, w0⟩ := ring_arg (hval 0 23 v0 rfl rfl) h0
  clear hA0
  refine (walk r0x r0y r0z w0 W).mono fun e W' ⟨he, hg⟩ => ?_
  subst he
  refine ⟨_, rfl, post_at (pa := p0) (pv := []) hW' (by simp) hg (fun _ _ => (trodAll_cons_mk (shut_bool Try.underlying4 _) trodAll_mk0)) ?_ rfl⟩
  have hk := (trodAll_cons_mk (kept0 W' hg) trodAll_mk0)
  simp only [List.append_nil] at hk
  exact hk

set_option maxRecDepth 100000 in
theorem lifted (os : Os) (started : os.Started) (H : Type) (enc : TypeId × Value → H) :
    ReturnsInHanded {} Try.checked os 3 .any (Rows.fnExactAreaOfSpec.pre6 enc Try.prog Try.f3 Rows.fnExactAreaOfRow.domain false) (Rows.fnExactAreaOfSpec.post enc Try.prog Try.f3 false true false false) := by
  refine returnsInHanded_of_change (C := Try.checked) own started (by kernel_rfl) Try.func3
    (ChangeSpec.witness6 (enc := enc) (C := Try.checked) false ⟨#[], #[.agg #[.int .i64 0, .int .i64 0, .int .i64 0]], []⟩ 8 (by kernel_rfl) (by kernel_rfl) (by kernel_rfl) (by kernel_rfl)) ?_
  intro W base args ds gs before hval0 hW hcnd _
  have hval : ∀ (j : Nat) t v, Try.f3.params[j]? = some t → args[j]? = some v → Value.okWide Try.prog W .any base t v := hval0
  exact contract H enc W base args ds gs before hval hW

theorem over : Rows.fnExactAreaOfRow.holds Try.pinned (OpenSpec.ofChange Rows.fnExactAreaOfSpec) :=
  OpenClaim.holds_of_wide 3 Try.f3 rfl rfl rfl rfl rfl rfl rfl ⟨rfl, rfl, rfl, rfl, rfl⟩ rfl rfl rfl rfl rfl (by kernel_rfl) Try.func3 (by kernel_rfl)
    (of_decide_eq_true (by kernel_rfl)) (by unfold Func.isWrapper; first | (rw [if_pos (by decide +kernel)]; kernel_rfl) | (rw [if_neg (by decide +kernel)]; exact ⟨rfl, rfl⟩))
    (fun os started H enc _ => lifted os started H enc)
end Go.Proofs.Ytgnnpimfcbkloaa.fnExactAreaOf

namespace Go.Proofs.Ytgnnpimfcbkloaa
/-- The given statement. -/
theorem fnExactAreaOf_holds : Rows.FnExactAreaOfSaid := fnExactAreaOf.over
#print axioms fnExactAreaOf_holds
end Go.Proofs.Ytgnnpimfcbkloaa
