/- At every argument ValidMeasures answers as its model, and its arguments are as they were. -/
import Derived.Test.YtfleececlafjkaaRows
import Derived.Test.YtfleececlafjkaaBase
import Derived.Test.YtfleececlafjkaaLaidOut
import Derived.Test.YtfleececlafjkaaMeaArg
namespace Go.Proofs.Ytfleececlafjkaa.fnExactValidMeasures
open Go.ChangeShapes Go.WideShapes Go.ChangeAt Go.RowKit
open Go.ChangeMaps (open_string shut_string)
set_option linter.unusedVariables false

theorem own : ownKnob Try.prog.godebug = none := by kernel_rfl

set_option maxRecDepth 100000 in
set_option maxHeartbeats 4000000 in
theorem walk (p0 : Option Addr) (len0 cap0 : Nat) (w0 : len0 ≤ 9223372036854775807) (w : World) (hI0 : len0 ≤ 1048576 → ∃ zs : List Mt, zs.length = len0 ∧ MeasAt w (.slice p0 len0 cap0) zs ∧ SzOk zs) :
    Calls Try.prog 10 #[.slice p0 len0 cap0] w fun e w' => e = .returned (.bool true) ∧ Below w.heap.size w w' := by
  by_cases hbig : len0 ≤ 1048576
  · obtain ⟨zs, hz, hzs, hsz⟩ := hI0 hbig
    have HY := Lib.hid hzs
    have HZL := Lib.hid (show zs.length ≤ 1048576 by omega)
    have HSZ := Lib.hid hsz
    have HC := Lib.hid (szMeas_any zs _ w hzs hsz)
    rw [hz] at HC
    clear hI0 hzs hsz hz
    by_cases hT : len0 + lenM zs len0 ≤ 1048576
    · have HL := Lib.hid (leftS_yes hT)
      generalize lenM zs len0 = q at *
      have hp : ¬ (1048576 : Int) - len0 - q < 0 := by omega
      go_enter Try.func10, Try.ntmps10
      go_wp2_with fail
      refine HC.out.mono ?_
      rintro e w1 ⟨rfl, hb⟩
      rw [HL.out]
      have HB1 := Lib.hid hb
      clear hb
      go_wp2_with fail
      refine (toMeas_any zs _ _ (meas_kept HB1.out HY.out)).mono ?_
      rintro e w2 ⟨v1, rfl, ho, hb⟩
      have HO1 := Lib.hid (own_meas HZL.out ho)
      have HB2 := Lib.hid (below_of HB1.out hb HB1.out.size)
      clear ho hb
      go_wp2_with fail
      refine (specVM_any zs v1 _ HO1.out HSZ.out).mono ?_
      rintro e w3 ⟨rfl, hb⟩
      have HB3 := Lib.hid (below_of HB2.out hb HB2.out.size)
      clear hb
      obtain ⟨r, hr⟩ : ∃ r, measB zs = r := ⟨_, rfl⟩
      have HR := Lib.hid hr
      rw [hr]
      clear hr
      have hne : (r != r) = false := by simp
      go_wp2_with fail
      refine (toMeas_any zs _ _ (meas_kept HB3.out HY.out)).mono ?_
      rintro e w4 ⟨v2, rfl, ho, hb⟩
      have HO2 := Lib.hid (own_meas HZL.out ho)
      have HB4 := Lib.hid (below_of HB3.out hb HB3.out.size)
      clear ho hb
      go_wp2_with fail
      refine (implVM_any zs v2 _ HO2.out HSZ.out).mono ?_
      rw [HR.out]
      rintro e w5 ⟨rfl, hb⟩
      have HO3 := Lib.hid (meas_kept hb HO2.out)
      have HB5 := Lib.hid (below_of HB4.out hb HB4.out.size)
      clear hb
      go_wp2_with fail
      refine (toMeas_any zs _ _ (meas_kept HB5.out HY.out)).mono ?_
      rintro e w6 ⟨v3, rfl, ho, hb⟩
      have HO4 := Lib.hid (own_meas HZL.out ho)
      have HO5 := Lib.hid (meas_kept hb HO3.out)
      have HB6 := Lib.hid (below_of HB5.out hb HB5.out.size)
      clear ho hb
      go_wp2_with fail
      refine (eqMeas_at zs v2 v3 _ HO5.out HO4.out).mono ?_
      rintro e w7 ⟨rfl, hb⟩
      have HB7 := Lib.hid (below_of HB6.out hb HB6.out.size)
      clear hb
      go_wp2
      go_ret
      exact ⟨rfl, HB7.out⟩
    · have HL := Lib.hid (leftS_no hT)
      go_enter Try.func10, Try.ntmps10
      go_wp2_with fail
      refine HC.out.mono ?_
      rintro e w1 ⟨rfl, hb⟩
      rw [HL.out]
      have HB1 := Lib.hid hb
      clear hb
      go_wp2
      go_ret
      exact ⟨rfl, HB1.out⟩
  · clear hI0
    go_enter Try.func10, Try.ntmps10
    go_wp2_with fail
    refine (szMeas_big p0 len0 cap0 w w0 (by omega)).mono ?_
    rintro e w1 ⟨rfl, hb⟩
    have HB1 := Lib.hid hb
    clear hb
    go_wp2
    go_ret
    exact ⟨rfl, HB1.out⟩

set_option maxRecDepth 100000 in
theorem contract (H : Type) (enc : TypeId × Value → H) (W : World) (base : Nat) (args : Array Value) (ds gs : List (DataW H)) (before : List MemPlace)
    (hval : ∀ (j : Nat) t v, Try.f10.params[j]? = some t → args[j]? = some v → Value.okWide Try.prog W .any base t v)
    (hW : DataW.Whole enc Try.prog Try.f10.params.toList Rows.fnExactValidMeasuresSpec.vars false W args.toList ds gs before) :
    Calls Try.prog 10 args W fun e W' => ∃ v, e = .returned v ∧ Rows.fnExactValidMeasuresSpec.post enc Try.prog Try.f10 false true false false W args v W' := by
  have hW' := hW
  obtain ⟨p, q, hA0, hV, rfl, hfz, hnd⟩ := hW
  have hA : DataW.TrodAll enc Try.prog W 0 (fun _ => true) true Try.f10.params.toList args.toList ds p := hA0
  rw [Try.params10] at hA hval
  obtain ⟨v0, vs0, d0, ds0, p0, q0, hargs, rfl, rfl, h0, r0⟩ := trodAll_cons hA
  obtain ⟨rfl, rfl, rfl⟩ := trodAll_nil r0
  obtain rfl : args = #[v0] := by cases args; simp_all
  obtain ⟨rfl, rfl⟩ := trodVars_none hV
  simp only [List.append_nil] at hW'
  have hlt0 : ∀ x ∈ p0, x.block < W.heap.size := fun x hx => hW'.lt x (by simp [hx])
  have kept0 := fun (W2 : World) (hb : Below W.heap.size W W2) => Below.trod laidOut (by kernel_rfl) (of_decide_eq_true (by kernel_rfl)) h0 hb hlt0
  obtain ⟨a0, len0, cap0, rfl⟩ := okWide_slice Try.underlying50 (hval 0 50 v0 rfl rfl)
  obtain ⟨fuel0, hf0⟩ := h0
  obtain ⟨w0, hI0⟩ := meas_arg hf0 hlt0
  clear hA0
  refine (walk a0 len0 cap0 w0 W hI0).mono fun e W' ⟨he, hg⟩ => ?_
  subst he
  refine ⟨_, rfl, post_at (pa := p0) (pv := []) hW' (by simp) hg (fun _ _ => (trodAll_cons_mk (shut_bool Try.underlying4 _) trodAll_mk0)) ?_ rfl⟩
  have hk := (trodAll_cons_mk (kept0 W' hg) trodAll_mk0)
  simp only [List.append_nil] at hk
  exact hk

set_option maxRecDepth 100000 in
theorem lifted (os : Os) (started : os.Started) (H : Type) (enc : TypeId × Value → H) :
    ReturnsInHanded {} Try.checked os 10 .any (Rows.fnExactValidMeasuresSpec.pre6 enc Try.prog Try.f10 Rows.fnExactValidMeasuresRow.domain false) (Rows.fnExactValidMeasuresSpec.post enc Try.prog Try.f10 false true false false) := by
  refine returnsInHanded_of_change (C := Try.checked) own started (by kernel_rfl) Try.func10
    (ChangeSpec.witness6 (enc := enc) (C := Try.checked) false ⟨#[], #[.slice none 0 0], []⟩ 8 (by kernel_rfl) (by kernel_rfl) (by kernel_rfl) (by kernel_rfl)) ?_
  intro W base args ds gs before hval0 hW hcnd _
  have hval : ∀ (j : Nat) t v, Try.f10.params[j]? = some t → args[j]? = some v → Value.okWide Try.prog W .any base t v := hval0
  exact contract H enc W base args ds gs before hval hW

theorem over : Rows.fnExactValidMeasuresRow.holds Try.pinned (OpenSpec.ofChange Rows.fnExactValidMeasuresSpec) :=
  OpenClaim.holds_of_wide 10 Try.f10 rfl rfl rfl rfl rfl rfl rfl ⟨rfl, rfl, rfl, rfl, rfl⟩ rfl rfl rfl rfl rfl (by kernel_rfl) Try.func10 (by kernel_rfl)
    (of_decide_eq_true (by kernel_rfl)) (by unfold Func.isWrapper; first | (rw [if_pos (by decide +kernel)]; kernel_rfl) | (rw [if_neg (by decide +kernel)]; exact ⟨rfl, rfl⟩))
    (fun os started H enc _ => lifted os started H enc)
end Go.Proofs.Ytfleececlafjkaa.fnExactValidMeasures

namespace Go.Proofs.Ytfleececlafjkaa
/-- The given statement. -/
theorem fnExactValidMeasures_holds : Rows.FnExactValidMeasuresSaid := fnExactValidMeasures.over
#print axioms fnExactValidMeasures_holds
end Go.Proofs.Ytfleececlafjkaa
