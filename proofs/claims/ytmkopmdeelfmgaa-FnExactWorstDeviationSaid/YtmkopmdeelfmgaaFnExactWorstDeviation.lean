/- At every list of numbers, FnExactWorstDeviation returns true and leaves the memory as it was: WorstDeviation answers as the reference model. -/
import Derived.Test.YtmkopmdeelfmgaaRows
import Derived.Test.YtmkopmdeelfmgaaBase
import Derived.Test.YtmkopmdeelfmgaaLaidOut
import Derived.Test.YtmkopmdeelfmgaaWorst
namespace Go.Proofs.Ytmkopmdeelfmgaa.fnExactWorstDeviation
open Go.ChangeShapes Go.WideShapes Go.ChangeAt Go.RowKit
open Go.ChangeMaps (open_string shut_string)
set_option linter.unusedVariables false

theorem own : ownKnob Try.prog.godebug = none := by kernel_rfl

set_option maxHeartbeats 1000000 in
theorem walk (a : Option Addr) (len cap : Nat) (w0 : len ≤ 9223372036854775807) (w : World) (hI : len ≤ 1048576 → ∃ zs : List Int, zs.length = len ∧ IntsAt w (.slice a len cap) zs ∧ ∀ z ∈ zs, (Lit.int .i64 z).wf = true) :
    Calls Try.prog 9 #[.slice a len cap] w fun e w' => e = .returned (.bool true) ∧ Below w.heap.size w w' := by
  by_cases hbig : 1048576 < len
  · clear hI
    go_enter Try.func9, Try.ntmps9
    go_wp2
    go_ret
    exact ⟨rfl, Below.refl _ _⟩
  · obtain ⟨zs, hlen, hzs, hwf⟩ := hI (by omega)
    have HL := Lib.hid hlen
    have HZ := Lib.hid hzs
    clear hI hlen hzs hwf
    go_enter Try.func9, Try.ntmps9
    go_wp2_with fail
    refine (toInts_any zs _ _ HZ.out).mono ?_
    rintro e w1 ⟨v1, rfl, ⟨g1, c1, rfl, hB1, hlt1, hown1⟩, hb1⟩
    rw [HL.out] at hown1
    rw [HL.out]
    have HO1 := Lib.hid hown1
    have HB1 := Lib.hid hb1
    clear hown1 hb1
    go_wp2_with fail
    refine (specWorst_any zs g1 0 len c1 _ HL (by omega) (own_cells HL.out HO1.out)).mono ?_
    rintro e w2 ⟨rfl, hb2⟩
    have HB2 := Lib.hid (below_of HB1.out hb2 HB1.out.size)
    clear hb2
    go_wp2_with fail
    refine (toInts_any zs _ _ (ints_kept HB2.out HZ.out)).mono ?_
    rintro e w3 ⟨v3, rfl, ⟨g3, c3, rfl, hB3, hlt3, hown3⟩, hb3⟩
    rw [HL.out] at hown3
    rw [HL.out]
    have HO3 := Lib.hid hown3
    have HB3 := Lib.hid (below_of HB2.out hb3 HB2.out.size)
    clear hown3 hb3
    go_wp2_with fail
    refine (implWorst_any zs g3 0 len c3 _ HL (by omega) (own_cells HL.out HO3.out)).mono ?_
    rintro e w4 ⟨rfl, hb4⟩
    have HO4 := Lib.hid (row_keep5 hb4 HO3.out)
    have HB4 := Lib.hid (below_of HB3.out hb4 HB3.out.size)
    clear hb4
    generalize wdK zs = k
    generalize wdV zs = r
    generalize wdC zs = c
    have hk : (k != k) = false := by simp
    have hr : (r != r) = false := by simp
    have hc : (c != c) = false := by simp
    go_wp2_with fail
    refine (toInts_any zs _ _ (ints_kept HB4.out HZ.out)).mono ?_
    rintro e w5 ⟨v5, rfl, ⟨g5, c5, rfl, hB5, hlt5, hown5⟩, hb5⟩
    rw [HL.out] at hown5
    rw [HL.out]
    have HO5 := Lib.hid hown5
    have HO6 := Lib.hid (row_keep5 hb5 HO4.out)
    have HB5 := Lib.hid (below_of HB4.out hb5 HB4.out.size)
    clear hown5 hb5
    go_wp2_with fail
    refine (eqInts_some zs g3 0 c3 g5 0 c5 _ len (by omega) (own_cells HL.out HO6.out) (own_cells HL.out HO5.out)).mono ?_
    rintro e w7 ⟨rfl, hb7⟩
    have HB7 := Lib.hid (below_of HB5.out hb7 HB5.out.size)
    clear hb7
    go_wp2
    go_ret
    exact ⟨rfl, HB7.out⟩

set_option maxRecDepth 100000 in
theorem contract (H : Type) (enc : TypeId × Value → H) (W : World) (base : Nat) (args : Array Value) (ds gs : List (DataW H)) (before : List MemPlace)
    (hval : ∀ (j : Nat) t v, Try.f9.params[j]? = some t → args[j]? = some v → Value.okWide Try.prog W .any base t v)
    (hW : DataW.Whole enc Try.prog Try.f9.params.toList Rows.fnExactWorstDeviationSpec.vars false W args.toList ds gs before) :
    Calls Try.prog 9 args W fun e W' => ∃ v, e = .returned v ∧ Rows.fnExactWorstDeviationSpec.post enc Try.prog Try.f9 false true false false W args v W' := by
  have hW' := hW
  obtain ⟨p, q, hA0, hV, rfl, hfz, hnd⟩ := hW
  have hA : DataW.TrodAll enc Try.prog W 0 (fun _ => true) true Try.f9.params.toList args.toList ds p := hA0
  rw [Try.params9] at hA hval
  obtain ⟨v0, vs0, d0, ds0, p0, q0, hargs, rfl, rfl, h0, r0⟩ := trodAll_cons hA
  obtain ⟨rfl, rfl, rfl⟩ := trodAll_nil r0
  obtain rfl : args = #[v0] := by cases args; simp_all
  obtain ⟨rfl, rfl⟩ := trodVars_none hV
  simp only [List.append_nil] at hW'
  have hlt0 : ∀ x ∈ p0, x.block < W.heap.size := fun x hx => hW'.lt x (by simp [hx])
  have kept0 := fun (W2 : World) (hb : Below W.heap.size W W2) => Below.trod laidOut (by kernel_rfl) (of_decide_eq_true (by kernel_rfl)) h0 hb hlt0
  obtain ⟨a0, len0, cap0, rfl⟩ := okWide_slice Try.underlying36 (hval 0 36 v0 rfl rfl)
  obtain ⟨fuel0, hf0⟩ := h0
  obtain ⟨w0, hI0⟩ := ints_arg hf0 hlt0
  clear hA0
  refine (walk a0 len0 cap0 w0 W hI0).mono fun e W' ⟨he, hg⟩ => ?_
  subst he
  refine ⟨_, rfl, post_at (pa := p0) (pv := []) hW' (by simp) hg (fun _ _ => (trodAll_cons_mk (shut_bool Try.underlying4 _) trodAll_mk0)) ?_ rfl⟩
  have hk := (trodAll_cons_mk (kept0 W' hg) trodAll_mk0)
  simp only [List.append_nil] at hk
  exact hk

set_option maxRecDepth 100000 in
theorem lifted (os : Os) (started : os.Started) (H : Type) (enc : TypeId × Value → H) :
    ReturnsInHanded {} Try.checked os 9 .any (Rows.fnExactWorstDeviationSpec.pre6 enc Try.prog Try.f9 Rows.fnExactWorstDeviationRow.domain false) (Rows.fnExactWorstDeviationSpec.post enc Try.prog Try.f9 false true false false) := by
  refine returnsInHanded_of_change (C := Try.checked) own started (by kernel_rfl) Try.func9
    (ChangeSpec.witness6 (enc := enc) (C := Try.checked) false ⟨#[], #[.slice none 0 0], []⟩ 8 (by kernel_rfl) (by kernel_rfl) (by kernel_rfl) (by kernel_rfl)) ?_
  intro W base args ds gs before hval0 hW hcnd _
  have hval : ∀ (j : Nat) t v, Try.f9.params[j]? = some t → args[j]? = some v → Value.okWide Try.prog W .any base t v := hval0
  exact contract H enc W base args ds gs before hval hW

theorem over : Rows.fnExactWorstDeviationRow.holds Try.pinned (OpenSpec.ofChange Rows.fnExactWorstDeviationSpec) :=
  OpenClaim.holds_of_wide 9 Try.f9 rfl rfl rfl rfl rfl rfl rfl ⟨rfl, rfl, rfl, rfl, rfl⟩ rfl rfl rfl rfl rfl (by kernel_rfl) Try.func9 (by kernel_rfl)
    (of_decide_eq_true (by kernel_rfl)) (by unfold Func.isWrapper; first | (rw [if_pos (by decide +kernel)]; kernel_rfl) | (rw [if_neg (by decide +kernel)]; exact ⟨rfl, rfl⟩))
    (fun os started H enc _ => lifted os started H enc)
end Go.Proofs.Ytmkopmdeelfmgaa.fnExactWorstDeviation

namespace Go.Proofs.Ytmkopmdeelfmgaa
/-- The given statement. -/
theorem fnExactWorstDeviation_holds : Rows.FnExactWorstDeviationSaid := fnExactWorstDeviation.over
#print axioms fnExactWorstDeviation_holds
end Go.Proofs.Ytmkopmdeelfmgaa
