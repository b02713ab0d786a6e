/- At every argument ValidMelts answers as its model, and its arguments are as they were. -/
import Derived.Test.YtjicnfgpbbganaaRows
import Derived.Test.YtjicnfgpbbganaaBase
import Derived.Test.YtjicnfgpbbganaaLaidOut
import Derived.Test.YtjicnfgpbbganaaMeltsI
import Derived.Deep.RegionHeld3
namespace Go.Proofs.Ytjicnfgpbbganaa.fnExactValidMelts
open Go.ChangeShapes Go.WideShapes Go.ChangeAt Go.RowKit
open Go.ChangeMaps (open_string shut_string)
set_option linter.unusedVariables false

theorem own : ownKnob Try.prog.godebug = none := by kernel_rfl

set_option maxRecDepth 100000 in
set_option maxHeartbeats 8000000 in
theorem walk (p0 : Option Addr) (len0 cap0 : Nat) (w0 : len0 ≤ 9223372036854775807) (w : World) (hI0 : MlArg w (.slice p0 len0 cap0)) :
    Calls Try.prog 4 #[.slice p0 len0 cap0] w fun e w' => e = .returned (.bool true) ∧ Below w.heap.size w w' := by
  have hlen0 := w0
  clear w0
  obtain ⟨N0, hsz0, hmk0⟩ := hI0
  have HSZ0 := Lib.hid hsz0
  clear hsz0
  by_cases hbig0 : (N0) ≤ 1048576
  · obtain ⟨T1, hT1⟩ : ∃ T, (N0) = T := ⟨_, rfl⟩
    have HL0 := Lib.hid (show leftK N0 (1048576) = 1048576 - (T1 : Int) by rw [leftK_yes (by omega)]; omega)
    have hTb1 : T1 ≤ 1048576 := by omega
    obtain ⟨z0, hma0, hml0, hmi0⟩ := hmk0 (by omega)
    have HY0 := Lib.hid hma0
    have HSO0 := Lib.hid hmi0
    have HYL0 := Lib.hid (And.intro hml0 (fun j hj => (hmi0 j hj).1))
    clear hma0 hml0 hmi0 hmk0
    clear hT1 hbig0
    obtain ⟨r0, hsp, him⟩ : ∃ (r0 : Bool), (∀ u0 w, MeltsAt w u0 z0 → Calls Try.prog 13 #[u0] w (fun e w' => e = .returned (.bool r0) ∧ Below w.heap.size w w')) ∧ (∀ u0 w, MeltsAt w u0 z0 → Calls Try.prog 15 #[u0] w (fun e w' => e = .returned (.bool r0) ∧ Below w.heap.size w w')) :=
      ⟨meltsB z0, fun u0 w h => specVMs_any z0 u0 w h HSO0.out, fun u0 w h => implVMs_any z0 u0 w h HSO0.out⟩
    have hrr0 : (r0 != r0) = false := by simp
    have HSP := Lib.hid hsp
    have HIM := Lib.hid him
    clear hsp him
    go_enter Try.func4, Try.ntmps4
    go_wp2_with fail
    refine (szMelts_any _ N0 (1048576) _ (szMl_kept (Below.refl _ _) HSZ0.out) (by omega) (by omega)).mono ?_
    rintro e w_1 ⟨rfl, hb⟩
    rw [HL0.out]
    have S1 : w.heap.size ≤ w_1.heap.size := (hb).size
    have HB2 := Lib.hid (hb)
    clear hb 
    go_wp2_with fail
    refine (toMelts_any z0 _ _ (melts_kept HB2.out HY0.out)).mono ?_
    rintro e w_2 ⟨vx0, rfl, ho, hb⟩
    have HO3 := Lib.hid ((own_meltsC HYL0.out ho))
    have S4 : w_1.heap.size ≤ w_2.heap.size := (hb).size
    have HB5 := Lib.hid (below_of HB2.out hb HB2.out.size)
    clear hb ho
    go_wp2_with fail
    refine (HSP.out vx0 _ HO3.out).mono ?_
    rintro e w_3 ⟨rfl, hb⟩
    have S6 : w_2.heap.size ≤ w_3.heap.size := (hb).size
    have HB7 := Lib.hid (below_of HB5.out hb HB5.out.size)
    clear hb HO3
    go_wp2_with fail
    refine (toMelts_any z0 _ _ (melts_kept HB7.out HY0.out)).mono ?_
    rintro e w_4 ⟨vx0, rfl, ho, hb⟩
    obtain ⟨aZ0, cZ0, rfl⟩ := ownMelts_form ho
    have HX0R := Lib.hid (own_meltsC HYL0.out ho)
    have S8 : w_3.heap.size ≤ w_4.heap.size := (hb).size
    have HB9 := Lib.hid (below_of HB7.out hb HB7.out.size)
    clear hb ho
    go_wp2_with fail
    refine (HIM.out _ _ (HX0R.out)).mono ?_
    rintro e w_5 ⟨rfl, hb⟩
    have S10 : w_4.heap.size ≤ w_5.heap.size := (hb).size
    have HB11 := Lib.hid (below_of HB9.out hb HB9.out.size)
    have HR12 := Lib.hid (melts_kept hb HX0R.out)
    clear HX0R
    clear hb 
    go_wp2_with fail
    refine (toMelts_any z0 _ _ (melts_kept HB11.out HY0.out)).mono ?_
    rintro e w_6 ⟨vt, rfl, ho, hb⟩
    have HT := Lib.hid (own_meltsC HYL0.out ho)
    have S13 : w_5.heap.size ≤ w_6.heap.size := (hb).size
    have HB14 := Lib.hid (below_of HB11.out hb HB11.out.size)
    have HR15 := Lib.hid (melts_kept hb HR12.out)
    clear HR12
    clear hb ho
    go_wp2_with fail
    refine (eqMelts_at z0 _ _ _ (HR15.out) HT.out).mono ?_
    rintro e w_7 ⟨rfl, hb⟩
    have S16 : w_6.heap.size ≤ w_7.heap.size := (hb).size
    have HB17 := Lib.hid (below_of HB14.out hb HB14.out.size)
    have HR18 := Lib.hid (melts_kept hb HR15.out)
    clear HR15
    clear hb HT
    go_wp2
    go_ret
    exact ⟨rfl, HB17.out⟩
  · have HL0 := Lib.hid (show leftK N0 (1048576) = -1 by exact leftK_no (by omega))
    clear hmk0
    go_enter Try.func4, Try.ntmps4
    go_wp2_with fail
    refine (szMelts_any _ N0 (1048576) _ (szMl_kept (Below.refl _ _) HSZ0.out) (by omega) (by omega)).mono ?_
    rintro e w_8 ⟨rfl, hb⟩
    rw [HL0.out]
    have S19 : w.heap.size ≤ w_8.heap.size := (hb).size
    have HB20 := Lib.hid (hb)
    clear hb 
    go_wp2
    go_ret
    exact ⟨rfl, HB20.out⟩

set_option maxRecDepth 100000 in
theorem contract (H : Type) (enc : TypeId × Value → H) (W : World) (base : Nat) (args : Array Value) (ds gs : List (DataW H)) (before : List MemPlace)
    (hval : ∀ (j : Nat) t v, Try.f4.params[j]? = some t → args[j]? = some v → Value.okWide Try.prog W .any base t v)
    (hW : DataW.Whole enc Try.prog Try.f4.params.toList Rows.fnExactValidMeltsSpec.vars false W args.toList ds gs before) :
    Calls Try.prog 4 args W fun e W' => ∃ v, e = .returned v ∧ Rows.fnExactValidMeltsSpec.post enc Try.prog Try.f4 false true false false W args v W' := by
  have hW' := hW
  obtain ⟨p, q, hA0, hV, rfl, hfz, hnd⟩ := hW
  have hA : DataW.TrodAll enc Try.prog W 0 (fun _ => true) true Try.f4.params.toList args.toList ds p := hA0
  rw [Try.params4] at hA hval
  obtain ⟨v0, vs0, d0, ds0, p0, q0, hargs, rfl, rfl, h0, r0⟩ := trodAll_cons hA
  obtain ⟨rfl, rfl, rfl⟩ := trodAll_nil r0
  obtain rfl : args = #[v0] := by cases args; simp_all
  obtain ⟨rfl, rfl⟩ := trodVars_none hV
  simp only [List.append_nil] at hW'
  have hlt0 : ∀ x ∈ p0, x.block < W.heap.size := fun x hx => hW'.lt x (by simp [hx])
  have kept0 := fun (W2 : World) (hb : Below W.heap.size W W2) => Below.trod laidOut (by kernel_rfl) (of_decide_eq_true (by kernel_rfl)) h0 hb hlt0
  obtain ⟨a0, len0, cap0, rfl⟩ := okWide_slice Try.underlying31 (hval 0 31 v0 rfl rfl)
  obtain ⟨fuel0, hf0⟩ := h0
  obtain ⟨w0, hI0⟩ := melts_arg hf0 hlt0
  clear hA0
  refine (walk a0 len0 cap0 w0 W hI0).mono fun e W' ⟨he, hg⟩ => ?_
  subst he
  refine ⟨_, rfl, post_at (pa := p0) (pv := []) hW' (by simp) hg (fun _ _ => (trodAll_cons_mk (shut_bool Try.underlying4 _) trodAll_mk0)) ?_ rfl⟩
  have hk := (trodAll_cons_mk (kept0 W' hg) trodAll_mk0)
  simp only [List.append_nil] at hk
  exact hk

set_option maxRecDepth 100000 in
theorem lifted (os : Os) (started : os.Started) (H : Type) (enc : TypeId × Value → H) :
    ReturnsInHanded {} Try.checked os 4 .any (Rows.fnExactValidMeltsSpec.pre6 enc Try.prog Try.f4 Rows.fnExactValidMeltsRow.domain false) (Rows.fnExactValidMeltsSpec.post enc Try.prog Try.f4 false true false false) := by
  refine returnsInHanded_of_change (C := Try.checked) own started (by kernel_rfl) Try.func4
    (ChangeSpec.witness6 (enc := enc) (C := Try.checked) false ⟨#[], #[.slice none 0 0], []⟩ 8 (by kernel_rfl) (by kernel_rfl) (by kernel_rfl) (by kernel_rfl)) ?_
  intro W base args ds gs before hval0 hW hcnd _
  have hval : ∀ (j : Nat) t v, Try.f4.params[j]? = some t → args[j]? = some v → Value.okWide Try.prog W .any base t v := hval0
  exact contract H enc W base args ds gs before hval hW

theorem over : Rows.fnExactValidMeltsRow.holds Try.pinned (OpenSpec.ofChange Rows.fnExactValidMeltsSpec) :=
  OpenClaim.holds_of_wide 4 Try.f4 rfl rfl rfl rfl rfl rfl rfl ⟨rfl, rfl, rfl, rfl, rfl⟩ rfl rfl rfl rfl rfl (by kernel_rfl) Try.func4 (by kernel_rfl)
    (of_decide_eq_true (by kernel_rfl)) (by unfold Func.isWrapper; first | (rw [if_pos (by decide +kernel)]; kernel_rfl) | (rw [if_neg (by decide +kernel)]; exact ⟨rfl, rfl⟩))
    (fun os started H enc _ => lifted os started H enc)
end Go.Proofs.Ytjicnfgpbbganaa.fnExactValidMelts

namespace Go.Proofs.Ytjicnfgpbbganaa
/-- The given statement. -/
theorem fnExactValidMelts_holds : Rows.FnExactValidMeltsSaid := fnExactValidMelts.over
#print axioms fnExactValidMelts_holds
end Go.Proofs.Ytjicnfgpbbganaa
