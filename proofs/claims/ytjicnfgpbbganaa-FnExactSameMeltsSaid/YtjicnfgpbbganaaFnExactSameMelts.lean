/- At every argument SameMelts answers as its model, and its arguments are as they were. -/
import Derived.Test.YtjicnfgpbbganaaRows
import Derived.Test.YtjicnfgpbbganaaBase
import Derived.Test.YtjicnfgpbbganaaLaidOut
import Derived.Test.YtjicnfgpbbganaaMeltW
import Derived.Deep.RegionHeld3
namespace Go.Proofs.Ytjicnfgpbbganaa.fnExactSameMelts
open Go.ChangeShapes Go.WideShapes Go.ChangeAt Go.RowKit
open Go.ChangeMaps (open_string shut_string)
set_option linter.unusedVariables false

theorem own : ownKnob Try.prog.godebug = none := by kernel_rfl

set_option maxRecDepth 100000 in
set_option maxHeartbeats 8000000 in
theorem walk (p0 : Option Addr) (len0 cap0 : Nat) (p1 : Option Addr) (len1 cap1 : Nat) (w0 : len0 ≤ 9223372036854775807) (w1 : len1 ≤ 9223372036854775807) (w : World) (hI0 : MlArg w (.slice p0 len0 cap0)) (hI1 : MlArg w (.slice p1 len1 cap1)) :
    Calls Try.prog 5 #[.slice p0 len0 cap0, .slice p1 len1 cap1] w fun e w' => e = .returned (.bool true) ∧ Below w.heap.size w w' := by
  have hlen0 := w0
  clear w0
  obtain ⟨N0, hsz0, hmk0⟩ := hI0
  have HSZ0 := Lib.hid hsz0
  clear hsz0
  have hlen1 := w1
  clear w1
  obtain ⟨N1, hsz1, hmk1⟩ := hI1
  have HSZ1 := Lib.hid hsz1
  clear hsz1
  by_cases hbig0 : (N0) ≤ 1048576
  · obtain ⟨T1, hT1⟩ : ∃ T, (N0) = T := ⟨_, rfl⟩
    have HL0 := Lib.hid (show leftK N0 (1048576) = 1048576 - (T1 : Int) by rw [leftK_yes (by omega)]; omega)
    have hTb1 : T1 ≤ 1048576 := by omega
    obtain ⟨z0, hma0, hml0, hmi0⟩ := hmk0 (by omega)
    have HY0 := Lib.hid hma0
    have HSO0 := Lib.hid hmi0
    have HYL0 := Lib.hid (And.intro hml0 (fun j hj => (hmi0 j hj).1))
    clear hma0 hml0 hmi0 hmk0
    by_cases hbig1 : T1 + (N1) ≤ 1048576
    · obtain ⟨T2, hT2⟩ : ∃ T, T1 + (N1) = T := ⟨_, rfl⟩
      have HL1 := Lib.hid (show leftK N1 (1048576 - (T1 : Int)) = 1048576 - (T2 : Int) by rw [leftK_yes (by omega)]; omega)
      have hTb2 : T2 ≤ 1048576 := by omega
      obtain ⟨z1, hma1, hml1, hmi1⟩ := hmk1 (by omega)
      have HY1 := Lib.hid hma1
      have HSO1 := Lib.hid hmi1
      have HYL1 := Lib.hid (And.intro hml1 (fun j hj => (hmi1 j hj).1))
      clear hma1 hml1 hmi1 hmk1
      clear hT1 hbig0 hT2 hbig1
      obtain ⟨r0, hsp, him⟩ : ∃ (r0 : Bool), (∀ u0 u1 w, MeltsAt w u0 z0 → MeltsAt w u1 z1 → Calls Try.prog 17 #[u0, u1] w (fun e w' => e = .returned (.bool r0) ∧ Below w.heap.size w w')) ∧ (∀ u0 u1 w, MeltsAt w u0 z0 → MeltsAt w u1 z1 → Calls Try.prog 18 #[u0, u1] w (fun e w' => e = .returned (.bool r0) ∧ Below w.heap.size w w')) :=
        ⟨decide (z0 = z1), fun u0 u1 w h h1 => specSMl_any z0 z1 u0 u1 w h h1, fun u0 u1 w h h1 => implSMl_any z0 z1 u0 u1 w h h1⟩
      have hrr0 : (r0 != r0) = false := by simp
      have HSP := Lib.hid hsp
      have HIM := Lib.hid him
      clear hsp him
      go_enter Try.func5, Try.ntmps5
      go_wp2_with fail
      refine (szMelts_any _ N0 (1048576) _ (szMl_kept (Below.refl _ _) HSZ0.out) (by omega) (by omega)).mono ?_
      rintro e w_1 ⟨rfl, hb⟩
      rw [HL0.out]
      have S1 : w.heap.size ≤ w_1.heap.size := (hb).size
      have HB2 := Lib.hid (hb)
      clear hb 
      go_wp2_with fail
      refine (szMelts_any _ N1 (1048576 - (T1 : Int)) _ (szMl_kept HB2.out HSZ1.out) (by omega) (by omega)).mono ?_
      rintro e w_2 ⟨rfl, hb⟩
      rw [HL1.out]
      have S3 : w_1.heap.size ≤ w_2.heap.size := (hb).size
      have HB4 := Lib.hid (below_of HB2.out hb HB2.out.size)
      clear hb 
      go_wp2_with fail
      refine (toMelts_any z0 _ _ (melts_kept HB4.out HY0.out)).mono ?_
      rintro e w_3 ⟨vx0, rfl, ho, hb⟩
      have HO5 := Lib.hid ((own_meltsC HYL0.out ho))
      have S6 : w_2.heap.size ≤ w_3.heap.size := (hb).size
      have HB7 := Lib.hid (below_of HB4.out hb HB4.out.size)
      clear hb ho
      go_wp2_with fail
      refine (toMelts_any z1 _ _ (melts_kept HB7.out HY1.out)).mono ?_
      rintro e w_4 ⟨vx1, rfl, ho, hb⟩
      have HO8 := Lib.hid (melts_kept hb HO5.out)
      clear HO5
      have HO9 := Lib.hid ((own_meltsC HYL1.out ho))
      have S10 : w_3.heap.size ≤ w_4.heap.size := (hb).size
      have HB11 := Lib.hid (below_of HB7.out hb HB7.out.size)
      clear hb ho
      go_wp2_with fail
      refine (HSP.out vx0 vx1 _ HO8.out HO9.out).mono ?_
      rintro e w_5 ⟨rfl, hb⟩
      have S12 : w_4.heap.size ≤ w_5.heap.size := (hb).size
      have HB13 := Lib.hid (below_of HB11.out hb HB11.out.size)
      clear hb HO8 HO9
      go_wp2_with fail
      refine (toMelts_any z0 _ _ (melts_kept HB13.out HY0.out)).mono ?_
      rintro e w_6 ⟨vx0, rfl, ho, hb⟩
      obtain ⟨aZ0, cZ0, rfl⟩ := ownMelts_form ho
      have HX0R := Lib.hid (own_meltsC HYL0.out ho)
      have S14 : w_5.heap.size ≤ w_6.heap.size := (hb).size
      have HB15 := Lib.hid (below_of HB13.out hb HB13.out.size)
      clear hb ho
      go_wp2_with fail
      refine (toMelts_any z1 _ _ (melts_kept HB15.out HY1.out)).mono ?_
      rintro e w_7 ⟨vx1, rfl, ho, hb⟩
      obtain ⟨aZ1, cZ1, rfl⟩ := ownMelts_form ho
      have HX1R := Lib.hid (own_meltsC HYL1.out ho)
      have S16 : w_6.heap.size ≤ w_7.heap.size := (hb).size
      have HB17 := Lib.hid (below_of HB15.out hb HB15.out.size)
      have HR18 := Lib.hid (melts_kept hb HX0R.out)
      clear HX0R
      clear hb ho
      go_wp2_with fail
      refine (HIM.out _ _ _ (HR18.out) (HX1R.out)).mono ?_
      rintro e w_8 ⟨rfl, hb⟩
      have S19 : w_7.heap.size ≤ w_8.heap.size := (hb).size
      have HB20 := Lib.hid (below_of HB17.out hb HB17.out.size)
      have HR21 := Lib.hid (melts_kept hb HR18.out)
      clear HR18
      have HR22 := Lib.hid (melts_kept hb HX1R.out)
      clear HX1R
      clear hb 
      go_wp2_with fail
      refine (toMelts_any z0 _ _ (melts_kept HB20.out HY0.out)).mono ?_
      rintro e w_9 ⟨vt, rfl, ho, hb⟩
      have HT := Lib.hid (own_meltsC HYL0.out ho)
      have S23 : w_8.heap.size ≤ w_9.heap.size := (hb).size
      have HB24 := Lib.hid (below_of HB20.out hb HB20.out.size)
      have HR25 := Lib.hid (melts_kept hb HR21.out)
      clear HR21
      have HR26 := Lib.hid (melts_kept hb HR22.out)
      clear HR22
      clear hb ho
      go_wp2_with fail
      refine (eqMelts_at z0 _ _ _ (HR25.out) HT.out).mono ?_
      rintro e w_10 ⟨rfl, hb⟩
      have S27 : w_9.heap.size ≤ w_10.heap.size := (hb).size
      have HB28 := Lib.hid (below_of HB24.out hb HB24.out.size)
      have HR29 := Lib.hid (melts_kept hb HR25.out)
      clear HR25
      have HR30 := Lib.hid (melts_kept hb HR26.out)
      clear HR26
      clear hb HT
      go_wp2_with fail
      refine (toMelts_any z1 _ _ (melts_kept HB28.out HY1.out)).mono ?_
      rintro e w_11 ⟨vt, rfl, ho, hb⟩
      have HT := Lib.hid (own_meltsC HYL1.out ho)
      have S31 : w_10.heap.size ≤ w_11.heap.size := (hb).size
      have HB32 := Lib.hid (below_of HB28.out hb HB28.out.size)
      have HR33 := Lib.hid (melts_kept hb HR29.out)
      clear HR29
      have HR34 := Lib.hid (melts_kept hb HR30.out)
      clear HR30
      clear hb ho
      go_wp2_with fail
      refine (eqMelts_at z1 _ _ _ (HR34.out) HT.out).mono ?_
      rintro e w_12 ⟨rfl, hb⟩
      have S35 : w_11.heap.size ≤ w_12.heap.size := (hb).size
      have HB36 := Lib.hid (below_of HB32.out hb HB32.out.size)
      have HR37 := Lib.hid (melts_kept hb HR33.out)
      clear HR33
      have HR38 := Lib.hid (melts_kept hb HR34.out)
      clear HR34
      clear hb HT
      go_wp2
      go_ret
      exact ⟨rfl, HB36.out⟩
    · have HL1 := Lib.hid (show leftK N1 (1048576 - (T1 : Int)) = -1 by exact leftK_no (by omega))
      clear hmk1
      clear hT1
      go_enter Try.func5, Try.ntmps5
      go_wp2_with fail
      refine (szMelts_any _ N0 (1048576) _ (szMl_kept (Below.refl _ _) HSZ0.out) (by omega) (by omega)).mono ?_
      rintro e w_13 ⟨rfl, hb⟩
      rw [HL0.out]
      have S39 : w.heap.size ≤ w_13.heap.size := (hb).size
      have HB40 := Lib.hid (hb)
      clear hb 
      go_wp2_with fail
      refine (szMelts_any _ N1 (1048576 - (T1 : Int)) _ (szMl_kept HB40.out HSZ1.out) (by omega) (by omega)).mono ?_
      rintro e w_14 ⟨rfl, hb⟩
      rw [HL1.out]
      have S41 : w_13.heap.size ≤ w_14.heap.size := (hb).size
      have HB42 := Lib.hid (below_of HB40.out hb HB40.out.size)
      clear hb 
      go_wp2
      go_ret
      exact ⟨rfl, HB42.out⟩
  · have HL0 := Lib.hid (show leftK N0 (1048576) = -1 by exact leftK_no (by omega))
    clear hmk0 hmk1
    go_enter Try.func5, Try.ntmps5
    go_wp2_with fail
    refine (szMelts_any _ N0 (1048576) _ (szMl_kept (Below.refl _ _) HSZ0.out) (by omega) (by omega)).mono ?_
    rintro e w_15 ⟨rfl, hb⟩
    rw [HL0.out]
    have S43 : w.heap.size ≤ w_15.heap.size := (hb).size
    have HB44 := Lib.hid (hb)
    clear hb 
    go_wp2
    go_ret
    exact ⟨rfl, HB44.out⟩

set_option maxRecDepth 100000 in
theorem contract (H : Type) (enc : TypeId × Value → H) (W : World) (base : Nat) (args : Array Value) (ds gs : List (DataW H)) (before : List MemPlace)
    (hval : ∀ (j : Nat) t v, Try.f5.params[j]? = some t → args[j]? = some v → Value.okWide Try.prog W .any base t v)
    (hW : DataW.Whole enc Try.prog Try.f5.params.toList Rows.fnExactSameMeltsSpec.vars false W args.toList ds gs before) :
    Calls Try.prog 5 args W fun e W' => ∃ v, e = .returned v ∧ Rows.fnExactSameMeltsSpec.post enc Try.prog Try.f5 false true false false W args v W' := by
  have hW' := hW
  obtain ⟨p, q, hA0, hV, rfl, hfz, hnd⟩ := hW
  have hA : DataW.TrodAll enc Try.prog W 0 (fun _ => true) true Try.f5.params.toList args.toList ds p := hA0
  rw [Try.params5] at hA hval
  obtain ⟨v0, vs0, d0, ds0, p0, q0, hargs, rfl, rfl, h0, r0⟩ := trodAll_cons hA
  obtain ⟨v1, vs1, d1, ds1, p1, q1, hargs1, rfl, rfl, h1, r1⟩ := trodAll_cons r0
  subst hargs1
  obtain ⟨rfl, rfl, rfl⟩ := trodAll_nil r1
  obtain rfl : args = #[v0, v1] := by cases args; simp_all
  obtain ⟨rfl, rfl⟩ := trodVars_none hV
  simp only [List.append_nil] at hW'
  have hlt0 : ∀ x ∈ p0, x.block < W.heap.size := fun x hx => hW'.lt x (by simp [hx])
  have kept0 := fun (W2 : World) (hb : Below W.heap.size W W2) => Below.trod laidOut (by kernel_rfl) (of_decide_eq_true (by kernel_rfl)) h0 hb hlt0
  obtain ⟨a0, len0, cap0, rfl⟩ := okWide_slice Try.underlying31 (hval 0 31 v0 rfl rfl)
  obtain ⟨fuel0, hf0⟩ := h0
  obtain ⟨w0, hI0⟩ := melts_arg hf0 hlt0
  have hlt1 : ∀ x ∈ p1, x.block < W.heap.size := fun x hx => hW'.lt x (by simp [hx])
  have kept1 := fun (W2 : World) (hb : Below W.heap.size W W2) => Below.trod laidOut (by kernel_rfl) (of_decide_eq_true (by kernel_rfl)) h1 hb hlt1
  obtain ⟨a1, len1, cap1, rfl⟩ := okWide_slice Try.underlying31 (hval 1 31 v1 rfl rfl)
  obtain ⟨fuel1, hf1⟩ := h1
  obtain ⟨w1, hI1⟩ := melts_arg hf1 hlt1
  clear hA0
  refine (walk a0 len0 cap0 a1 len1 cap1 w0 w1 W hI0 hI1).mono fun e W' ⟨he, hg⟩ => ?_
  subst he
  refine ⟨_, rfl, post_at (pa := p0 ++ p1) (pv := []) hW' (by simp) hg (fun _ _ => (trodAll_cons_mk (shut_bool Try.underlying4 _) trodAll_mk0)) ?_ rfl⟩
  have hk := (trodAll_cons_mk (kept0 W' hg) (trodAll_cons_mk (kept1 W' hg) trodAll_mk0))
  simp only [List.append_nil] at hk
  exact hk

set_option maxRecDepth 100000 in
theorem lifted (os : Os) (started : os.Started) (H : Type) (enc : TypeId × Value → H) :
    ReturnsInHanded {} Try.checked os 5 .any (Rows.fnExactSameMeltsSpec.pre6 enc Try.prog Try.f5 Rows.fnExactSameMeltsRow.domain false) (Rows.fnExactSameMeltsSpec.post enc Try.prog Try.f5 false true false false) := by
  refine returnsInHanded_of_change (C := Try.checked) own started (by kernel_rfl) Try.func5
    (ChangeSpec.witness6 (enc := enc) (C := Try.checked) false ⟨#[], #[.slice none 0 0, .slice none 0 0], []⟩ 8 (by kernel_rfl) (by kernel_rfl) (by kernel_rfl) (by kernel_rfl)) ?_
  intro W base args ds gs before hval0 hW hcnd _
  have hval : ∀ (j : Nat) t v, Try.f5.params[j]? = some t → args[j]? = some v → Value.okWide Try.prog W .any base t v := hval0
  exact contract H enc W base args ds gs before hval hW

theorem over : Rows.fnExactSameMeltsRow.holds Try.pinned (OpenSpec.ofChange Rows.fnExactSameMeltsSpec) :=
  OpenClaim.holds_of_wide 5 Try.f5 rfl rfl rfl rfl rfl rfl rfl ⟨rfl, rfl, rfl, rfl, rfl⟩ rfl rfl rfl rfl rfl (by kernel_rfl) Try.func5 (by kernel_rfl)
    (of_decide_eq_true (by kernel_rfl)) (by unfold Func.isWrapper; first | (rw [if_pos (by decide +kernel)]; kernel_rfl) | (rw [if_neg (by decide +kernel)]; exact ⟨rfl, rfl⟩))
    (fun os started H enc _ => lifted os started H enc)
end Go.Proofs.Ytjicnfgpbbganaa.fnExactSameMelts

namespace Go.Proofs.Ytjicnfgpbbganaa
/-- The given statement. -/
theorem fnExactSameMelts_holds : Rows.FnExactSameMeltsSaid := fnExactSameMelts.over
#print axioms fnExactSameMelts_holds
end Go.Proofs.Ytjicnfgpbbganaa
