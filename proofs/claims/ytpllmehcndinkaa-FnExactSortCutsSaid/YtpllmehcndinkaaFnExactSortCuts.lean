/- At every argument SortCuts answers as its model, in memory of its own, and its arguments are as they were. -/
import Derived.Test.YtpllmehcndinkaaRows
import Derived.Test.YtpllmehcndinkaaG1
import Derived.Test.YtpllmehcndinkaaSrtImpl
import Derived.Test.YtpllmehcndinkaaRingRes
namespace Go.Proofs.Ytpllmehcndinkaa.fnExactSortCuts
open Go.ChangeShapes Go.WideShapes Go.ChangeAt Go.RowKit
open Go.ChangeMaps (open_string shut_string)
set_option linter.unusedVariables false

theorem own : ownKnob Try.prog.godebug = none := by kernel_rfl

set_option maxRecDepth 100000 in
set_option maxHeartbeats 4000000 in
theorem walk (p0 : Option Addr) (len0 cap0 : Nat) (w0 : len0 ≤ 9223372036854775807) (w : World) (hI0 : len0 ≤ 1048576 → ∃ zs : List Ct, zs.length = len0 ∧ CutsAt w (.slice p0 len0 cap0) zs) :
    Calls Try.prog 8 #[.slice p0 len0 cap0] w fun e w' => e = .returned (.bool true) ∧ Below w.heap.size w w' := by
  have hlen0 := w0
  clear w0
  by_cases hbig0 : (len0) ≤ 1048576
  · obtain ⟨T1, hT1⟩ : ∃ T, (len0) = T := ⟨_, rfl⟩
    have HL0 := Lib.hid (show (if (1048576) - (len0 : Int) < 0 then (-1 : Int) else (1048576) - (len0 : Int)) = 1048576 - (T1 : Int) by rw [if_neg (by omega)]; omega)
    have hTb1 : T1 ≤ 1048576 := by omega
    obtain ⟨z0, hzn0, hzi0⟩ := hI0 (by omega)
    have HZN0 := Lib.hid hzn0
    have HY0 := Lib.hid hzi0
    have HYL0 := Lib.hid (show z0.length ≤ 1048576 by omega)
    clear hzn0 hzi0 hI0
    have hTl0 : len0 ≤ 1048576 := by omega
    clear hT1 hbig0
    obtain ⟨L1, c1, hl1, hsp, him⟩ : ∃ (L1 : List Ct) (c1 : Int), L1.length ≤ 64 ∧ (∀ u0 w, CutsAt w u0 z0 → Calls Try.prog 36 #[u0] w (CU L1 c1 w)) ∧ (∀ u0 w, CutsAt w u0 z0 → Calls Try.prog 38 #[u0] w (CU L1 c1 w)) :=
      ⟨srL z0, srC z0, sr_len z0, fun u0 w h => specSC_any z0 u0 w h, fun u0 w h => implSC_any z0 u0 w h⟩
    have HSP := Lib.hid hsp
    have HIM := Lib.hid him
    clear hsp him
    obtain ⟨n1, hn1⟩ : ∃ n1, L1.length = n1 := ⟨_, rfl⟩
    have HN1 := Lib.hid hn1
    have HLL := Lib.hid (show L1.length ≤ 1048576 by omega)
    rw [hn1] at hl1
    have hll : n1 ≤ 1048576 := by omega
    clear hn1
    have hcc : (c1 != c1) = false := by simp
    have hq3 : ((1 + 2 * (n1 : Int)) != (1 + 2 * (n1 : Int))) = false := by simp
    have hpos : ¬ (1 + 2 * (n1 : Int)) < 0 := by omega
    have hpos2 : ¬ (1 + 2 * (len0 : Int)) < 0 := by omega
    go_enter Try.func8, Try.ntmps8
    go_wp2_with fail
    refine (szCuts_any _ len0 _ (1048576) _ hlen0 (by omega) (by omega)).mono ?_
    rintro e w ⟨rfl, rfl⟩
    rw [HL0.out]
    go_wp2_with fail
    refine (toCuts_any z0 _ _ (cuts_kept (Below.refl _ _) HY0.out)).mono ?_
    rintro e w_2 ⟨vx0, rfl, ho, hb⟩
    have HO1 := Lib.hid (own_cuts HYL0.out ho)
    have HB2 := Lib.hid (hb)
    clear hb ho
    go_wp2_with fail
    refine (HSP.out vx0 _ HO1.out).mono ?_
    rintro e w_3 ⟨vw, rfl, hv, hb⟩
    have OZ3 : w.heap.size ≤ w_2.heap.size := HB2.out.size
    have OW : w_2.heap.size ≤ w_3.heap.size := hb.size
    obtain ⟨aW, cW, rfl⟩ := cv_form hv
    rw [HN1.out] at hv ⊢
    have HWI := Lib.hid (cv_in hv)
    have HWR := Lib.hid hv
    clear hv
    have HB4 := Lib.hid (below_of HB2.out hb HB2.out.size)
    clear hb 
    go_wp2_with fail
    refine (toCuts_any z0 _ _ (cuts_kept HB4.out HY0.out)).mono ?_
    rintro e w_4 ⟨vx, rfl, ho, hb⟩
    have hv := cv_own ho
    obtain ⟨aZ0, cZ0, rfl⟩ := cv_form hv
    rw [HZN0.out] at hv ⊢
    have HX0I := Lib.hid (cv_in hv)
    have HX0R := Lib.hid hv
    have OX0 : w_3.heap.size ≤ w_4.heap.size := hb.size
    clear hv
    have HB5 := Lib.hid (below_of HB4.out hb HB4.out.size)
    have HR6 := Lib.hid (cv_kept hb HWR.out)
    clear HWR
    clear hb ho
    go_wp2_with fail
    refine (HIM.out _ _ (cv_at HYL0.out HX0R.out)).mono ?_
    rintro e w_5 ⟨vg, rfl, hv, hb⟩
    have OG : w_4.heap.size ≤ w_5.heap.size := hb.size
    obtain ⟨aG, cG, rfl⟩ := cv_form hv
    rw [HN1.out] at hv ⊢
    have HGI := Lib.hid (cv_in hv)
    have HGR := Lib.hid hv
    clear hv
    have HB7 := Lib.hid (below_of HB5.out hb HB5.out.size)
    have HR8 := Lib.hid (cv_kept hb HR6.out)
    clear HR6
    have HR9 := Lib.hid (cv_kept hb HX0R.out)
    clear HX0R
    clear hb 
    go_wp2_with fail
    refine (eqCuts_at L1 _ _ _ (cv_at HLL.out HGR.out) (cv_at HLL.out HR8.out)).mono ?_
    rintro e w_6 ⟨rfl, hb⟩
    have HB10 := Lib.hid (below_of HB7.out hb HB7.out.size)
    have HR11 := Lib.hid (cv_kept hb HR8.out)
    clear HR8
    have HR12 := Lib.hid (cv_kept hb HR9.out)
    clear HR9
    have HR13 := Lib.hid (cv_kept hb HGR.out)
    clear HGR
    clear hb 
    go_wp2_with fail
    refine (toCuts_any z0 _ _ (cuts_kept HB10.out HY0.out)).mono ?_
    rintro e w_7 ⟨vt, rfl, ho, hb⟩
    have HT := Lib.hid (own_cuts HYL0.out ho)
    have HB14 := Lib.hid (below_of HB10.out hb HB10.out.size)
    have HR15 := Lib.hid (cv_kept hb HR11.out)
    clear HR11
    have HR16 := Lib.hid (cv_kept hb HR12.out)
    clear HR12
    have HR17 := Lib.hid (cv_kept hb HR13.out)
    clear HR13
    clear hb ho
    go_wp2_with fail
    refine (eqCuts_at z0 _ _ _ (cv_at HYL0.out HR16.out) HT.out).mono ?_
    rintro e w_8 ⟨rfl, hb⟩
    have HB18 := Lib.hid (below_of HB14.out hb HB14.out.size)
    have HR19 := Lib.hid (cv_kept hb HR15.out)
    clear HR15
    have HR20 := Lib.hid (cv_kept hb HR16.out)
    clear HR16
    have HR21 := Lib.hid (cv_kept hb HR17.out)
    clear HR17
    clear hb HT
    go_wp2_with fail
    refine (markCv_any (1) (by omega) _ z0 _ _ HYL0.out HR20.out).mono ?_
    rintro e w_9 ⟨rfl, hv, hg⟩
    rw [HZN0.out] at hv ⊢
    have HR22 := Lib.hid (cv_grown hg HR19.out (apart_of HWI.out HX0I.out (by omega)))
    clear HR19
    have HR23 := Lib.hid (cv_grown hg HR21.out (apart_of HGI.out HX0I.out (by omega)))
    clear HR21
    have HR24 := Lib.hid hv
    clear HR20
    have HB25 := Lib.hid (HB18.out.trans (gb_below hg HB18.out.size (fun k hk => by have := HX0I.out k hk; omega)))
    clear hv hg 
    go_wp2_with fail
    refine (eqCuts_at L1 _ _ _ (cv_at HLL.out HR23.out) (cv_at HLL.out HR22.out)).mono ?_
    rintro e w_10 ⟨rfl, hb⟩
    have HB26 := Lib.hid (below_of HB25.out hb HB25.out.size)
    have HR27 := Lib.hid (cv_kept hb HR22.out)
    clear HR22
    have HR28 := Lib.hid (cv_kept hb HR23.out)
    clear HR23
    clear hb 
    go_wp2_with fail
    refine (markCv_any 1 (by omega) _ L1 _ _ HLL.out HR28.out).mono ?_
    rintro e w_11 ⟨rfl, hv, hg⟩
    rw [HN1.out] at hv ⊢
    have HR29 := Lib.hid (cv_grown hg HR27.out (apart_of HWI.out HGI.out (by omega)))
    clear HR27
    have HR30 := Lib.hid hv
    clear HR28
    have HB31 := Lib.hid (HB26.out.trans (gb_below hg HB26.out.size (fun k hk => by have := HGI.out k hk; omega)))
    clear hv hg 
    go_wp2_with fail
    refine (heldCv_any 1 (by omega) _ n1 _ _ hll HR30.out).mono ?_
    rintro e w_11 ⟨rfl, rfl⟩
    go_wp2_with fail
    refine (toCuts_any z0 _ _ (cuts_kept HB31.out HY0.out)).mono ?_
    rintro e w_12 ⟨vx0, rfl, ho, hb⟩
    have HO32 := Lib.hid (own_cuts HYL0.out ho)
    have HB33 := Lib.hid (below_of HB31.out hb HB31.out.size)
    have HR34 := Lib.hid (cv_kept hb HR29.out)
    clear HR29
    have HR35 := Lib.hid (cv_kept hb HR30.out)
    clear HR30
    clear hb ho
    go_wp2_with fail
    refine (HIM.out vx0 _ HO32.out).mono ?_
    rintro e w_13 ⟨vh, rfl, hv, hb⟩
    have OH : w_12.heap.size ≤ w_13.heap.size := hb.size
    obtain ⟨aH, cH, rfl⟩ := cv_form hv
    rw [HN1.out] at hv ⊢
    have HHI := Lib.hid (cv_in hv)
    have HHR := Lib.hid hv
    clear hv
    have HB36 := Lib.hid (below_of HB33.out hb HB33.out.size)
    have HR37 := Lib.hid (cv_kept hb HR34.out)
    clear HR34
    have HR38 := Lib.hid (cv_kept hb HR35.out)
    clear HR35
    clear hb 
    go_wp2_with fail
    refine (eqCuts_at L1 _ _ _ (cv_at HLL.out HHR.out) (cv_at HLL.out HR37.out)).mono ?_
    rintro e w_14 ⟨rfl, hb⟩
    have HB39 := Lib.hid (below_of HB36.out hb HB36.out.size)
    have HR40 := Lib.hid (cv_kept hb HR37.out)
    clear HR37
    have HR41 := Lib.hid (cv_kept hb HR38.out)
    clear HR38
    have HR42 := Lib.hid (cv_kept hb HHR.out)
    clear HHR
    clear hb 
    go_wp2_with fail
    refine (heldCv_any 1 (by omega) _ n1 _ _ hll HR41.out).mono ?_
    rintro e w_14 ⟨rfl, rfl⟩
    go_wp2
    go_ret
    exact ⟨rfl, HB39.out⟩
  · have HL0 := Lib.hid (show (if (1048576) - (len0 : Int) < 0 then (-1 : Int) else (1048576) - (len0 : Int)) = -1 by rw [if_pos (by omega)])
    clear hI0
    go_enter Try.func8, Try.ntmps8
    go_wp2_with fail
    refine (szCuts_any _ len0 _ (1048576) _ hlen0 (by omega) (by omega)).mono ?_
    rintro e wz ⟨rfl, rfl⟩
    rw [HL0.out]
    go_wp2
    go_ret
    exact ⟨rfl, Below.refl _ _⟩

set_option maxRecDepth 100000 in
theorem contract (H : Type) (enc : TypeId × Value → H) (W : World) (base : Nat) (args : Array Value) (ds gs : List (DataW H)) (before : List MemPlace)
    (hval : ∀ (j : Nat) t v, Try.f8.params[j]? = some t → args[j]? = some v → Value.okWide Try.prog W .any base t v)
    (hW : DataW.Whole enc Try.prog Try.f8.params.toList Rows.fnExactSortCutsSpec.vars false W args.toList ds gs before) :
    Calls Try.prog 8 args W fun e W' => ∃ v, e = .returned v ∧ Rows.fnExactSortCutsSpec.post enc Try.prog Try.f8 false true false false W args v W' := by
  have hW' := hW
  obtain ⟨p, q, hA0, hV, rfl, hfz, hnd⟩ := hW
  have hA : DataW.TrodAll enc Try.prog W 0 (fun _ => true) true Try.f8.params.toList args.toList ds p := hA0
  rw [Try.params8] at hA hval
  obtain ⟨v0, vs0, d0, ds0, p0, q0, hargs, rfl, rfl, h0, r0⟩ := trodAll_cons hA
  obtain ⟨rfl, rfl, rfl⟩ := trodAll_nil r0
  obtain rfl : args = #[v0] := by cases args; simp_all
  obtain ⟨rfl, rfl⟩ := trodVars_none hV
  simp only [List.append_nil] at hW'
  have hlt0 : ∀ x ∈ p0, x.block < W.heap.size := fun x hx => hW'.lt x (by simp [hx])
  have kept0 := fun (W2 : World) (hb : Below W.heap.size W W2) => Below.trod laidOut (by kernel_rfl) (of_decide_eq_true (by kernel_rfl)) h0 hb hlt0
  obtain ⟨a0, len0, cap0, rfl⟩ := okWide_slice Try.underlying61 (hval 0 61 v0 rfl rfl)
  obtain ⟨fuel0, hf0⟩ := h0
  obtain ⟨w0, hI0⟩ := cuts_arg hf0 hlt0
  clear hA0
  refine (walk a0 len0 cap0 w0 W hI0).mono fun e W' ⟨he, hg⟩ => ?_
  subst he
  refine ⟨_, rfl, post_at (pa := p0) (pv := []) hW' (by simp) hg (fun _ _ => (trodAll_cons_mk (shut_bool Try.underlying4 _) trodAll_mk0)) ?_ rfl⟩
  have hk := (trodAll_cons_mk (kept0 W' hg) trodAll_mk0)
  simp only [List.append_nil] at hk
  exact hk

set_option maxRecDepth 100000 in
theorem lifted (os : Os) (started : os.Started) (H : Type) (enc : TypeId × Value → H) :
    ReturnsInHanded {} Try.checked os 8 .any (Rows.fnExactSortCutsSpec.pre6 enc Try.prog Try.f8 Rows.fnExactSortCutsRow.domain false) (Rows.fnExactSortCutsSpec.post enc Try.prog Try.f8 false true false false) := by
  refine returnsInHanded_of_change (C := Try.checked) own started (by kernel_rfl) Try.func8
    (ChangeSpec.witness6 (enc := enc) (C := Try.checked) false ⟨#[], #[.slice none 0 0], []⟩ 8 (by kernel_rfl) (by kernel_rfl) (by kernel_rfl) (by kernel_rfl)) ?_
  intro W base args ds gs before hval0 hW hcnd _
  have hval : ∀ (j : Nat) t v, Try.f8.params[j]? = some t → args[j]? = some v → Value.okWide Try.prog W .any base t v := hval0
  exact contract H enc W base args ds gs before hval hW

theorem over : Rows.fnExactSortCutsRow.holds Try.pinned (OpenSpec.ofChange Rows.fnExactSortCutsSpec) :=
  OpenClaim.holds_of_wide 8 Try.f8 rfl rfl rfl rfl rfl rfl rfl ⟨rfl, rfl, rfl, rfl, rfl⟩ rfl rfl rfl rfl rfl (by kernel_rfl) Try.func8 (by kernel_rfl)
    (of_decide_eq_true (by kernel_rfl)) (by unfold Func.isWrapper; first | (rw [if_pos (by decide +kernel)]; kernel_rfl) | (rw [if_neg (by decide +kernel)]; exact ⟨rfl, rfl⟩))
    (fun os started H enc _ => lifted os started H enc)
end Go.Proofs.Ytpllmehcndinkaa.fnExactSortCuts

namespace Go.Proofs.Ytpllmehcndinkaa
/-- The given statement. -/
theorem fnExactSortCuts_holds : Rows.FnExactSortCutsSaid := fnExactSortCuts.over
#print axioms fnExactSortCuts_holds
end Go.Proofs.Ytpllmehcndinkaa
