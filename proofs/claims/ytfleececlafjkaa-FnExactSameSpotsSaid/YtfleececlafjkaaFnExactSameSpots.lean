/- At every argument SameSpots answers as its model, and its arguments are as they were. -/
import Derived.Test.YtfleececlafjkaaRows
import Derived.Test.YtfleececlafjkaaBase
import Derived.Test.YtfleececlafjkaaLaidOut
import Derived.Test.YtfleececlafjkaaSpotSame
namespace Go.Proofs.Ytfleececlafjkaa.fnExactSameSpots
open Go.ChangeShapes Go.WideShapes Go.ChangeAt Go.RowKit
open Go.ChangeMaps (open_string shut_string)
set_option linter.unusedVariables false

theorem own : ownKnob Try.prog.godebug = none := by kernel_rfl

set_option maxRecDepth 100000 in
set_option maxHeartbeats 8000000 in
theorem walk (p0 : Option Addr) (len0 cap0 : Nat) (p1 : Option Addr) (len1 cap1 : Nat) (w0 : len0 ≤ 9223372036854775807) (w1 : len1 ≤ 9223372036854775807) (w : World) (hI0 : len0 ≤ 1048576 → ∃ zs : List Qt, zs.length = len0 ∧ SpotsAt w (.slice p0 len0 cap0) zs) (hI1 : len1 ≤ 1048576 → ∃ zs : List Qt, zs.length = len1 ∧ SpotsAt w (.slice p1 len1 cap1) zs) :
    Calls Try.prog 7 #[.slice p0 len0 cap0, .slice p1 len1 cap1] w fun e w' => e = .returned (.bool true) ∧ Below w.heap.size w w' := by
  have hlen0 := w0
  clear w0
  have hlen1 := w1
  clear w1
  by_cases hbig0 : (len0) ≤ 1048576
  · obtain ⟨T1, hT1⟩ : ∃ T, (len0) = T := ⟨_, rfl⟩
    have HL0 := Lib.hid (show (if (1048576) - (len0 : Int) < 0 then (-1 : Int) else (1048576) - (len0 : Int)) = 1048576 - (T1 : Int) by rw [if_neg (by omega)]; omega)
    have hTb1 : T1 ≤ 1048576 := by omega
    obtain ⟨z0, hzn0, hzi0⟩ := hI0 (by omega)
    have HZN0 := Lib.hid hzn0
    have HY0 := Lib.hid hzi0
    have HYL0 := Lib.hid (show z0.length ≤ 1048576 by omega)
    clear hzn0 hzi0 hI0
    have hTl0 : len0 ≤ 1048576 := by omega
    by_cases hbig1 : T1 + (len1) ≤ 1048576
    · obtain ⟨T2, hT2⟩ : ∃ T, T1 + (len1) = T := ⟨_, rfl⟩
      have HL1 := Lib.hid (show (if (1048576 - (T1 : Int)) - (len1 : Int) < 0 then (-1 : Int) else (1048576 - (T1 : Int)) - (len1 : Int)) = 1048576 - (T2 : Int) by rw [if_neg (by omega)]; omega)
      have hTb2 : T2 ≤ 1048576 := by omega
      obtain ⟨z1, hzn1, hzi1⟩ := hI1 (by omega)
      have HZN1 := Lib.hid hzn1
      have HY1 := Lib.hid hzi1
      have HYL1 := Lib.hid (show z1.length ≤ 1048576 by omega)
      clear hzn1 hzi1 hI1
      have hTl1 : len1 ≤ 1048576 := by omega
      clear hT1 hbig0 hT2 hbig1
      obtain ⟨r0, hsp, him⟩ : ∃ (r0 : Bool), (∀ u0 u1 w, SpotsAt w u0 z0 → SpotsAt w u1 z1 → Calls Try.prog 25 #[u0, u1] w (fun e w' => e = .returned (.bool r0) ∧ Below w.heap.size w w')) ∧ (∀ u0 u1 w, SpotsAt w u0 z0 → SpotsAt w u1 z1 → Calls Try.prog 26 #[u0, u1] w (fun e w' => e = .returned (.bool r0) ∧ Below w.heap.size w w')) :=
        ⟨sameQ z0 z1, fun u0 u1 w h h1 => specSameQ_any z0 z1 u0 u1 w h h1, fun u0 u1 w h h1 => implSameQ_any z0 z1 u0 u1 w h h1⟩
      have hrr0 : (r0 != r0) = false := by simp
      have HSP := Lib.hid hsp
      have HIM := Lib.hid him
      clear hsp him
      go_enter Try.func7, Try.ntmps7
      go_wp2_with fail
      refine (szSpots_any _ len0 _ (1048576) _ hlen0 (by omega) (by omega)).mono ?_
      rintro e w ⟨rfl, rfl⟩
      rw [HL0.out]
      go_wp2_with fail
      refine (szSpots_any _ len1 _ (1048576 - (T1 : Int)) _ hlen1 (by omega) (by omega)).mono ?_
      rintro e w ⟨rfl, rfl⟩
      rw [HL1.out]
      go_wp2_with fail
      refine (toSpots_any z0 _ _ (spots_kept (Below.refl _ _) HY0.out)).mono ?_
      rintro e w_3 ⟨vx0, rfl, ho, hb⟩
      have HO1 := Lib.hid ((own_spots HYL0.out ho))
      have S2 : w.heap.size ≤ w_3.heap.size := (hb).size
      have HB3 := Lib.hid (hb)
      clear hb ho
      go_wp2_with fail
      refine (toSpots_any z1 _ _ (spots_kept HB3.out HY1.out)).mono ?_
      rintro e w_4 ⟨vx1, rfl, ho, hb⟩
      have HO4 := Lib.hid (spots_kept hb HO1.out)
      clear HO1
      have HO5 := Lib.hid ((own_spots HYL1.out ho))
      have S6 : w_3.heap.size ≤ w_4.heap.size := (hb).size
      have HB7 := Lib.hid (below_of HB3.out hb HB3.out.size)
      clear hb ho
      go_wp2_with fail
      refine (HSP.out vx0 vx1 _ HO4.out HO5.out).mono ?_
      rintro e w_5 ⟨rfl, hb⟩
      have S8 : w_4.heap.size ≤ w_5.heap.size := (hb).size
      have HB9 := Lib.hid (below_of HB7.out hb HB7.out.size)
      clear hb HO4 HO5
      go_wp2_with fail
      refine (toSpots_any z0 _ _ (spots_kept HB9.out HY0.out)).mono ?_
      rintro e w_6 ⟨vx0, rfl, ho, hb⟩
      have hv := qv_own ho
      obtain ⟨aZ0, cZ0, rfl⟩ := qv_form hv
      rw [HZN0.out] at hv ⊢
      have HX0I := Lib.hid (qv_in hv)
      have HX0R := Lib.hid hv
      clear hv
      have S10 : w_5.heap.size ≤ w_6.heap.size := (hb).size
      have HB11 := Lib.hid (below_of HB9.out hb HB9.out.size)
      clear hb ho
      go_wp2_with fail
      refine (toSpots_any z1 _ _ (spots_kept HB11.out HY1.out)).mono ?_
      rintro e w_7 ⟨vx1, rfl, ho, hb⟩
      have hv := qv_own ho
      obtain ⟨aZ1, cZ1, rfl⟩ := qv_form hv
      rw [HZN1.out] at hv ⊢
      have HX1I := Lib.hid (qv_in hv)
      have HX1R := Lib.hid hv
      clear hv
      have S12 : w_6.heap.size ≤ w_7.heap.size := (hb).size
      have HB13 := Lib.hid (below_of HB11.out hb HB11.out.size)
      have HR14 := Lib.hid (qv_kept hb HX0R.out)
      clear HX0R
      clear hb ho
      go_wp2_with fail
      refine (HIM.out _ _ _ (qv_at HYL0.out HR14.out) (qv_at HYL1.out HX1R.out)).mono ?_
      rintro e w_8 ⟨rfl, hb⟩
      have S15 : w_7.heap.size ≤ w_8.heap.size := (hb).size
      have HB16 := Lib.hid (below_of HB13.out hb HB13.out.size)
      have HR17 := Lib.hid (qv_kept hb HR14.out)
      clear HR14
      have HR18 := Lib.hid (qv_kept hb HX1R.out)
      clear HX1R
      clear hb 
      go_wp2_with fail
      refine (toSpots_any z0 _ _ (spots_kept HB16.out HY0.out)).mono ?_
      rintro e w_9 ⟨vt, rfl, ho, hb⟩
      have HT := Lib.hid (own_spots HYL0.out ho)
      have S19 : w_8.heap.size ≤ w_9.heap.size := (hb).size
      have HB20 := Lib.hid (below_of HB16.out hb HB16.out.size)
      have HR21 := Lib.hid (qv_kept hb HR17.out)
      clear HR17
      have HR22 := Lib.hid (qv_kept hb HR18.out)
      clear HR18
      clear hb ho
      go_wp2_with fail
      refine (eqSpots_at z0 _ _ _ (qv_at HYL0.out HR21.out) HT.out).mono ?_
      rintro e w_10 ⟨rfl, hb⟩
      have S23 : w_9.heap.size ≤ w_10.heap.size := (hb).size
      have HB24 := Lib.hid (below_of HB20.out hb HB20.out.size)
      have HR25 := Lib.hid (qv_kept hb HR21.out)
      clear HR21
      have HR26 := Lib.hid (qv_kept hb HR22.out)
      clear HR22
      clear hb HT
      go_wp2_with fail
      refine (toSpots_any z1 _ _ (spots_kept HB24.out HY1.out)).mono ?_
      rintro e w_11 ⟨vt, rfl, ho, hb⟩
      have HT := Lib.hid (own_spots HYL1.out ho)
      have S27 : w_10.heap.size ≤ w_11.heap.size := (hb).size
      have HB28 := Lib.hid (below_of HB24.out hb HB24.out.size)
      have HR29 := Lib.hid (qv_kept hb HR25.out)
      clear HR25
      have HR30 := Lib.hid (qv_kept hb HR26.out)
      clear HR26
      clear hb ho
      go_wp2_with fail
      refine (eqSpots_at z1 _ _ _ (qv_at HYL1.out HR30.out) HT.out).mono ?_
      rintro e w_12 ⟨rfl, hb⟩
      have S31 : w_11.heap.size ≤ w_12.heap.size := (hb).size
      have HB32 := Lib.hid (below_of HB28.out hb HB28.out.size)
      have HR33 := Lib.hid (qv_kept hb HR29.out)
      clear HR29
      have HR34 := Lib.hid (qv_kept hb HR30.out)
      clear HR30
      clear hb HT
      go_wp2
      go_ret
      exact ⟨rfl, HB32.out⟩
    · have HL1 := Lib.hid (show (if (1048576 - (T1 : Int)) - (len1 : Int) < 0 then (-1 : Int) else (1048576 - (T1 : Int)) - (len1 : Int)) = -1 by rw [if_pos (by omega)])
      clear hI1
      clear hT1
      go_enter Try.func7, Try.ntmps7
      go_wp2_with fail
      refine (szSpots_any _ len0 _ (1048576) _ hlen0 (by omega) (by omega)).mono ?_
      rintro e w ⟨rfl, rfl⟩
      rw [HL0.out]
      go_wp2_with fail
      refine (szSpots_any _ len1 _ (1048576 - (T1 : Int)) _ hlen1 (by omega) (by omega)).mono ?_
      rintro e w ⟨rfl, rfl⟩
      rw [HL1.out]
      go_wp2
      go_ret
      exact ⟨rfl, (Below.refl _ _)⟩
  · have HL0 := Lib.hid (show (if (1048576) - (len0 : Int) < 0 then (-1 : Int) else (1048576) - (len0 : Int)) = -1 by rw [if_pos (by omega)])
    clear hI0 hI1
    go_enter Try.func7, Try.ntmps7
    go_wp2_with fail
    refine (szSpots_any _ len0 _ (1048576) _ hlen0 (by omega) (by omega)).mono ?_
    rintro e w ⟨rfl, rfl⟩
    rw [HL0.out]
    go_wp2
    go_ret
    exact ⟨rfl, (Below.refl _ _)⟩

set_option maxRecDepth 100000 in
theorem contract (H : Type) (enc : TypeId × Value → H) (W : World) (base : Nat) (args : Array Value) (ds gs : List (DataW H)) (before : List MemPlace)
    (hval : ∀ (j : Nat) t v, Try.f7.params[j]? = some t → args[j]? = some v → Value.okWide Try.prog W .any base t v)
    (hW : DataW.Whole enc Try.prog Try.f7.params.toList Rows.fnExactSameSpotsSpec.vars false W args.toList ds gs before) :
    Calls Try.prog 7 args W fun e W' => ∃ v, e = .returned v ∧ Rows.fnExactSameSpotsSpec.post enc Try.prog Try.f7 false true false false W args v W' := by
  have hW' := hW
  obtain ⟨p, q, hA0, hV, rfl, hfz, hnd⟩ := hW
  have hA : DataW.TrodAll enc Try.prog W 0 (fun _ => true) true Try.f7.params.toList args.toList ds p := hA0
  rw [Try.params7] at hA hval
  obtain ⟨v0, vs0, d0, ds0, p0, q0, hargs, rfl, rfl, h0, r0⟩ := trodAll_cons hA
  obtain ⟨v1, vs1, d1, ds1, p1, q1, hargs1, rfl, rfl, h1, r1⟩ := trodAll_cons r0
  subst hargs1
  obtain ⟨rfl, rfl, rfl⟩ := trodAll_nil r1
  obtain rfl : args = #[v0, v1] := by cases args; simp_all
  obtain ⟨rfl, rfl⟩ := trodVars_none hV
  simp only [List.append_nil] at hW'
  have hlt0 : ∀ x ∈ p0, x.block < W.heap.size := fun x hx => hW'.lt x (by simp [hx])
  have kept0 := fun (W2 : World) (hb : Below W.heap.size W W2) => Below.trod laidOut (by kernel_rfl) (of_decide_eq_true (by kernel_rfl)) h0 hb hlt0
  obtain ⟨a0, len0, cap0, rfl⟩ := okWide_slice Try.underlying32 (hval 0 32 v0 rfl rfl)
  obtain ⟨fuel0, hf0⟩ := h0
  obtain ⟨w0, hI0⟩ := spots_arg hf0 hlt0
  have hlt1 : ∀ x ∈ p1, x.block < W.heap.size := fun x hx => hW'.lt x (by simp [hx])
  have kept1 := fun (W2 : World) (hb : Below W.heap.size W W2) => Below.trod laidOut (by kernel_rfl) (of_decide_eq_true (by kernel_rfl)) h1 hb hlt1
  obtain ⟨a1, len1, cap1, rfl⟩ := okWide_slice Try.underlying32 (hval 1 32 v1 rfl rfl)
  obtain ⟨fuel1, hf1⟩ := h1
  obtain ⟨w1, hI1⟩ := spots_arg hf1 hlt1
  clear hA0
  refine (walk a0 len0 cap0 a1 len1 cap1 w0 w1 W hI0 hI1).mono fun e W' ⟨he, hg⟩ => ?_
  subst he
  refine ⟨_, rfl, post_at (pa := p0 ++ p1) (pv := []) hW' (by simp) hg (fun _ _ => (trodAll_cons_mk (shut_bool Try.underlying4 _) trodAll_mk0)) ?_ rfl⟩
  have hk := (trodAll_cons_mk (kept0 W' hg) (trodAll_cons_mk (kept1 W' hg) trodAll_mk0))
  simp only [List.append_nil] at hk
  exact hk

set_option maxRecDepth 100000 in
theorem lifted (os : Os) (started : os.Started) (H : Type) (enc : TypeId × Value → H) :
    ReturnsInHanded {} Try.checked os 7 .any (Rows.fnExactSameSpotsSpec.pre6 enc Try.prog Try.f7 Rows.fnExactSameSpotsRow.domain false) (Rows.fnExactSameSpotsSpec.post enc Try.prog Try.f7 false true false false) := by
  refine returnsInHanded_of_change (C := Try.checked) own started (by kernel_rfl) Try.func7
    (ChangeSpec.witness6 (enc := enc) (C := Try.checked) false ⟨#[], #[.slice none 0 0, .slice none 0 0], []⟩ 8 (by kernel_rfl) (by kernel_rfl) (by kernel_rfl) (by kernel_rfl)) ?_
  intro W base args ds gs before hval0 hW hcnd _
  have hval : ∀ (j : Nat) t v, Try.f7.params[j]? = some t → args[j]? = some v → Value.okWide Try.prog W .any base t v := hval0
  exact contract H enc W base args ds gs before hval hW

theorem over : Rows.fnExactSameSpotsRow.holds Try.pinned (OpenSpec.ofChange Rows.fnExactSameSpotsSpec) :=
  OpenClaim.holds_of_wide 7 Try.f7 rfl rfl rfl rfl rfl rfl rfl ⟨rfl, rfl, rfl, rfl, rfl⟩ rfl rfl rfl rfl rfl (by kernel_rfl) Try.func7 (by kernel_rfl)
    (of_decide_eq_true (by kernel_rfl)) (by unfold Func.isWrapper; first | (rw [if_pos (by decide +kernel)]; kernel_rfl) | (rw [if_neg (by decide +kernel)]; exact ⟨rfl, rfl⟩))
    (fun os started H enc _ => lifted os started H enc)
end Go.Proofs.Ytfleececlafjkaa.fnExactSameSpots

namespace Go.Proofs.Ytfleececlafjkaa
/-- The given statement. -/
theorem fnExactSameSpots_holds : Rows.FnExactSameSpotsSaid := fnExactSameSpots.over
#print axioms fnExactSameSpots_holds
end Go.Proofs.Ytfleececlafjkaa
