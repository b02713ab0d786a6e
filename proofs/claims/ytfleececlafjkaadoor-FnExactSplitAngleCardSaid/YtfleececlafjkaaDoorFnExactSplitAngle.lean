/- At every argument SplitAngle answers as its model, and its arguments are as they were. Condition: the package-level variables that the row lists hold what the program's text lays (the card ties them). -/
import Derived.Test.YtfleececlafjkaaDoorCards
import Derived.Test.YtfleececlafjkaaDoorTie
import Derived.Test.YtfleececlafjkaaDoorBase
import Derived.Test.YtfleececlafjkaaDoorLaidOut
import Derived.Test.YtfleececlafjkaaDoorDirI
import Derived.Deep.DeepHandedRow
import Derived.Deep.DeepWitnessRowRef
import Derived.LaidMore
namespace Go.Proofs.YtfleececlafjkaaDoor.fnExactSplitAngle
open Go.ChangeShapes Go.WideShapes Go.ChangeAt Go.RowKit
open Go.ChangeMaps (open_string shut_string)
set_option linter.unusedVariables false

theorem own : ownKnob Tryd.prog.godebug = none := by kernel_rfl

theorem gTab : Tryd.prog.globalNamed "loop.example/g00952/impl.quarterSines" = some 0 := gSin
theorem gTabType : (Tryd.prog.globals[0]?).map (·.type) = some 54 := gSinType
theorem facts {W : World} (h : laidMetH Tryd.prog Rows.fnExactSplitAngleRow.laid W) : SinOk W := by
  rw [MakeChecks.laidMetH_plain _ _ _ (by kernel_rfl)] at h
  exact sin_of h
set_option maxRecDepth 100000 in
set_option maxHeartbeats 8000000 in
theorem walk (p0 : Option Addr) (len0 cap0 : Nat) (a1 : Int) (w0 : len0 ≤ 9223372036854775807) (w1 : (Lit.int .i64 a1).wf = true) (w : World) (hI0 : len0 ≤ 1048576 → ∃ zs : List Qt, zs.length = len0 ∧ SpotsAt w (.slice p0 len0 cap0) zs) (hF : Hid (SinOk w)) :
    Calls Tryd.prog 5 #[.slice p0 len0 cap0, .int .i64 a1] w fun e w' => e = .returned (.bool true) ∧ Below w.heap.size w w' := by
  have hlen0 := w0
  clear w0
  have bd1 := wf_bd w1
  clear w1
  by_cases hbig0 : (len0) ≤ 1048576
  · obtain ⟨T1, hT1⟩ : ∃ T, (len0) = T := ⟨_, rfl⟩
    have HL0 := Lib.hid (show (if (1048576) - (len0 : Int) < 0 then (-1 : Int) else (1048576) - (len0 : Int)) = 1048576 - (T1 : Int) by rw [if_neg (by omega)]; omega)
    have hTb1 : T1 ≤ 1048576 := by omega
    obtain ⟨z0, hzn0, hzi0⟩ := hI0 (by omega)
    have HZN0 := Lib.hid hzn0
    have HY0 := Lib.hid hzi0
    have HYL0 := Lib.hid (show z0.length ≤ 1048576 by omega)
    clear hzn0 hzi0 hI0
    have hTl0 : len0 ≤ 1048576 := by omega
    clear hT1 hbig0
    obtain ⟨r0, r1, hsp, him⟩ : ∃ (r0 : Int) (r1 : Int), (∀ u0 w, SpotsAt w u0 z0 → SinOk w → Calls Tryd.prog 13 #[u0, .int .i64 a1] w (fun e w' => e = .returned (.tuple #[.int .i64 r0, .int .i64 r1]) ∧ Below w.heap.size w w')) ∧ (∀ u0 w, SpotsAt w u0 z0 → SinOk w → Calls Tryd.prog 14 #[u0, .int .i64 a1] w (fun e w' => e = .returned (.tuple #[.int .i64 r0, .int .i64 r1]) ∧ Below w.heap.size w w')) :=
      ⟨saR a1 z0, saC a1 z0, fun u0 w h _ => specSA_any a1 z0 u0 w h, fun u0 w h hs => implSA_any a1 z0 u0 w hs h⟩
    have hrr0 : (r0 != r0) = false := by simp
    have hrr1 : (r1 != r1) = false := by simp
    have HSP := Lib.hid hsp
    have HIM := Lib.hid him
    clear hsp him
    go_enter Tryd.func5, Tryd.ntmps5
    go_wp2_with fail
    refine (szSpots_any _ len0 _ (1048576) _ hlen0 (by omega) (by omega)).mono ?_
    rintro e w ⟨rfl, rfl⟩
    rw [HL0.out]
    go_wp2_with fail
    refine (toSpots_any z0 _ _ (spots_kept (Below.refl _ _) HY0.out)).mono ?_
    rintro e w_2 ⟨vx0, rfl, ho, hb⟩
    have HO1 := Lib.hid ((own_spots HYL0.out ho))
    have S2 : w.heap.size ≤ w_2.heap.size := (hb).size
    have HB3 := Lib.hid (hb)
    clear hb ho
    go_wp2_with fail
    refine (HSP.out vx0 _ HO1.out (sin_kept HB3.out hF.out)).mono ?_
    rintro e w_3 ⟨rfl, hb⟩
    have S4 : w_2.heap.size ≤ w_3.heap.size := (hb).size
    have HB5 := Lib.hid (below_of HB3.out hb HB3.out.size)
    clear hb HO1
    go_wp2_with fail
    refine (toSpots_any z0 _ _ (spots_kept HB5.out HY0.out)).mono ?_
    rintro e w_4 ⟨vx0, rfl, ho, hb⟩
    have hv := qv_own ho
    obtain ⟨aZ0, cZ0, rfl⟩ := qv_form hv
    rw [HZN0.out] at hv ⊢
    have HX0I := Lib.hid (qv_in hv)
    have HX0R := Lib.hid hv
    clear hv
    have S6 : w_3.heap.size ≤ w_4.heap.size := (hb).size
    have HB7 := Lib.hid (below_of HB5.out hb HB5.out.size)
    clear hb ho
    go_wp2_with fail
    refine (HIM.out _ _ (qv_at HYL0.out HX0R.out) (sin_kept HB7.out hF.out)).mono ?_
    rintro e w_5 ⟨rfl, hb⟩
    have S8 : w_4.heap.size ≤ w_5.heap.size := (hb).size
    have HB9 := Lib.hid (below_of HB7.out hb HB7.out.size)
    have HR10 := Lib.hid (qv_kept hb HX0R.out)
    clear HX0R
    clear hb 
    go_wp2_with fail
    refine (toSpots_any z0 _ _ (spots_kept HB9.out HY0.out)).mono ?_
    rintro e w_6 ⟨vt, rfl, ho, hb⟩
    have HT := Lib.hid (own_spots HYL0.out ho)
    have S11 : w_5.heap.size ≤ w_6.heap.size := (hb).size
    have HB12 := Lib.hid (below_of HB9.out hb HB9.out.size)
    have HR13 := Lib.hid (qv_kept hb HR10.out)
    clear HR10
    clear hb ho
    go_wp2_with fail
    refine (eqSpots_at z0 _ _ _ (qv_at HYL0.out HR13.out) HT.out).mono ?_
    rintro e w_7 ⟨rfl, hb⟩
    have S14 : w_6.heap.size ≤ w_7.heap.size := (hb).size
    have HB15 := Lib.hid (below_of HB12.out hb HB12.out.size)
    have HR16 := Lib.hid (qv_kept hb HR13.out)
    clear HR13
    clear hb HT
    go_wp2
    go_ret
    exact ⟨rfl, HB15.out⟩
  · have HL0 := Lib.hid (show (if (1048576) - (len0 : Int) < 0 then (-1 : Int) else (1048576) - (len0 : Int)) = -1 by rw [if_pos (by omega)])
    clear hI0
    go_enter Tryd.func5, Tryd.ntmps5
    go_wp2_with fail
    refine (szSpots_any _ len0 _ (1048576) _ hlen0 (by omega) (by omega)).mono ?_
    rintro e w ⟨rfl, rfl⟩
    rw [HL0.out]
    go_wp2
    go_ret
    exact ⟨rfl, (Below.refl _ _)⟩

set_option maxRecDepth 100000 in
theorem contract (H : Type) (enc : TypeId × Value → H) (W : World) (base : Nat) (args : Array Value) (ds gs : List (DataW H)) (before : List MemPlace)
    (hval : ∀ (j : Nat) t v, Tryd.f5.params[j]? = some t → args[j]? = some v → Value.okWide Tryd.prog W .any base t v)
    (hW : DataW.Whole enc Tryd.prog Tryd.f5.params.toList Rows.fnExactSplitAngleSpec.vars false W args.toList ds gs before) (hL : laidMetH Tryd.prog Rows.fnExactSplitAngleRow.laid W) (hSh : W.ShapedOpen Tryd.prog) :
    Calls Tryd.prog 5 args W fun e W' => ∃ v, e = .returned v ∧ Rows.fnExactSplitAngleSpec.post enc Tryd.prog Tryd.f5 false true false false W args v W' := by
  have hF := facts hL
  have hW' := hW
  obtain ⟨p, q, hA0, hV, rfl, hfz, hnd⟩ := hW
  have hA : DataW.TrodAll enc Tryd.prog W 0 (fun _ => true) true Tryd.f5.params.toList args.toList ds p := hA0
  rw [Tryd.params5] at hA hval
  obtain ⟨v0, vs0, d0, ds0, p0, q0, hargs, rfl, rfl, h0, r0⟩ := trodAll_cons hA
  obtain ⟨v1, vs1, d1, ds1, p1, q1, hargs1, rfl, rfl, h1, r1⟩ := trodAll_cons r0
  subst hargs1
  obtain ⟨rfl, rfl, rfl⟩ := trodAll_nil r1
  obtain rfl : args = #[v0, v1] := by cases args; simp_all
  obtain ⟨gv, tv, cs, fuelv, dv, pv, rfl, hgv, htv, hv, hdv, rfl⟩ := trodVars_one hV
  obtain rfl := Option.some.inj (gTab.symm.trans hgv)
  obtain rfl := Option.some.inj (gTabType.symm.trans htv)
  simp only [List.append_nil] at hW'
  have hlt0 : ∀ x ∈ p0, x.block < W.heap.size := fun x hx => hW'.lt x (by simp [hx])
  have kept0 := fun (W2 : World) (hb : Below W.heap.size W W2) => Below.trod laidOut (by kernel_rfl) (of_decide_eq_true (by kernel_rfl)) h0 hb hlt0
  obtain ⟨a0, len0, cap0, rfl⟩ := okWide_slice Tryd.underlying24 (hval 0 24 v0 rfl rfl)
  obtain ⟨fuel0, hf0⟩ := h0
  obtain ⟨w0, hI0⟩ := spots_arg hf0 hlt0
  have hlt1 : ∀ x ∈ p1, x.block < W.heap.size := fun x hx => hW'.lt x (by simp [hx])
  have kept1 := fun (W2 : World) (hb : Below W.heap.size W W2) => Below.trod laidOut (by kernel_rfl) (of_decide_eq_true (by kernel_rfl)) h1 hb hlt1
  obtain ⟨a1, rfl, -, -, w1⟩ := open_int Tryd.underlying2 (hval 1 2 v1 rfl rfl) h1
  clear hA0
  refine (walk a0 len0 cap0 a1 w0 w1 W hI0 (Lib.hid hF)).mono fun e W' ⟨he, hg⟩ => ?_
  subst he
  refine ⟨_, rfl, post_at (pa := p0 ++ p1) (pv := MemPlace.row ⟨0, 0, none⟩ cs.size ++ pv) hW' (by simp) hg (fun _ _ => (trodAll_cons_mk (shut_bool Tryd.underlying4 _) trodAll_mk0)) ?_ (trodVars_mk1 gTab gTabType (var?_below hg gTab (var_size gTab hv) hv) (by rw [← hdv]; exact trod_ints_any Tryd.underlying54 Tryd.underlying2))⟩
  have hk := (trodAll_cons_mk (kept0 W' hg) (trodAll_cons_mk (kept1 W' hg) trodAll_mk0))
  simp only [List.append_nil] at hk
  exact hk

noncomputable def laidWorld (os : Os) : World := World.doorLaid Tryd.prog 400 os
set_option maxRecDepth 100000 in
theorem laid_met (os : Os) : laidMetH Tryd.prog Rows.fnExactSplitAngleRow.laid ((laidWorld os).forCall (fun _ _ => 0) ⟨#[], #[.slice none 0 0, .int .i64 0], []⟩).memory :=
  laidMetH_of_parts3 (fuel := 8) (laidMet_of_run' 8 (by kernel_rfl) (by kernel_rfl)) (by kernel_rfl) (by kernel_rfl)
set_option maxRecDepth 100000 in
theorem reads (os : Os) {H : Type} (enc : TypeId × Value → H) : DataW.whole enc Tryd.prog ((laidWorld os).forCall (fun _ _ => 0) ⟨#[], #[.slice none 0 0, .int .i64 0], []⟩).memory Tryd.f5.params.toList Rows.fnExactSplitAngleSpec.vars false (#[.slice none 0 0, .int .i64 0] : Array Value).toList 8
    = some ([.nil, .lit (.int .i64 0)], [Rows.laid_loop_example_g00952_impl_quarterSines], MemPlace.row ⟨0, 0, none⟩ 91) := by kernel_rfl

set_option maxRecDepth 100000 in
theorem lifted (os : Os) (started : os.Started) (H : Type) (enc : TypeId × Value → H) (F : Stop.Interp) :
    ReturnsInHanded {} Tryd.checked os 5 .any ((OpenSpec.ofChange Rows.fnExactSplitAngleSpec).preRow enc Tryd.prog Tryd.f5 Rows.fnExactSplitAngleRow.domain false Rows.fnExactSplitAngleRow.laid) (((OpenSpec.ofChange Rows.fnExactSplitAngleSpec).at F).post enc Tryd.prog Tryd.f5 false true false false) := by
  refine returnsInHanded_of_row (C := Tryd.checked) (s := OpenSpec.ofChange Rows.fnExactSplitAngleSpec) own started (by kernel_rfl) Tryd.func5
    (witness_row_atRef (enc := enc) (C := Tryd.checked) false (laidWorld os) #[.slice none 0 0, .int .i64 0] rfl (by kernel_rfl) (by kernel_rfl) (by kernel_rfl)
      (OpenSpec.preRow_of_cond 8 (reads os enc) (by kernel_rfl) (fun k hk => by cases hk) (by kernel_rfl) (laid_met os))) ?_
  intro W base args ds gs before hval hW _ _ hr hL hSh _
  exact contract H enc W base args ds gs before hval hW hL hSh

theorem said : Rows.FnExactSplitAngleSaid :=
  OpenClaim.holds_of_cond 5 Tryd.f5 rfl rfl rfl rfl rfl rfl rfl ⟨rfl, rfl, rfl, rfl, rfl⟩ rfl rfl rfl rfl rfl (by kernel_rfl) Tryd.func5 (by kernel_rfl)
    (of_decide_eq_true (by kernel_rfl)) (by unfold Func.isWrapper; first | (rw [if_pos (by decide +kernel)]; kernel_rfl) | (rw [if_neg (by decide +kernel)]; exact ⟨rfl, rfl⟩))
    (fun os started H enc _ F => by rw [OpenClaim.pre_eq_preRow]; exact lifted os started H enc F)

theorem plain (f : FuncId) (fn : Func) (hf : Tryd.pinned.checked.prog.funcNamed "loop.example/g00952/laws.FnExactSplitAngle" = some f) (hfn : Tryd.pinned.checked.prog.funcs[f]? = some fn) :
    false = Tryd.pinned.checked.prog.looks [] ∧ ∀ (j : Nat) t, fn.params[j]? = some t → Tryd.pinned.checked.prog.wantsStandIn t = false := by
  obtain rfl : f = 5 := Option.some.inj ((show Tryd.prog.funcNamed "loop.example/g00952/laws.FnExactSplitAngle" = some 5 by kernel_rfl).symm.trans hf) |>.symm
  obtain rfl : fn = Tryd.f5 := (Option.some.inj (Tryd.func5.symm.trans hfn)).symm
  refine ⟨by kernel_rfl, fun j t ht => ?_⟩
  rw [Tryd.params5] at ht
  have hm : t = 24 ∨ t = 2 := by simpa using Array.mem_of_getElem? ht
  rcases hm with rfl | rfl
  · exact (show Tryd.prog.wantsStandIn 24 = false by kernel_rfl)
  · exact (show Tryd.prog.wantsStandIn 2 = false by kernel_rfl)
end Go.Proofs.YtfleececlafjkaaDoor.fnExactSplitAngle

namespace Go.Proofs.YtfleececlafjkaaDoor
/-- The given card. -/
theorem fnExactSplitAngle_holds : Rows.FnExactSplitAngleCardSaid :=
  Claim7.holds_tied_plain_at .later [] _ _ _ _ fnExactSplitAngle.said (fun _ h => by cases h) (by kernel_rfl) (fun _ h => by cases h) fnExactSplitAngle_row_tie rfl ⟨rfl, rfl⟩ (by kernel_rfl) rfl fnExactSplitAngle.plain (by kernel_rfl)
#print axioms fnExactSplitAngle_holds
end Go.Proofs.YtfleececlafjkaaDoor
