/- At every argument ReadCuts answers as its model, its argument is as it was, and its answer owns its memory. Condition: the package-level variables that the row lists hold what the program's text lays (the card ties them). -/
import Derived.Test.YtikoehjalcljnaaDoorCards
import Derived.Test.YtikoehjalcljnaaDoorTie
import Derived.Test.YtikoehjalcljnaaDoorBase
import Derived.Test.YtikoehjalcljnaaDoorLaidOut
import Derived.Test.YtikoehjalcljnaaDoorRdCJ
import Derived.Deep.DeepHandedRow
import Derived.Deep.DeepWitnessRowRef
import Derived.LaidMore
import Derived.Lay
namespace Go.Proofs.YtikoehjalcljnaaDoor.fnExactReadCuts
open Go.ChangeShapes Go.WideShapes Go.ChangeAt Go.RowKit
open Go.ChangeMaps (open_string shut_string)
set_option linter.unusedVariables false

theorem own : ownKnob Tryd.prog.godebug = none := by kernel_rfl

theorem facts {W : World} (h : laidMetH Tryd.prog Rows.fnExactReadCutsRow.laid W) : ReadOk W := by
  rw [MakeChecks.laidMetH_plain _ _ _ (by kernel_rfl)] at h
  have h2 := laid_tail (laid_tail h)
  have h3 := laid_tail (laid_tail h2)
  exact ⟨pow_of h2, err_of gSyn (by kernel_rfl) Tryd.underlying78 (laid_tail h3), err_of gRan (by kernel_rfl) Tryd.underlying78 h3⟩

noncomputable def laidWorld (os : Os) : World := (World.doorLaid Tryd.prog 400 os).layVars Tryd.prog [("unicode/utf8.first", Rows.laid_unicode_utf8_first)]
set_option maxRecDepth 100000 in
theorem laid_met (os : Os) : laidMetH Tryd.prog Rows.fnExactReadCutsRow.laid ((laidWorld os).forCall (fun _ _ => 0) ⟨#[], #[.string ⟨#[]⟩], []⟩).memory :=
  laidMetH_of_parts3 (fuel := 8) (laidMet_of_run' 8 (by kernel_rfl) (by kernel_rfl)) (by kernel_rfl) (by kernel_rfl)

theorem max_of {W : World} (h : W.ShapedOpen Tryd.prog) : MaxOk W := Tryd.laysM147.s1_3 W h
set_option maxRecDepth 100000 in
set_option maxHeartbeats 4000000 in
theorem walk (a0 : ByteArray) (w0 : a0.size ≤ maxLen) (w : World) (hF : Hid (ReadOk w)) (hSh : Hid (w.ShapedOpen Tryd.prog)) :
    Calls Tryd.prog 3 #[.string a0] w fun e w' => e = .returned (.bool true) ∧ Below w.heap.size w w' := by
  have HOK := Lib.hid (show RqOk w from ⟨hF.out, max_of hSh.out⟩)
  clear hF hSh
  have hmax : a0.size ≤ 9223372036854775807 := by unfold maxLen at w0; omega
  by_cases hbig : 1048576 < a0.size
  · go_enter Tryd.func3, Tryd.ntmps3
    go_wp2
    go_ret
    exact ⟨rfl, Below.refl _ _⟩
  · have HSP := Lib.hid (fun w => specRdC_any a0 w (by omega))
    have HIM := Lib.hid (fun w (h : Hid (RqOk w)) => implRdC_any a0 w (by omega) h)
    have hl1 := rsL_len a0
    generalize rsL a0 = L1 at *
    generalize rsO a0 = o at *
    have HLL := Lib.hid (show L1.length ≤ 1048576 by omega)
    obtain ⟨n1, hn1⟩ : ∃ n1, L1.length = n1 := ⟨_, rfl⟩
    have HN1 := Lib.hid hn1
    rw [hn1] at hl1
    clear hn1
    have hll : n1 ≤ 1048576 := by omega
    have hcc : (o != o) = false := by simp
    have hq3 : ((1 + 2 * (n1 : Int)) != (1 + 2 * (n1 : Int))) = false := by simp
    have hpos : ¬ (1 + 2 * (n1 : Int)) < 0 := by omega
    go_enter Tryd.func3, Tryd.ntmps3
    go_wp2_with fail
    refine (HSP.out _).mono ?_
    rintro e w1 ⟨vw, rfl, hv, hb⟩
    have OW : w.heap.size ≤ w1.heap.size := hb.size
    obtain ⟨aW, cW, rfl⟩ := cv_form hv
    rw [HN1.out] at hv ⊢
    have HWI := Lib.hid (cv_in hv)
    have HW1 := Lib.hid hv
    have HB1 := Lib.hid hb
    have HK1 := Lib.hid (rq_kept hb HOK.out)
    clear hv hb
    go_wp2_with fail
    refine (HIM.out _ HK1).mono ?_
    rintro e w2 ⟨vg, rfl, hv, hb⟩
    have OG : w1.heap.size ≤ w2.heap.size := hb.size
    obtain ⟨aG, cG, rfl⟩ := cv_form hv
    rw [HN1.out] at hv ⊢
    have HGI := Lib.hid (cv_in hv)
    have HG2 := Lib.hid hv
    have HW2 := Lib.hid (cv_kept hb HW1.out)
    have HB2 := Lib.hid (below_of HB1.out hb HB1.out.size)
    clear hv hb
    go_wp2_with fail
    refine (eqCuts_at L1 _ _ _ (cv_at HLL.out HG2.out) (cv_at HLL.out HW2.out)).mono ?_
    rintro e w3 ⟨rfl, hb⟩
    have HG3 := Lib.hid (cv_kept hb HG2.out)
    have HW3 := Lib.hid (cv_kept hb HW2.out)
    have HB3 := Lib.hid (below_of HB2.out hb HB2.out.size)
    clear hb
    go_wp2_with fail
    refine (markCv_any 1 (by omega) _ L1 _ _ HLL.out HG3.out).mono ?_
    rintro e w4 ⟨rfl, hv, hg⟩
    rw [HN1.out] at hv ⊢
    have HG4 := Lib.hid hv
    have HW4 := Lib.hid (cv_grown hg HW3.out (apart_of HWI.out HGI.out (by omega)))
    have HB4 := Lib.hid (HB3.out.trans (gb_below hg HB3.out.size (fun k hk => by have := HGI.out k hk; omega)))
    clear hv hg
    go_wp2_with fail
    refine (heldCv_any 1 (by omega) _ n1 _ _ hll HG4.out).mono ?_
    rintro e w4 ⟨rfl, rfl⟩
    have HK4 := Lib.hid (rq_kept HB4.out HOK.out)
    go_wp2_with fail
    refine (HIM.out _ HK4).mono ?_
    rintro e w5 ⟨vh, rfl, hv, hb⟩
    obtain ⟨aH, cH, rfl⟩ := cv_form hv
    rw [HN1.out] at hv ⊢
    have HH5 := Lib.hid hv
    have HG5 := Lib.hid (cv_kept hb HG4.out)
    have HW5 := Lib.hid (cv_kept hb HW4.out)
    have HB5 := Lib.hid (below_of HB4.out hb HB4.out.size)
    clear hv hb
    go_wp2_with fail
    refine (eqCuts_at L1 _ _ _ (cv_at HLL.out HH5.out) (cv_at HLL.out HW5.out)).mono ?_
    rintro e w6 ⟨rfl, hb⟩
    have HG6 := Lib.hid (cv_kept hb HG5.out)
    have HB6 := Lib.hid (below_of HB5.out hb HB5.out.size)
    clear hb
    go_wp2_with fail
    refine (heldCv_any 1 (by omega) _ n1 _ _ hll HG6.out).mono ?_
    rintro e w6 ⟨rfl, rfl⟩
    go_wp2
    go_ret
    exact ⟨rfl, HB6.out⟩

set_option maxRecDepth 100000 in
theorem contract (H : Type) (enc : TypeId × Value → H) (W : World) (base : Nat) (args : Array Value) (ds gs : List (DataW H)) (before : List MemPlace)
    (hval : ∀ (j : Nat) t v, Tryd.f3.params[j]? = some t → args[j]? = some v → Value.okWide Tryd.prog W .any base t v)
    (hW : DataW.Whole enc Tryd.prog Tryd.f3.params.toList Rows.fnExactReadCutsSpec.vars false W args.toList ds gs before) (hL : laidMetH Tryd.prog Rows.fnExactReadCutsRow.laid W) (hSh : W.ShapedOpen Tryd.prog) :
    Calls Tryd.prog 3 args W fun e W' => ∃ v, e = .returned v ∧ Rows.fnExactReadCutsSpec.post enc Tryd.prog Tryd.f3 false true false false W args v W' := by
  have hF := facts hL
  have hW' := hW
  obtain ⟨p, q, hA0, hV, rfl, hfz, hnd⟩ := hW
  have hA : DataW.TrodAll enc Tryd.prog W 0 (fun _ => true) true Tryd.f3.params.toList args.toList ds p := hA0
  rw [Tryd.params3] at hA hval
  obtain ⟨v0, vs0, d0, ds0, p0, q0, hargs, rfl, rfl, h0, r0⟩ := trodAll_cons hA
  obtain ⟨rfl, rfl, rfl⟩ := trodAll_nil r0
  obtain rfl : args = #[v0] := by cases args; simp_all
  obtain ⟨rfl, rfl⟩ := trodVars_none hV
  simp only [List.append_nil] at hW'
  have hlt0 : ∀ x ∈ p0, x.block < W.heap.size := fun x hx => hW'.lt x (by simp [hx])
  have kept0 := fun (W2 : World) (hb : Below W.heap.size W W2) => Below.trod laidOut (by kernel_rfl) (of_decide_eq_true (by kernel_rfl)) h0 hb hlt0
  obtain ⟨a0, rfl, -, -, w0⟩ := open_string Tryd.underlying9 (hval 0 9 v0 rfl rfl) h0
  clear hA0
  refine (walk a0 w0 W (Lib.hid hF) (Lib.hid hSh)).mono fun e W' ⟨he, hg⟩ => ?_
  subst he
  refine ⟨_, rfl, post_at (pa := p0) (pv := []) hW' (by simp) hg (fun _ _ => (trodAll_cons_mk (shut_bool Tryd.underlying4 _) trodAll_mk0)) ?_ rfl⟩
  have hk := (trodAll_cons_mk (kept0 W' hg) trodAll_mk0)
  simp only [List.append_nil] at hk
  exact hk

set_option maxRecDepth 100000 in
theorem reads (os : Os) {H : Type} (enc : TypeId × Value → H) : DataW.whole enc Tryd.prog ((laidWorld os).forCall (fun _ _ => 0) ⟨#[], #[.string ⟨#[]⟩], []⟩).memory Tryd.f3.params.toList Rows.fnExactReadCutsSpec.vars false (#[.string ⟨#[]⟩] : Array Value).toList 8
    = some ([.lit (.string [])], [], []) := by kernel_rfl

set_option maxRecDepth 100000 in
theorem lifted (os : Os) (started : os.Started) (H : Type) (enc : TypeId × Value → H) (F : Stop.Interp) :
    ReturnsInHanded {} Tryd.checked os 3 .any ((OpenSpec.ofChange Rows.fnExactReadCutsSpec).preRow enc Tryd.prog Tryd.f3 Rows.fnExactReadCutsRow.domain false Rows.fnExactReadCutsRow.laid) (((OpenSpec.ofChange Rows.fnExactReadCutsSpec).at F).post enc Tryd.prog Tryd.f3 false true false false) := by
  refine returnsInHanded_of_row (C := Tryd.checked) (s := OpenSpec.ofChange Rows.fnExactReadCutsSpec) own started (by kernel_rfl) Tryd.func3
    (witness_row_atRef (enc := enc) (C := Tryd.checked) false (laidWorld os) #[.string ⟨#[]⟩] (World.layVars_os _ _ _) (by kernel_rfl) (by kernel_rfl) (by kernel_rfl)
      (OpenSpec.preRow_of_cond 8 (reads os enc) (by kernel_rfl) (fun k hk => by cases hk) (by kernel_rfl) (laid_met os))) ?_
  intro W base args ds gs before hval hW _ _ hr hL hSh _
  exact contract H enc W base args ds gs before hval hW hL hSh

theorem said : Rows.FnExactReadCutsSaid :=
  OpenClaim.holds_of_cond 3 Tryd.f3 rfl rfl rfl rfl rfl rfl rfl ⟨rfl, rfl, rfl, rfl, rfl⟩ rfl rfl rfl rfl rfl (by kernel_rfl) Tryd.func3 (by kernel_rfl)
    (of_decide_eq_true (by kernel_rfl)) (by unfold Func.isWrapper; first | (rw [if_pos (by decide +kernel)]; kernel_rfl) | (rw [if_neg (by decide +kernel)]; exact ⟨rfl, rfl⟩))
    (fun os started H enc _ F => by rw [OpenClaim.pre_eq_preRow]; exact lifted os started H enc F)

theorem plain (f : FuncId) (fn : Func) (hf : Tryd.pinned.checked.prog.funcNamed "loop.example/g00952/laws.FnExactReadCuts" = some f) (hfn : Tryd.pinned.checked.prog.funcs[f]? = some fn) :
    true = Tryd.pinned.checked.prog.looks [] ∧ ∀ (j : Nat) t, fn.params[j]? = some t → Tryd.pinned.checked.prog.wantsStandIn t = false := by
  obtain rfl : f = 3 := Option.some.inj ((show Tryd.prog.funcNamed "loop.example/g00952/laws.FnExactReadCuts" = some 3 by kernel_rfl).symm.trans hf) |>.symm
  obtain rfl : fn = Tryd.f3 := (Option.some.inj (Tryd.func3.symm.trans hfn)).symm
  refine ⟨by kernel_rfl, fun j t ht => ?_⟩
  rw [Tryd.params3] at ht
  obtain rfl : t = 9 := by simpa using Array.mem_of_getElem? ht
  exact (show Tryd.prog.wantsStandIn 9 = false by kernel_rfl)
end Go.Proofs.YtikoehjalcljnaaDoor.fnExactReadCuts

namespace Go.Proofs.YtikoehjalcljnaaDoor
/-- The given card. -/
theorem fnExactReadCuts_holds : Rows.FnExactReadCutsCardSaid :=
  Claim7.holds_tied_plain_at .later [] _ _ _ _ fnExactReadCuts.said (fun _ h => by cases h) (by kernel_rfl) (fun _ h => by cases h) fnExactReadCuts_row_tie rfl ⟨rfl, rfl⟩ (by kernel_rfl) rfl fnExactReadCuts.plain (by kernel_rfl)
#print axioms fnExactReadCuts_holds
end Go.Proofs.YtikoehjalcljnaaDoor
