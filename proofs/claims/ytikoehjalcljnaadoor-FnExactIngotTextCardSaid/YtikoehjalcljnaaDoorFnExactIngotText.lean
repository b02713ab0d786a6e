/- At every argument IngotText answers as its model, and its argument is as it was. Condition: the package-level variables that the row lists hold what the program's text lays (the card ties them). -/
import Derived.Test.YtikoehjalcljnaaDoorCards
import Derived.Test.YtikoehjalcljnaaDoorTie
import Derived.Test.YtikoehjalcljnaaDoorBase
import Derived.Test.YtikoehjalcljnaaDoorLaidOut
import Derived.Test.YtikoehjalcljnaaDoorIngT
import Derived.Deep.DeepHandedRow
import Derived.Deep.DeepWitnessRowRef
import Derived.LaidMore
namespace Go.Proofs.YtikoehjalcljnaaDoor.fnExactIngotText
open Go.ChangeShapes Go.WideShapes Go.ChangeAt Go.RowKit
open Go.ChangeMaps (open_string shut_string)
set_option linter.unusedVariables false

theorem own : ownKnob Tryd.prog.godebug = none := by kernel_rfl

theorem facts {W : World} (h : laidMetH Tryd.prog Rows.fnExactIngotTextRow.laid W) : PowOk W := by
  rw [MakeChecks.laidMetH_plain _ _ _ (by kernel_rfl)] at h
  exact pow_of (laid_tail (laid_tail h))
set_option maxRecDepth 100000 in
set_option maxHeartbeats 8000000 in
theorem walk (s0n : ByteArray) (s0a s0b s0c s0e : Int) (w0 : s0n.size ≤ 9223372036854775807 ∧ (Lit.int .i64 s0a).wf = true ∧ (Lit.int .i64 s0b).wf = true ∧ (Lit.int .i64 s0c).wf = true ∧ (Lit.int .i64 s0e).wf = true) (w : World) (hF : Hid (PowOk w)) :
    Calls Tryd.prog 4 #[.agg #[.string s0n, .int .i64 s0a, .int .i64 s0b, .int .i64 s0c, .int .i64 s0e]] w fun e w' => e = .returned (.bool true) ∧ Below w.heap.size w w' := by
  obtain ⟨hs0, hw0'⟩ := w0
  have hw0 := Lib.hid hw0'
  clear hw0'
  by_cases hbig0 : (s0n.size) ≤ 1048576
  · obtain ⟨T1, hT1⟩ : ∃ T, (s0n.size) = T := ⟨_, rfl⟩
    have HL0 := Lib.hid (show (if (1048576) - (s0n.size : Int) < 0 then (-1 : Int) else (1048576) - (s0n.size : Int)) = 1048576 - (T1 : Int) by rw [if_neg (by omega)]; omega)
    have hTb1 : T1 ≤ 1048576 := by omega
    clear hT1 hbig0
    obtain ⟨r0, hsp, him⟩ : ∃ (r0 : ByteArray), (∀ w, PowOk w → Calls Tryd.prog 12 #[.agg #[.string s0n, .int .i64 s0a, .int .i64 s0b, .int .i64 s0c, .int .i64 s0e]] w (fun e w' => e = .returned (.string r0) ∧ Below w.heap.size w w')) ∧ (∀ w, PowOk w → Calls Tryd.prog 14 #[.agg #[.string s0n, .int .i64 s0a, .int .i64 s0b, .int .i64 s0c, .int .i64 s0e]] w (fun e w' => e = .returned (.string r0) ∧ Below w.heap.size w w')) :=
      ⟨ingTx s0n s0a s0b s0c s0e, fun w _ => specIT_any s0n s0a s0b s0c s0e w (by unfold maxLen; omega), fun w hp => implIT_any s0n s0a s0b s0c s0e w (by unfold maxLen; omega) (Lib.hid hp)⟩
    have hrr0 : (r0.toList != r0.toList) = false := by simp
    have HSP := Lib.hid hsp
    have HIM := Lib.hid him
    clear hsp him
    go_enter Tryd.func4, Tryd.ntmps4
    have f1 : (w.alloc (.cells #[.string s0n, .int .i64 s0a, .int .i64 s0b, .int .i64 s0c, .int .i64 s0e] 31)).cell? ⟨w.heap.size, 0, none⟩ = some (.string s0n) := by go_simp
    have f2 : (w.alloc (.cells #[.string s0n, .int .i64 s0a, .int .i64 s0b, .int .i64 s0c, .int .i64 s0e] 31)).cell? ⟨w.heap.size, 1, none⟩ = some (.int .i64 s0a) := by go_simp
    have f3 : (w.alloc (.cells #[.string s0n, .int .i64 s0a, .int .i64 s0b, .int .i64 s0c, .int .i64 s0e] 31)).cell? ⟨w.heap.size, 2, none⟩ = some (.int .i64 s0b) := by go_simp
    have f4 : (w.alloc (.cells #[.string s0n, .int .i64 s0a, .int .i64 s0b, .int .i64 s0c, .int .i64 s0e] 31)).cell? ⟨w.heap.size, 3, none⟩ = some (.int .i64 s0c) := by go_simp
    have f5 : (w.alloc (.cells #[.string s0n, .int .i64 s0a, .int .i64 s0b, .int .i64 s0c, .int .i64 s0e] 31)).cell? ⟨w.heap.size, 4, none⟩ = some (.int .i64 s0e) := by go_simp
    have l6 : w.heap.size < (w.alloc (.cells #[.string s0n, .int .i64 s0a, .int .i64 s0b, .int .i64 s0c, .int .i64 s0e] 31)).heap.size := by simp
    have S7 : w.heap.size + 1 ≤ (w.alloc (.cells #[.string s0n, .int .i64 s0a, .int .i64 s0b, .int .i64 s0c, .int .i64 s0e] 31)).heap.size := by simp <;> omega
    have HB8 := Lib.hid ((below_alG w (.cells #[.string s0n, .int .i64 s0a, .int .i64 s0b, .int .i64 s0c, .int .i64 s0e] 31)))
    go_wp2_with fail
    generalize (w.alloc (.cells #[.string s0n, .int .i64 s0a, .int .i64 s0b, .int .i64 s0c, .int .i64 s0e] 31)) = wb at *
    refine (szIngot_any s0n s0a s0b s0c s0e (1048576) _ hs0 (by omega) (by omega)).mono ?_
    rintro e w_1 ⟨rfl, hb⟩
    rw [HL0.out]
    have S9 : wb.heap.size ≤ w_1.heap.size := (hb).size
    have f10 : w_1.cell? ⟨w.heap.size, 0, none⟩ = some (.string s0n) := (below_cell hb _ _ l6).trans f1
    have f11 : w_1.cell? ⟨w.heap.size, 1, none⟩ = some (.int .i64 s0a) := (below_cell hb _ _ l6).trans f2
    have f12 : w_1.cell? ⟨w.heap.size, 2, none⟩ = some (.int .i64 s0b) := (below_cell hb _ _ l6).trans f3
    have f13 : w_1.cell? ⟨w.heap.size, 3, none⟩ = some (.int .i64 s0c) := (below_cell hb _ _ l6).trans f4
    have f14 : w_1.cell? ⟨w.heap.size, 4, none⟩ = some (.int .i64 s0e) := (below_cell hb _ _ l6).trans f5
    have l15 : w.heap.size < w_1.heap.size := Nat.lt_of_lt_of_le l6 (hb).size
    clear f1 f2 f3 f4 f5 l6
    have HB16 := Lib.hid (below_of HB8.out hb HB8.out.size)
    clear hb 
    go_wp2_with fail
    refine (toIngot_any s0n s0a s0b s0c s0e _).mono ?_
    rintro e w_2 ⟨rfl, hb⟩
    have S17 : w_1.heap.size ≤ w_2.heap.size := (hb).size
    have f18 : w_2.cell? ⟨w.heap.size, 0, none⟩ = some (.string s0n) := (below_cell hb _ _ l15).trans f10
    have f19 : w_2.cell? ⟨w.heap.size, 1, none⟩ = some (.int .i64 s0a) := (below_cell hb _ _ l15).trans f11
    have f20 : w_2.cell? ⟨w.heap.size, 2, none⟩ = some (.int .i64 s0b) := (below_cell hb _ _ l15).trans f12
    have f21 : w_2.cell? ⟨w.heap.size, 3, none⟩ = some (.int .i64 s0c) := (below_cell hb _ _ l15).trans f13
    have f22 : w_2.cell? ⟨w.heap.size, 4, none⟩ = some (.int .i64 s0e) := (below_cell hb _ _ l15).trans f14
    have l23 : w.heap.size < w_2.heap.size := Nat.lt_of_lt_of_le l15 (hb).size
    clear f10 f11 f12 f13 f14 l15
    have HB24 := Lib.hid (below_of HB16.out hb HB16.out.size)
    clear hb 
    go_wp2_with fail
    refine (HSP.out _ (pow_kept HB24.out hF.out)).mono ?_
    rintro e w_3 ⟨rfl, hb⟩
    have S25 : w_2.heap.size ≤ w_3.heap.size := (hb).size
    have f26 : w_3.cell? ⟨w.heap.size, 0, none⟩ = some (.string s0n) := (below_cell hb _ _ l23).trans f18
    have f27 : w_3.cell? ⟨w.heap.size, 1, none⟩ = some (.int .i64 s0a) := (below_cell hb _ _ l23).trans f19
    have f28 : w_3.cell? ⟨w.heap.size, 2, none⟩ = some (.int .i64 s0b) := (below_cell hb _ _ l23).trans f20
    have f29 : w_3.cell? ⟨w.heap.size, 3, none⟩ = some (.int .i64 s0c) := (below_cell hb _ _ l23).trans f21
    have f30 : w_3.cell? ⟨w.heap.size, 4, none⟩ = some (.int .i64 s0e) := (below_cell hb _ _ l23).trans f22
    have l31 : w.heap.size < w_3.heap.size := Nat.lt_of_lt_of_le l23 (hb).size
    clear f18 f19 f20 f21 f22 l23
    have HB32 := Lib.hid (below_of HB24.out hb HB24.out.size)
    clear hb 
    go_wp2_with fail
    refine (toIngot_any s0n s0a s0b s0c s0e _).mono ?_
    rintro e w_4 ⟨rfl, hb⟩
    have S33 : w_3.heap.size ≤ w_4.heap.size := (hb).size
    have f34 : w_4.cell? ⟨w.heap.size, 0, none⟩ = some (.string s0n) := (below_cell hb _ _ l31).trans f26
    have f35 : w_4.cell? ⟨w.heap.size, 1, none⟩ = some (.int .i64 s0a) := (below_cell hb _ _ l31).trans f27
    have f36 : w_4.cell? ⟨w.heap.size, 2, none⟩ = some (.int .i64 s0b) := (below_cell hb _ _ l31).trans f28
    have f37 : w_4.cell? ⟨w.heap.size, 3, none⟩ = some (.int .i64 s0c) := (below_cell hb _ _ l31).trans f29
    have f38 : w_4.cell? ⟨w.heap.size, 4, none⟩ = some (.int .i64 s0e) := (below_cell hb _ _ l31).trans f30
    have l39 : w.heap.size < w_4.heap.size := Nat.lt_of_lt_of_le l31 (hb).size
    clear f26 f27 f28 f29 f30 l31
    have HB40 := Lib.hid (below_of HB32.out hb HB32.out.size)
    clear hb 
    go_wp2_with fail
    refine (HIM.out _ (pow_kept HB40.out hF.out)).mono ?_
    rintro e w_5 ⟨rfl, hb⟩
    have S41 : w_4.heap.size ≤ w_5.heap.size := (hb).size
    have f42 : w_5.cell? ⟨w.heap.size, 0, none⟩ = some (.string s0n) := (below_cell hb _ _ l39).trans f34
    have f43 : w_5.cell? ⟨w.heap.size, 1, none⟩ = some (.int .i64 s0a) := (below_cell hb _ _ l39).trans f35
    have f44 : w_5.cell? ⟨w.heap.size, 2, none⟩ = some (.int .i64 s0b) := (below_cell hb _ _ l39).trans f36
    have f45 : w_5.cell? ⟨w.heap.size, 3, none⟩ = some (.int .i64 s0c) := (below_cell hb _ _ l39).trans f37
    have f46 : w_5.cell? ⟨w.heap.size, 4, none⟩ = some (.int .i64 s0e) := (below_cell hb _ _ l39).trans f38
    have l47 : w.heap.size < w_5.heap.size := Nat.lt_of_lt_of_le l39 (hb).size
    clear f34 f35 f36 f37 f38 l39
    have HB48 := Lib.hid (below_of HB40.out hb HB40.out.size)
    clear hb 
    go_wp2
    go_ret
    exact ⟨rfl, HB48.out⟩
  · have HL0 := Lib.hid (show (if (1048576) - (s0n.size : Int) < 0 then (-1 : Int) else (1048576) - (s0n.size : Int)) = -1 by rw [if_pos (by omega)])
    go_enter Tryd.func4, Tryd.ntmps4
    have HB49 := Lib.hid ((below_alG w (.cells #[.string s0n, .int .i64 s0a, .int .i64 s0b, .int .i64 s0c, .int .i64 s0e] 31)))
    go_wp2_with fail
    generalize (w.alloc (.cells #[.string s0n, .int .i64 s0a, .int .i64 s0b, .int .i64 s0c, .int .i64 s0e] 31)) = wb at *
    refine (szIngot_any s0n s0a s0b s0c s0e (1048576) _ hs0 (by omega) (by omega)).mono ?_
    rintro e w_6 ⟨rfl, hb⟩
    rw [HL0.out]
    have S50 : wb.heap.size ≤ w_6.heap.size := (hb).size
    have HB51 := Lib.hid (below_of HB49.out hb HB49.out.size)
    clear hb 
    go_wp2
    go_ret
    exact ⟨rfl, HB51.out⟩

set_option maxRecDepth 100000 in
theorem contract (H : Type) (enc : TypeId × Value → H) (W : World) (base : Nat) (args : Array Value) (ds gs : List (DataW H)) (before : List MemPlace)
    (hval : ∀ (j : Nat) t v, Tryd.f4.params[j]? = some t → args[j]? = some v → Value.okWide Tryd.prog W .any base t v)
    (hW : DataW.Whole enc Tryd.prog Tryd.f4.params.toList Rows.fnExactIngotTextSpec.vars false W args.toList ds gs before) (hL : laidMetH Tryd.prog Rows.fnExactIngotTextRow.laid W) (hSh : W.ShapedOpen Tryd.prog) :
    Calls Tryd.prog 4 args W fun e W' => ∃ v, e = .returned v ∧ Rows.fnExactIngotTextSpec.post enc Tryd.prog Tryd.f4 false true false false W args v W' := by
  have hF := facts hL
  have hW' := hW
  obtain ⟨p, q, hA0, hV, rfl, hfz, hnd⟩ := hW
  have hA : DataW.TrodAll enc Tryd.prog W 0 (fun _ => true) true Tryd.f4.params.toList args.toList ds p := hA0
  rw [Tryd.params4] at hA hval
  obtain ⟨v0, vs0, d0, ds0, p0, q0, hargs, rfl, rfl, h0, r0⟩ := trodAll_cons hA
  obtain ⟨rfl, rfl, rfl⟩ := trodAll_nil r0
  obtain rfl : args = #[v0] := by cases args; simp_all
  obtain ⟨rfl, rfl⟩ := trodVars_none hV
  simp only [List.append_nil] at hW'
  have hlt0 : ∀ x ∈ p0, x.block < W.heap.size := fun x hx => hW'.lt x (by simp [hx])
  have kept0 := fun (W2 : World) (hb : Below W.heap.size W W2) => Below.trod laidOut (by kernel_rfl) (of_decide_eq_true (by kernel_rfl)) h0 hb hlt0
  obtain ⟨s0n, s0a, s0b, s0c, s0e, rfl, w0⟩ := ingot_arg (hval 0 31 v0 rfl rfl) h0
  clear hA0
  refine (walk s0n s0a s0b s0c s0e w0 W (Lib.hid hF)).mono fun e W' ⟨he, hg⟩ => ?_
  subst he
  refine ⟨_, rfl, post_at (pa := p0) (pv := []) hW' (by simp) hg (fun _ _ => (trodAll_cons_mk (shut_bool Tryd.underlying4 _) trodAll_mk0)) ?_ rfl⟩
  have hk := (trodAll_cons_mk (kept0 W' hg) trodAll_mk0)
  simp only [List.append_nil] at hk
  exact hk

noncomputable def laidWorld (os : Os) : World := World.doorLaid Tryd.prog 400 os
set_option maxRecDepth 100000 in
theorem laid_met (os : Os) : laidMetH Tryd.prog Rows.fnExactIngotTextRow.laid ((laidWorld os).forCall (fun _ _ => 0) ⟨#[], #[.agg #[.string ⟨#[]⟩, .int .i64 0, .int .i64 0, .int .i64 0, .int .i64 0]], []⟩).memory :=
  laidMetH_of_parts3 (fuel := 8) (laidMet_of_run' 8 (by kernel_rfl) (by kernel_rfl)) (by kernel_rfl) (by kernel_rfl)
set_option maxRecDepth 100000 in
theorem reads (os : Os) {H : Type} (enc : TypeId × Value → H) : DataW.whole enc Tryd.prog ((laidWorld os).forCall (fun _ _ => 0) ⟨#[], #[.agg #[.string ⟨#[]⟩, .int .i64 0, .int .i64 0, .int .i64 0, .int .i64 0]], []⟩).memory Tryd.f4.params.toList Rows.fnExactIngotTextSpec.vars false (#[.agg #[.string ⟨#[]⟩, .int .i64 0, .int .i64 0, .int .i64 0, .int .i64 0]] : Array Value).toList 8
    = some ([.agg [.lit (.string []), .lit (.int .i64 0), .agg [.lit (.int .i64 0), .lit (.int .i64 0), .lit (.int .i64 0)]]], [], []) := by kernel_rfl

set_option maxRecDepth 100000 in
theorem lifted (os : Os) (started : os.Started) (H : Type) (enc : TypeId × Value → H) (F : Stop.Interp) :
    ReturnsInHanded {} Tryd.checked os 4 .any ((OpenSpec.ofChange Rows.fnExactIngotTextSpec).preRow enc Tryd.prog Tryd.f4 Rows.fnExactIngotTextRow.domain false Rows.fnExactIngotTextRow.laid) (((OpenSpec.ofChange Rows.fnExactIngotTextSpec).at F).post enc Tryd.prog Tryd.f4 false true false false) := by
  refine returnsInHanded_of_row (C := Tryd.checked) (s := OpenSpec.ofChange Rows.fnExactIngotTextSpec) own started (by kernel_rfl) Tryd.func4
    (witness_row_atRef (enc := enc) (C := Tryd.checked) false (laidWorld os) #[.agg #[.string ⟨#[]⟩, .int .i64 0, .int .i64 0, .int .i64 0, .int .i64 0]] rfl (by kernel_rfl) (by kernel_rfl) (by kernel_rfl)
      (OpenSpec.preRow_of_cond 8 (reads os enc) (by kernel_rfl) (fun k hk => by cases hk) (by kernel_rfl) (laid_met os))) ?_
  intro W base args ds gs before hval hW _ _ hr hL hSh _
  exact contract H enc W base args ds gs before hval hW hL hSh

theorem said : Rows.FnExactIngotTextSaid :=
  OpenClaim.holds_of_cond 4 Tryd.f4 rfl rfl rfl rfl rfl rfl rfl ⟨rfl, rfl, rfl, rfl, rfl⟩ rfl rfl rfl rfl rfl (by kernel_rfl) Tryd.func4 (by kernel_rfl)
    (of_decide_eq_true (by kernel_rfl)) (by unfold Func.isWrapper; first | (rw [if_pos (by decide +kernel)]; kernel_rfl) | (rw [if_neg (by decide +kernel)]; exact ⟨rfl, rfl⟩))
    (fun os started H enc _ F => by rw [OpenClaim.pre_eq_preRow]; exact lifted os started H enc F)

theorem plain (f : FuncId) (fn : Func) (hf : Tryd.pinned.checked.prog.funcNamed "loop.example/g00952/laws.FnExactIngotText" = some f) (hfn : Tryd.pinned.checked.prog.funcs[f]? = some fn) :
    true = Tryd.pinned.checked.prog.looks [] ∧ ∀ (j : Nat) t, fn.params[j]? = some t → Tryd.pinned.checked.prog.wantsStandIn t = false := by
  obtain rfl : f = 4 := Option.some.inj ((show Tryd.prog.funcNamed "loop.example/g00952/laws.FnExactIngotText" = some 4 by kernel_rfl).symm.trans hf) |>.symm
  obtain rfl : fn = Tryd.f4 := (Option.some.inj (Tryd.func4.symm.trans hfn)).symm
  refine ⟨by kernel_rfl, fun j t ht => ?_⟩
  rw [Tryd.params4] at ht
  obtain rfl : t = 31 := by simpa using Array.mem_of_getElem? ht
  exact (show Tryd.prog.wantsStandIn 31 = false by kernel_rfl)
end Go.Proofs.YtikoehjalcljnaaDoor.fnExactIngotText

namespace Go.Proofs.YtikoehjalcljnaaDoor
/-- The given card. -/
theorem fnExactIngotText_holds : Rows.FnExactIngotTextCardSaid :=
  Claim7.holds_tied_plain_at .later [] _ _ _ _ fnExactIngotText.said (fun _ h => by cases h) (by kernel_rfl) (fun _ h => by cases h) fnExactIngotText_row_tie rfl ⟨rfl, rfl⟩ (by kernel_rfl) rfl fnExactIngotText.plain (by kernel_rfl)
#print axioms fnExactIngotText_holds
end Go.Proofs.YtikoehjalcljnaaDoor
