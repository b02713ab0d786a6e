/- At every model ModelText answers as its model, and its argument is as it was. Condition: the package-level variables that the row lists hold what the program's text lays (the card ties them). -/
import Derived.Test.YtblkbjeongmgdaaDoorCards
import Derived.Test.YtblkbjeongmgdaaDoorTie
import Derived.Test.YtblkbjeongmgdaaDoorBase
import Derived.Test.YtblkbjeongmgdaaDoorLaidOut
import Derived.Test.YtblkbjeongmgdaaDoorMtI
import Derived.Test.YtblkbjeongmgdaaDoorModLaw
import Derived.Deep.RegionHeld3
import Derived.Deep.DeepHandedRow
import Derived.Deep.DeepWitnessRowRef
import Derived.LaidMore
namespace Go.Proofs.YtblkbjeongmgdaaDoor.fnExactModelText
open Go.ChangeShapes Go.WideShapes Go.ChangeAt Go.RowKit
open Go.ChangeMaps (open_string shut_string)
set_option linter.unusedVariables false

theorem own : ownKnob Tryd.prog.godebug = none := by kernel_rfl

theorem facts {W : World} (h : laidMetH Tryd.prog Rows.fnExactModelTextRow.laid W) : PowOk W := by
  rw [MakeChecks.laidMetH_plain _ _ _ (by kernel_rfl)] at h
  exact pow_of (laid_tail (laid_tail h))

theorem mheld {w5 W W2 : World} {b1 b2 : Nat} {x0 x1 x2 y0 y1 y2 : Value} (hz : b1 < w5.heap.size ∧ b2 < w5.heap.size) (h0 : w5.cell? ⟨b2, 0, none⟩ = some x0) (h1 : w5.cell? ⟨b2, 1, none⟩ = some x1) (h2 : w5.cell? ⟨b2, 2, none⟩ = some x2) (k0 : w5.cell? ⟨b1, 0, none⟩ = some y0) (k1 : w5.cell? ⟨b1, 1, none⟩ = some y1) (k2 : w5.cell? ⟨b1, 2, none⟩ = some y2)
    (hW : Below w5.heap.size w5 W) (hb : Below W.heap.size W W2) : W2.cell? ⟨b2, 0, none⟩ = some x0 ∧ W2.cell? ⟨b2, 1, none⟩ = some x1 ∧ W2.cell? ⟨b2, 2, none⟩ = some x2 ∧ W2.cell? ⟨b1, 0, none⟩ = some y0 ∧ W2.cell? ⟨b1, 1, none⟩ = some y1 ∧ W2.cell? ⟨b1, 2, none⟩ = some y2 ∧ Below w5.heap.size w5 W2 := by
  have h := below_of hW hb hW.size
  exact ⟨(below_cell h _ _ hz.2).trans h0, (below_cell h _ _ hz.2).trans h1, (below_cell h _ _ hz.2).trans h2, (below_cell h _ _ hz.1).trans k0, (below_cell h _ _ hz.1).trans k1, (below_cell h _ _ hz.1).trans k2, h⟩
set_option maxRecDepth 100000 in
set_option maxHeartbeats 4000000 in
theorem walk (v : Value) (w : World) (hM : ModArg w v) (hF : Hid (PowOk w)) :
    Calls Tryd.prog 3 #[v] w fun e w' => e = .returned (.bool true) ∧ Below w.heap.size w w' := by
  obtain ⟨x0, x1, x2, n0, n1, n2, L, rfl, hf0, hn0, hsz, hn1, hf2, hn2, hmk⟩ := hM
  have HF0 := Lib.hid hf0
  have HF2 := Lib.hid hf2
  have hba := (Below.refl w.heap.size w).alloc (Nat.le_refl _) (.cells #[x0, x1, x2] 25)
  have HSZ := Lib.hid (sz_kept hba hsz)
  have HBA := Lib.hid hba
  clear hf0 hf2 hsz hba
  by_cases hbig : n0 + (n1 + sumL L n1) + n2 ≤ 1048576
  · obtain ⟨zs, ws, bs, hl0, hl1, hl2, I0, I1, I2, hlr⟩ := hmk hbig
    have HI0 := Lib.hid I0
    have HI1 := Lib.hid I1
    have HI2 := Lib.hid I2
    have HLR := Lib.hid hlr
    have HL := Lib.hid (show leftN (n0 + (n1 + sumL L n1) + n2) 1048576 = 1048576 - ((n0 + (n1 + sumL L n1) + n2 : Nat) : Int) from leftN_yes (by omega))
    obtain ⟨T, hT⟩ : ∃ T, n0 + (n1 + sumL L n1) + n2 = T := ⟨_, rfl⟩
    have hz0 : zs.length ≤ 1048576 := by omega
    have hz1 : ws.length ≤ 1048576 := by omega
    have hz2 : bs.length ≤ 1048576 := by omega
    clear I0 I1 I2 hmk hlr hl0 hl1 hl2
    go_enter Tryd.func3, Tryd.ntmps3
    go_wp2_with fail
    refine (szMod_any x0 x1 x2 n0 n1 n2 L 1048576 _ HF0 hn0 HSZ hn1 HF2 hn2 (by omega) (by omega)).mono ?_
    rintro e w1 ⟨rfl, hb⟩
    rw [HL.out, hT]
    rw [hT] at hbig
    have b0 : w1.cell? ⟨w.heap.size, 0, none⟩ = some x0 := by rw [below_cell hb _ _ (by simp)]; go_simp
    have b1 : w1.cell? ⟨w.heap.size, 1, none⟩ = some x1 := by rw [below_cell hb _ _ (by simp)]; go_simp
    have b2 : w1.cell? ⟨w.heap.size, 2, none⟩ = some x2 := by rw [below_cell hb _ _ (by simp)]; go_simp
    have HB1 := Lib.hid (below_of HBA.out hb HBA.out.size)
    have hh1 : w.heap.size < w1.heap.size := by have := hb.size; simp at this; omega
    clear hb
    go_wp2_with fail
    refine (toMod_any x0 x1 x2 zs ws bs _ (ints_kept HB1.out HI0.out) (mrows_kept HB1.out HI1.out) (ints_kept HB1.out HI2.out)).mono ?_
    rintro e w2 ⟨y0, y1, y2, rfl, o0, o1, o2, hb⟩
    have R0 := Lib.hid (own_ints hz0 o0)
    have R1 := Lib.hid (ownRows_rows hz1 HLR.out o1)
    have R2 := Lib.hid (own_ints hz2 o2)
    have b0 := (below_cell hb _ _ hh1).trans b0
    have b1 := (below_cell hb _ _ hh1).trans b1
    have b2 := (below_cell hb _ _ hh1).trans b2
    have HB2 := Lib.hid (below_of HB1.out hb HB1.out.size)
    have hh2 := Nat.lt_of_lt_of_le hh1 hb.size
    clear hb o0 o1 o2
    go_wp2_with fail
    refine (specMT_any y0 y1 y2 zs ws bs _ R0.out R1.out R2.out).mono ?_
    rintro e w3 ⟨rfl, hb⟩
    have b0 := (below_cell hb _ _ hh2).trans b0
    have b1 := (below_cell hb _ _ hh2).trans b1
    have b2 := (below_cell hb _ _ hh2).trans b2
    have HB3 := Lib.hid (below_of HB2.out hb HB2.out.size)
    have hh3 := Nat.lt_of_lt_of_le hh2 hb.size
    clear hb R0 R1 R2
    go_wp2_with fail
    refine (toMod_any x0 x1 x2 zs ws bs _ (ints_kept HB3.out HI0.out) (mrows_kept HB3.out HI1.out) (ints_kept HB3.out HI2.out)).mono ?_
    rintro e w4 ⟨q0, q1, q2, rfl, o0, o1, o2, hb⟩
    have R0 := Lib.hid (own_ints hz0 o0)
    have R1 := Lib.hid (ownRows_rows hz1 HLR.out o1)
    have R2 := Lib.hid (own_ints hz2 o2)
    have b0 := (below_cell hb _ _ hh3).trans b0
    have b1 := (below_cell hb _ _ hh3).trans b1
    have b2 := (below_cell hb _ _ hh3).trans b2
    have HB4 := Lib.hid (below_of HB3.out hb HB3.out.size)
    have hh4 := Nat.lt_of_lt_of_le hh3 hb.size
    clear hb o0 o1 o2
    obtain ⟨qa0, qc0, rfl⟩ := ints_form R0.out
    obtain ⟨qa1, qc1, rfl⟩ := mrows_form R1.out
    obtain ⟨qa2, qc2, rfl⟩ := ints_form R2.out
    have hbx := (Below.refl w4.heap.size w4).alloc (Nat.le_refl _) (.cells #[.slice qa0 zs.length qc0, .slice qa1 ws.length qc1, .slice qa2 bs.length qc2] 28)
    go_wp2_with fail
    refine (implMT_any _ _ _ zs ws bs _ (ints_kept hbx R0.out) (mrows_kept hbx R1.out) (ints_kept hbx R2.out) (Lib.hid (pow_kept hbx (pow_kept HB4.out hF.out)))).mono ?_
    rintro e w5 ⟨rfl, hb⟩
    have g0 : w5.cell? ⟨w.heap.size, 0, none⟩ = some x0 := (below_cell hb _ _ (Nat.lt_of_lt_of_le hh4 hbx.size)).trans ((below_cell hbx _ _ hh4).trans b0)
    have g1 : w5.cell? ⟨w.heap.size, 1, none⟩ = some x1 := (below_cell hb _ _ (Nat.lt_of_lt_of_le hh4 hbx.size)).trans ((below_cell hbx _ _ hh4).trans b1)
    have g2 : w5.cell? ⟨w.heap.size, 2, none⟩ = some x2 := (below_cell hb _ _ (Nat.lt_of_lt_of_le hh4 hbx.size)).trans ((below_cell hbx _ _ hh4).trans b2)
    have k0 : w5.cell? ⟨w4.heap.size, 0, none⟩ = some (.slice qa0 zs.length qc0) := by rw [below_cell hb _ _ (by simp)]; go_simp
    have k1 : w5.cell? ⟨w4.heap.size, 1, none⟩ = some (.slice qa1 ws.length qc1) := by rw [below_cell hb _ _ (by simp)]; go_simp
    have k2 : w5.cell? ⟨w4.heap.size, 2, none⟩ = some (.slice qa2 bs.length qc2) := by rw [below_cell hb _ _ (by simp)]; go_simp
    have S0 := Lib.hid (ints_kept hb (ints_kept hbx R0.out))
    have S1 := Lib.hid (mrows_kept hb (mrows_kept hbx R1.out))
    have S2 := Lib.hid (ints_kept hb (ints_kept hbx R2.out))
    have HB5 := Lib.hid (below_of HB4.out (below_of hbx hb hbx.size) HB4.out.size)
    have hz5 : w4.heap.size < w5.heap.size ∧ w.heap.size < w5.heap.size := by have := hb.size; simp at this; omega
    clear hb hbx b0 b1 b2 R0 R1 R2
    have V0 := Lib.hid (ints_kept HB5.out HI0.out)
    have V1 := Lib.hid (mrows_kept HB5.out HI1.out)
    have V2 := Lib.hid (ints_kept HB5.out HI2.out)
    generalize mtV zs ws bs = r0
    have hr0 : (r0.toList != r0.toList) = false := by simp
    go_wp2
    go_region_held3 (fun w' => w'.cell? ⟨w.heap.size, 0, none⟩ = some x0 ∧ w'.cell? ⟨w.heap.size, 1, none⟩ = some x1 ∧ w'.cell? ⟨w.heap.size, 2, none⟩ = some x2 ∧ w'.cell? ⟨w4.heap.size, 0, none⟩ = some (.slice qa0 zs.length qc0) ∧ w'.cell? ⟨w4.heap.size, 1, none⟩ = some (.slice qa1 ws.length qc1) ∧ w'.cell? ⟨w4.heap.size, 2, none⟩ = some (.slice qa2 bs.length qc2) ∧ Below w5.heap.size w5 w')
      (first | exact ⟨g0, g1, g2, k0, k1, k2, ⟨rfl, rfl, rfl, Nat.le_refl _, fun _ _ => rfl⟩⟩ | exact mheld (W := w5.drew) hz5 g0 g1 g2 k0 k1 k2 ⟨rfl, rfl, rfl, Nat.le_refl _, fun _ _ => rfl⟩ hb6 | exact mheld (W := w6) hz5 g0 g1 g2 k0 k1 k2 (below_of (w1 := w5.drew) ⟨rfl, rfl, rfl, Nat.le_refl _, fun _ _ => rfl⟩ hb6 (Nat.le_refl _)) hb7 | assumption)
      (first
        | (go_at_call 6; refine (toMod_any x0 x1 x2 zs ws bs w5.drew (ints_kept (w := w5) (w' := w5.drew) ⟨rfl, rfl, rfl, Nat.le_refl _, fun _ _ => rfl⟩ V0.out) (mrows_kept (w := w5) (w' := w5.drew) ⟨rfl, rfl, rfl, Nat.le_refl _, fun _ _ => rfl⟩ V1.out) (ints_kept (w := w5) (w' := w5.drew) ⟨rfl, rfl, rfl, Nat.le_refl _, fun _ _ => rfl⟩ V2.out)).mono ?_; rintro e w6 ⟨z0, z1, z2, rfl, o0, o1, o2, hb6⟩)
        | (go_at_call 8; refine (eqMod_any _ _ _ z0 z1 z2 zs ws bs w6 (ints_kept hb6 (ints_kept (w := w5) (w' := w5.drew) ⟨rfl, rfl, rfl, Nat.le_refl _, fun _ _ => rfl⟩ S0.out)) (mrows_kept hb6 (mrows_kept (w := w5) (w' := w5.drew) ⟨rfl, rfl, rfl, Nat.le_refl _, fun _ _ => rfl⟩ S1.out)) (ints_kept hb6 (ints_kept (w := w5) (w' := w5.drew) ⟨rfl, rfl, rfl, Nat.le_refl _, fun _ _ => rfl⟩ S2.out)) (own_ints hz0 o0) (ownRows_rows hz1 HLR.out o1) (own_ints hz2 o2)).mono ?_; rintro e w7 ⟨rfl, hb7⟩))
    have h56 : Below w5.heap.size w5 w6 := below_of (w1 := w5.drew) ⟨rfl, rfl, rfl, Nat.le_refl _, fun _ _ => rfl⟩ hb6 (Nat.le_refl _)
    have h57 := below_of h56 hb7 h56.size
    have HB7 := Lib.hid (below_of HB5.out h57 HB5.out.size)
    clear hb6 hb7 h56 h57 o0 o1 o2 g0 g1 g2 k0 k1 k2
    go_wp2
    go_ret
    exact ⟨rfl, HB7.out⟩
  · have HL := Lib.hid (show leftN (n0 + (n1 + sumL L n1) + n2) 1048576 = -1 from leftN_no (by omega))
    clear hmk
    go_enter Tryd.func3, Tryd.ntmps3
    go_wp2_with fail
    refine (szMod_any x0 x1 x2 n0 n1 n2 L 1048576 _ HF0 hn0 HSZ hn1 HF2 hn2 (by omega) (by omega)).mono ?_
    rintro e w1 ⟨rfl, hb⟩
    rw [HL.out]
    have HB := Lib.hid (below_of HBA.out hb HBA.out.size)
    clear hb
    go_wp2
    go_ret
    exact ⟨rfl, HB.out⟩

set_option maxRecDepth 100000 in
theorem contract (H : Type) (enc : TypeId × Value → H) (W : World) (base : Nat) (args : Array Value) (ds gs : List (DataW H)) (before : List MemPlace)
    (hval : ∀ (j : Nat) t v, Tryd.f3.params[j]? = some t → args[j]? = some v → Value.okWide Tryd.prog W .any base t v)
    (hW : DataW.Whole enc Tryd.prog Tryd.f3.params.toList Rows.fnExactModelTextSpec.vars false W args.toList ds gs before) (hL : laidMetH Tryd.prog Rows.fnExactModelTextRow.laid W) (hSh : W.ShapedOpen Tryd.prog) :
    Calls Tryd.prog 3 args W fun e W' => ∃ v, e = .returned v ∧ Rows.fnExactModelTextSpec.post enc Tryd.prog Tryd.f3 false true false false W args v W' := by
  have hF := facts hL
  have hW' := hW
  obtain ⟨p, q, hA0, hV, rfl, hfz, hnd⟩ := hW
  have hA : DataW.TrodAll enc Tryd.prog W 0 (fun _ => true) true Tryd.f3.params.toList args.toList ds p := hA0
  rw [Tryd.params3] at hA hval
  obtain ⟨v0, vs0, d0, ds0, p0, q0, hargs, rfl, rfl, h0, r0⟩ := trodAll_cons hA
  obtain ⟨rfl, rfl, rfl⟩ := trodAll_nil r0
  obtain rfl : args = #[v0] := by cases args; simp_all
  obtain ⟨rfl, rfl⟩ := trodVars_none hV
  simp only [List.append_nil] at hW'
  have hlt0 : ∀ x ∈ p0, x.block < W.heap.size := fun x hx => hW'.lt x (by simp [hx])
  have kept0 := fun (W2 : World) (hb : Below W.heap.size W W2) => Below.trod laidOut (by kernel_rfl) (of_decide_eq_true (by kernel_rfl)) h0 hb hlt0
  have hI0 := model_arg (hval 0 25 v0 rfl rfl) h0 hlt0
  clear hA0
  refine (walk v0 W hI0 (Lib.hid hF)).mono fun e W' ⟨he, hg⟩ => ?_
  subst he
  refine ⟨_, rfl, post_at (pa := p0) (pv := []) hW' (by simp) hg (fun _ _ => (trodAll_cons_mk (shut_bool Tryd.underlying4 _) trodAll_mk0)) ?_ rfl⟩
  have hk := (trodAll_cons_mk (kept0 W' hg) trodAll_mk0)
  simp only [List.append_nil] at hk
  exact hk

noncomputable def laidWorld (os : Os) : World := World.doorLaid Tryd.prog 400 os
set_option maxRecDepth 100000 in
theorem laid_met (os : Os) : laidMetH Tryd.prog Rows.fnExactModelTextRow.laid ((laidWorld os).forCall (fun _ _ => 0) ⟨#[], #[.agg #[.slice none 0 0, .slice none 0 0, .slice none 0 0]], []⟩).memory :=
  laidMetH_of_parts3 (fuel := 8) (laidMet_of_run' 8 (by kernel_rfl) (by kernel_rfl)) (by kernel_rfl) (by kernel_rfl)
set_option maxRecDepth 100000 in
theorem reads (os : Os) {H : Type} (enc : TypeId × Value → H) : DataW.whole enc Tryd.prog ((laidWorld os).forCall (fun _ _ => 0) ⟨#[], #[.agg #[.slice none 0 0, .slice none 0 0, .slice none 0 0]], []⟩).memory Tryd.f3.params.toList Rows.fnExactModelTextSpec.vars false (#[.agg #[.slice none 0 0, .slice none 0 0, .slice none 0 0]] : Array Value).toList 8
    = some ([.agg [.nil, .nil, .nil]], [], []) := by kernel_rfl

set_option maxRecDepth 100000 in
theorem lifted (os : Os) (started : os.Started) (H : Type) (enc : TypeId × Value → H) (F : Stop.Interp) :
    ReturnsInHanded {} Tryd.checked os 3 .any ((OpenSpec.ofChange Rows.fnExactModelTextSpec).preRow enc Tryd.prog Tryd.f3 Rows.fnExactModelTextRow.domain false Rows.fnExactModelTextRow.laid) (((OpenSpec.ofChange Rows.fnExactModelTextSpec).at F).post enc Tryd.prog Tryd.f3 false true false false) := by
  refine returnsInHanded_of_row (C := Tryd.checked) (s := OpenSpec.ofChange Rows.fnExactModelTextSpec) own started (by kernel_rfl) Tryd.func3
    (witness_row_atRef (enc := enc) (C := Tryd.checked) false (laidWorld os) #[.agg #[.slice none 0 0, .slice none 0 0, .slice none 0 0]] rfl (by kernel_rfl) (by kernel_rfl) (by kernel_rfl)
      (OpenSpec.preRow_of_cond 8 (reads os enc) (by kernel_rfl) (fun k hk => by cases hk) (by kernel_rfl) (laid_met os))) ?_
  intro W base args ds gs before hval hW _ _ hr hL hSh _
  exact contract H enc W base args ds gs before hval hW hL hSh

theorem said : Rows.FnExactModelTextSaid :=
  OpenClaim.holds_of_cond 3 Tryd.f3 rfl rfl rfl rfl rfl rfl rfl ⟨rfl, rfl, rfl, rfl, rfl⟩ rfl rfl rfl rfl rfl (by kernel_rfl) Tryd.func3 (by kernel_rfl)
    (of_decide_eq_true (by kernel_rfl)) (by unfold Func.isWrapper; first | (rw [if_pos (by decide +kernel)]; kernel_rfl) | (rw [if_neg (by decide +kernel)]; exact ⟨rfl, rfl⟩))
    (fun os started H enc _ F => by rw [OpenClaim.pre_eq_preRow]; exact lifted os started H enc F)

theorem plain (f : FuncId) (fn : Func) (hf : Tryd.pinned.checked.prog.funcNamed "loop.example/g00952/laws.FnExactModelText" = some f) (hfn : Tryd.pinned.checked.prog.funcs[f]? = some fn) :
    false = Tryd.pinned.checked.prog.looks [] ∧ ∀ (j : Nat) t, fn.params[j]? = some t → Tryd.pinned.checked.prog.wantsStandIn t = false := by
  obtain rfl : f = 3 := Option.some.inj ((show Tryd.prog.funcNamed "loop.example/g00952/laws.FnExactModelText" = some 3 by kernel_rfl).symm.trans hf) |>.symm
  obtain rfl : fn = Tryd.f3 := (Option.some.inj (Tryd.func3.symm.trans hfn)).symm
  refine ⟨by kernel_rfl, fun j t ht => ?_⟩
  rw [Tryd.params3] at ht
  obtain rfl : t = 25 := by simpa using Array.mem_of_getElem? ht
  exact (show Tryd.prog.wantsStandIn 25 = false by kernel_rfl)
end Go.Proofs.YtblkbjeongmgdaaDoor.fnExactModelText

namespace Go.Proofs.YtblkbjeongmgdaaDoor
/-- The given card. -/
theorem fnExactModelText_holds : Rows.FnExactModelTextCardSaid :=
  Claim7.holds_tied_plain_at .later [] _ _ _ _ fnExactModelText.said (fun _ h => by cases h) (by kernel_rfl) (fun _ h => by cases h) fnExactModelText_row_tie rfl ⟨rfl, rfl⟩ (by kernel_rfl) rfl fnExactModelText.plain (by kernel_rfl)
#print axioms fnExactModelText_holds
end Go.Proofs.YtblkbjeongmgdaaDoor
