/- The program's GreatestStep answers as the reference model's at every profile, and changes nothing. -/
import Derived.Test.YtgnnpimfcbkloabRows
import Derived.Test.YtgnnpimfcbkloabBase
import Derived.Test.YtgnnpimfcbkloabLaidOut
import Derived.Test.YtgnnpimfcbkloabProfArg
import Derived.Test.YtgnnpimfcbkloabStep
namespace Go.Proofs.Ytgnnpimfcbkloab.fnExactGreatestStep
open Go.ChangeShapes Go.WideShapes Go.ChangeAt Go.RowKit
open Go.ChangeMaps (open_string shut_string)
set_option linter.unusedVariables false

theorem own : ownKnob Try.prog.godebug = none := by kernel_rfl

set_option maxRecDepth 100000 in
set_option maxHeartbeats 4000000 in
theorem walk (s : ByteArray) (a : Option Addr) (len cap : Nat)  (w0 : s.size ≤ 9223372036854775807 ∧ len ≤ 9223372036854775807)  (w : World) (hI : len ≤ 1048576 → ∃ zs : List Rg, zs.length = len ∧ RingsAt w (.slice a len cap) zs) :
    Calls Try.prog 8 #[.agg #[.string s, .slice a len cap]] w fun e w' => e = .returned (.bool true) ∧ Below w.heap.size w w' := by
  obtain ⟨hs, hlen⟩ := w0
  by_cases hbig : s.size + len ≤ 1048576
  · obtain ⟨zs, hz, hzs⟩ := hI (by omega)
    have HZ := Lib.hid hzs
    have HN := Lib.hid hz
    have HL := Lib.hid (leftP_yes (show ((s.size : Int) + len ≤ 1048576) by omega))
    clear hI hz hzs
    have HV := Lib.hid (show ∃ a' c', Value.slice a len cap = .slice a' len c' from ⟨_, _, rfl⟩)
    generalize Value.slice a len cap = v at *
    go_enter Try.func8, Try.ntmps8
    go_wp2_with fail
    refine (szProf_v s v len 1048576 _ HV hs hlen (by omega) (by omega)).mono ?_
    rintro e w1 ⟨rfl, hb⟩
    rw [HL.out]
    have b0 : w1.cell? ⟨w.heap.size, 0, none⟩ = some (.string s) := by rw [below_cell hb _ _ (by simp)]; go_simp
    have b1 : w1.cell? ⟨w.heap.size, 1, none⟩ = some v := by rw [below_cell hb _ _ (by simp)]; go_simp
    have HB1 := Lib.hid (below_of ((Below.refl _ _).alloc (Nat.le_refl _) _) hb (by simp))
    have hz1 : w.heap.size + 1 ≤ w1.heap.size := by have := hb.size; simp at this; omega
    clear hb
    go_wp2_with fail
    refine (toProf_any s v zs _ (rings_kept HB1.out HZ.out)).mono ?_
    rintro e w2 ⟨v2, rfl, ho, hb⟩
    have HO2 := Lib.hid (ownRAt_rings (by have := HN.out; omega) ho)
    have d0 : w2.cell? ⟨w.heap.size, 0, none⟩ = some (.string s) := by rw [below_cell hb _ _ hz1]; exact b0
    have d1 : w2.cell? ⟨w.heap.size, 1, none⟩ = some v := by rw [below_cell hb _ _ hz1]; exact b1
    have HB2 := Lib.hid (below_of HB1.out hb HB1.out.size)
    have hz2 : w.heap.size + 1 ≤ w2.heap.size := by have := hb.size; omega
    clear hb ho b0 b1
    go_wp2_with fail
    refine (specStep_any s v2 zs  _ HO2.out hs).mono ?_
    rintro e w3 ⟨rfl, hb⟩
    have e0 : w3.cell? ⟨w.heap.size, 0, none⟩ = some (.string s) := by rw [below_cell hb _ _ hz2]; exact d0
    have e1 : w3.cell? ⟨w.heap.size, 1, none⟩ = some v := by rw [below_cell hb _ _ hz2]; exact d1
    have HB3 := Lib.hid (below_of HB2.out hb HB2.out.size)
    have hz3 : w.heap.size + 1 ≤ w3.heap.size := by have := hb.size; omega
    clear hb d0 d1
    go_wp2_with fail
    refine (toProf_any s v zs _ (rings_kept HB3.out HZ.out)).mono ?_
    rintro e w4 ⟨v4, rfl, ho, hb⟩
    have HO4 := Lib.hid (ownRAt_rings (by have := HN.out; omega) ho)
    have f0 : w4.cell? ⟨w.heap.size, 0, none⟩ = some (.string s) := by rw [below_cell hb _ _ hz3]; exact e0
    have f1 : w4.cell? ⟨w.heap.size, 1, none⟩ = some v := by rw [below_cell hb _ _ hz3]; exact e1
    have HB4 := Lib.hid (below_of HB3.out hb HB3.out.size)
    have hz4 : w.heap.size + 1 ≤ w4.heap.size := by have := hb.size; omega
    obtain ⟨a4, c4, rfl⟩ := rings_form HO4.out
    clear hb ho e0 e1
    go_wp2_with fail
    refine (implStep_any s _ zs  _ (rings_kept ((Below.refl _ _).alloc (Nat.le_refl _) _) HO4.out) hs).mono ?_
    rintro e w5 ⟨rfl, hb⟩
    have g0 : w5.cell? ⟨w.heap.size, 0, none⟩ = some (.string s) := by rw [below_cell hb _ _ (by simp; omega), below_cell ((Below.refl _ _).alloc (Nat.le_refl _) _) _ _ (by omega)]; exact f0
    have g1 : w5.cell? ⟨w.heap.size, 1, none⟩ = some v := by rw [below_cell hb _ _ (by simp; omega), below_cell ((Below.refl _ _).alloc (Nat.le_refl _) _) _ _ (by omega)]; exact f1
    have k0 : w5.cell? ⟨w4.heap.size, 0, none⟩ = some (.string s) := by rw [below_cell hb _ _ (by simp)]; go_simp
    have k1 : w5.cell? ⟨w4.heap.size, 1, none⟩ = some (.slice a4 zs.length c4) := by rw [below_cell hb _ _ (by simp)]; go_simp
    have HO5 := Lib.hid (rings_kept hb (rings_kept ((Below.refl _ _).alloc (Nat.le_refl _) _) HO4.out))
    have HB5 := Lib.hid (below_of (HB4.out.alloc HB4.out.size _) hb (by simp; omega))
    clear hb f0 f1
    generalize stepC s zs = r0
    have hr0 : (r0 != r0) = false := by simp
    generalize codeP s zs = r1
    have hr1 : (r1 != r1) = false := by simp
    have hz5 : w4.heap.size < w5.heap.size ∧ w.heap.size < w5.heap.size := by have := HB5.out.size; have := cell_lt5 k0; simp at this; omega
    have HIv := Lib.hid (rings_kept HB5.out HZ.out)
    go_wp2
    go_region_held3 (fun w' => w'.cell? ⟨w.heap.size, 0, none⟩ = some (.string s) ∧ w'.cell? ⟨w.heap.size, 1, none⟩ = some v ∧ w'.cell? ⟨w4.heap.size, 0, none⟩ = some (.string s) ∧ w'.cell? ⟨w4.heap.size, 1, none⟩ = some (.slice a4 zs.length c4) ∧ Below w5.heap.size w5 w')
      (first | exact ⟨g0, g1, k0, k1, ⟨rfl, rfl, rfl, Nat.le_refl _, fun _ _ => rfl⟩⟩ | exact held4 (W := w5.drew) hz5 g0 g1 k0 k1 ⟨rfl, rfl, rfl, Nat.le_refl _, fun _ _ => rfl⟩ hb6 | exact held4 (W := w6) hz5 g0 g1 k0 k1 (below_of (w1 := w5.drew) ⟨rfl, rfl, rfl, Nat.le_refl _, fun _ _ => rfl⟩ hb6 (Nat.le_refl _)) hb7 | assumption)
      (first
        | (go_at_call 18; refine (toProf_any s v zs w5.drew (rings_kept (w := w5) (w' := w5.drew) ⟨rfl, rfl, rfl, Nat.le_refl _, fun _ _ => rfl⟩ HIv.out)).mono ?_; rintro e w6 ⟨v6, rfl, ho6, hb6⟩)
        | (go_at_call 20; refine (eqProf_any s _ v6 zs w6 (rings_kept hb6 (rings_kept (w := w5) (w' := w5.drew) ⟨rfl, rfl, rfl, Nat.le_refl _, fun _ _ => rfl⟩ HO5.out)) (ownRAt_rings HO5.out.1 ho6)).mono ?_; rintro e w7 ⟨rfl, hb7⟩))
    have h56 : Below w5.heap.size w5 w6 := below_of (w1 := w5.drew) ⟨rfl, rfl, rfl, Nat.le_refl _, fun _ _ => rfl⟩ hb6 (Nat.le_refl _)
    have h57 := below_of h56 hb7 h56.size
    have HB7 := Lib.hid (below_of HB5.out h57 HB5.out.size)
    clear hb6 hb7 h56 h57 ho6 g0 g1 k0 k1
    go_wp2
    go_ret
    exact ⟨rfl, HB7.out⟩
  · have HL := Lib.hid (leftP_no (show (1048576 : Int) < s.size + len by omega))
    clear hI
    go_enter Try.func8, Try.ntmps8
    go_wp2_with fail
    refine (szProf_any s a len cap 1048576 _ hs hlen (by omega) (by omega)).mono ?_
    rintro e w1 ⟨rfl, hb⟩
    rw [HL.out]
    have HB := Lib.hid (below_of ((Below.refl _ _).alloc (Nat.le_refl _) _) hb (by simp))
    clear hb
    go_wp2
    go_ret
    exact ⟨rfl, HB.out⟩

set_option maxRecDepth 100000 in
theorem contract (H : Type) (enc : TypeId × Value → H) (W : World) (base : Nat) (args : Array Value) (ds gs : List (DataW H)) (before : List MemPlace)
    (hval : ∀ (j : Nat) t v, Try.f8.params[j]? = some t → args[j]? = some v → Value.okWide Try.prog W .any base t v)
    (hW : DataW.Whole enc Try.prog Try.f8.params.toList Rows.fnExactGreatestStepSpec.vars false W args.toList ds gs before) :
    Calls Try.prog 8 args W fun e W' => ∃ v, e = .returned v ∧ Rows.fnExactGreatestStepSpec.post enc Try.prog Try.f8 false true false false W args v W' := by
  have hW' := hW
  obtain ⟨p, q, hA0, hV, rfl, hfz, hnd⟩ := hW
  have hA : DataW.TrodAll enc Try.prog W 0 (fun _ => true) true Try.f8.params.toList args.toList ds p := hA0
  rw [Try.params8] at hA hval
  obtain ⟨v0, vs0, d0, ds0, p0, q0, hargs, rfl, rfl, h0, r0⟩ := trodAll_cons hA
  obtain ⟨rfl, rfl, rfl⟩ := trodAll_nil r0
  obtain rfl : args = #[v0] := by cases args; simp_all
  obtain ⟨rfl, rfl⟩ := trodVars_none hV
  simp only [List.append_nil] at hW'
  have hlt0 : ∀ x ∈ p0, x.block < W.heap.size := fun x hx => hW'.lt x (by simp [hx])
  have kept0 := fun (W2 : World) (hb : Below W.heap.size W W2) => Below.trod laidOut (by kernel_rfl) (of_decide_eq_true (by kernel_rfl)) h0 hb hlt0
  obtain ⟨s0, a0, len0, cap0, rfl, w0, hI0⟩ := prof_arg (hval 0 27 v0 rfl rfl) h0 hlt0
  clear hA0
  refine (walk s0 a0 len0 cap0 w0 W hI0).mono fun e W' ⟨he, hg⟩ => ?_
  subst he
  refine ⟨_, rfl, post_at (pa := p0) (pv := []) hW' (by simp) hg (fun _ _ => (trodAll_cons_mk (shut_bool Try.underlying4 _) trodAll_mk0)) ?_ rfl⟩
  have hk := (trodAll_cons_mk (kept0 W' hg) trodAll_mk0)
  simp only [List.append_nil] at hk
  exact hk

set_option maxRecDepth 100000 in
theorem lifted (os : Os) (started : os.Started) (H : Type) (enc : TypeId × Value → H) :
    ReturnsInHanded {} Try.checked os 8 .any (Rows.fnExactGreatestStepSpec.pre6 enc Try.prog Try.f8 Rows.fnExactGreatestStepRow.domain false) (Rows.fnExactGreatestStepSpec.post enc Try.prog Try.f8 false true false false) := by
  refine returnsInHanded_of_change (C := Try.checked) own started (by kernel_rfl) Try.func8
    (ChangeSpec.witness6 (enc := enc) (C := Try.checked) false ⟨#[], #[.agg #[.string ⟨#[]⟩, .slice none 0 0]], []⟩ 8 (by kernel_rfl) (by kernel_rfl) (by kernel_rfl) (by kernel_rfl)) ?_
  intro W base args ds gs before hval0 hW hcnd _
  have hval : ∀ (j : Nat) t v, Try.f8.params[j]? = some t → args[j]? = some v → Value.okWide Try.prog W .any base t v := hval0
  exact contract H enc W base args ds gs before hval hW

theorem over : Rows.fnExactGreatestStepRow.holds Try.pinned (OpenSpec.ofChange Rows.fnExactGreatestStepSpec) :=
  OpenClaim.holds_of_wide 8 Try.f8 rfl rfl rfl rfl rfl rfl rfl ⟨rfl, rfl, rfl, rfl, rfl⟩ rfl rfl rfl rfl rfl (by kernel_rfl) Try.func8 (by kernel_rfl)
    (of_decide_eq_true (by kernel_rfl)) (by unfold Func.isWrapper; first | (rw [if_pos (by decide +kernel)]; kernel_rfl) | (rw [if_neg (by decide +kernel)]; exact ⟨rfl, rfl⟩))
    (fun os started H enc _ => lifted os started H enc)
end Go.Proofs.Ytgnnpimfcbkloab.fnExactGreatestStep

namespace Go.Proofs.Ytgnnpimfcbkloab
/-- The given statement. -/
theorem fnExactGreatestStep_holds : Rows.FnExactGreatestStepSaid := fnExactGreatestStep.over
#print axioms fnExactGreatestStep_holds
end Go.Proofs.Ytgnnpimfcbkloab
