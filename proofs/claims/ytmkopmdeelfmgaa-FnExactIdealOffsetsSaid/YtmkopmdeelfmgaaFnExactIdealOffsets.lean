/- At every kind of bell, FnExactIdealOffsets returns true and leaves the memory as it was: IdealOffsets answers as the reference model, in memory of its own. -/
import Derived.Test.YtmkopmdeelfmgaaRows
import Derived.Test.YtmkopmdeelfmgaaBase
import Derived.Test.YtmkopmdeelfmgaaLaidOut
import Derived.Test.YtmkopmdeelfmgaaKinds
namespace Go.Proofs.Ytmkopmdeelfmgaa.fnExactIdealOffsets
open Go.ChangeShapes Go.WideShapes Go.ChangeAt Go.RowKit
open Go.ChangeMaps (open_string shut_string)
set_option linter.unusedVariables false

theorem own : ownKnob Try.prog.godebug = none := by kernel_rfl

set_option maxRecDepth 100000 in
set_option maxHeartbeats 2000000 in
theorem walk (k1 : Int) (u1 : (Lit.int .i64 k1).wf = true) (w : World) :
    Calls Try.prog 7 #[.int .i64 k1] w fun e w' => e = .returned (.bool true) ∧ Below w.heap.size w w' := by
  go_enter Try.func7, Try.ntmps7
  have HB := Lib.hid (Below.refl w.heap.size w)
  go_wp2_with fail
  refine (specOffs_any k1 _).mono ?_
  rintro en w1 ⟨hb, ⟨hC, g1, rfl, ho1⟩ | ⟨hC, rfl⟩⟩
  · have HC := Lib.hid hC
    have HW := Lib.hid ho1.2
    have HB1 := Lib.hid (below_of HB.out hb HB.out.size)
    have HR := Lib.hid (Below.refl w1.heap.size w1)
    clear hb hC HB ho1
    obtain ⟨zs, hzs⟩ : ∃ zs, offL k1 = zs := ⟨_, rfl⟩
    have HE := Lib.hid hzs
    have HL := Lib.hid (show zs.length = 5 by rw [← hzs]; exact (off_len _))
    rw [hzs] at HW
    clear hzs
    go_wp2_with fail
    refine (implOffs_any k1 _).mono ?_
    rintro en w2 ⟨hb, ⟨-, g2, rfl, ho2⟩ | ⟨hD, _⟩⟩
    case inr => exact absurd (HC.out.symm.trans hD) (by decide)
    have HG := Lib.hid (row_low5 ho2.2 HR.out.size)
    have hg := Nat.le_trans HR.out.size ho2.1
    rw [HE.out] at HG
    have KR := Lib.hid (HR.out.trans (hb.mono HR.out.size))
    clear HR
    have HR := KR
    clear KR
    clear hb ho2
    go_wp2_with fail
    refine (eqFive zs _ HL.out HG.out (row_keep5 HR.out HW.out)).mono ?_
    rintro en w3 ⟨rfl, hb⟩
    have KM := Lib.hid (row_keep5 hb HG.out)
    clear HG
    have HG := KM
    clear KM
    have KR := Lib.hid (HR.out.trans (hb.mono HR.out.size))
    clear HR
    have HR := KR
    clear KR
    clear hb
    go_wp2_with fail
    refine (mark_some zs 1 w1.heap.size g2 5 5 _ (by omega) HL (by omega) hg HG.out).mono ?_
    rintro en w4 ⟨rfl, hrow, hb, -⟩
    have HM := Lib.hid hrow
    have KR := Lib.hid (HR.out.trans hb)
    clear HR hrow hb HG
    have HR := KR
    clear KR
    go_wp2_with fail
    refine (held_some 1 w1.heap.size g2 5 5 _ (by omega) (by omega) HM.out).mono ?_
    rintro en w5 ⟨rfl, rfl⟩
    go_wp2_with fail
    refine (implOffs_any k1 _).mono ?_
    rintro en w6 ⟨hb, ⟨-, g3, rfl, ho3⟩ | ⟨hD, _⟩⟩
    case inr => exact absurd (HC.out.symm.trans hD) (by decide)
    have HG := Lib.hid ho3.2
    rw [HE.out] at HG
    have KM := Lib.hid (row_keep5 hb HM.out)
    clear HM
    have HM := KM
    clear KM
    have KR := Lib.hid (HR.out.trans (hb.mono HR.out.size))
    clear HR
    have HR := KR
    clear KR
    clear hb ho3
    go_wp2_with fail
    refine (eqFive zs _ HL.out HG.out (row_keep5 HR.out HW.out)).mono ?_
    rintro en w7 ⟨rfl, hb⟩
    have KM := Lib.hid (row_keep5 hb HM.out)
    clear HM
    have HM := KM
    clear KM
    have KR := Lib.hid (HR.out.trans (hb.mono HR.out.size))
    clear HR
    have HR := KR
    clear KR
    clear hb
    go_wp2_with fail
    refine (held_some 1 w1.heap.size g2 5 5 _ (by omega) (by omega) HM.out).mono ?_
    rintro en w8 ⟨rfl, rfl⟩
    go_wp2
    go_ret
    exact ⟨rfl, below_of HB1.out HR.out HB1.out.size⟩
  · have HC := Lib.hid hC
    have HB1 := Lib.hid (below_of HB.out hb HB.out.size)
    have HR := Lib.hid (Below.refl w1.heap.size w1)
    clear hb hC HB
    go_wp2_with fail
    refine (implOffs_any k1 _).mono ?_
    rintro en w2 ⟨hb, ⟨hD, _⟩ | ⟨-, rfl⟩⟩
    case inl => exact absurd (HC.out.symm.trans hD) (by decide)
    have KR := Lib.hid (HR.out.trans (hb.mono HR.out.size))
    clear HR
    have HR := KR
    clear KR
    clear hb
    go_wp2_with fail
    refine (eqInts_zero _ _ _ _ _).mono ?_
    rintro en w3 ⟨rfl, hb⟩
    have KR := Lib.hid (HR.out.trans (hb.mono HR.out.size))
    clear HR
    have HR := KR
    clear KR
    clear hb
    go_wp2_with fail
    refine (mark_none _ _).mono ?_
    rintro en w4 ⟨rfl, rfl⟩
    go_wp2_with fail
    refine (held_none _ _).mono ?_
    rintro en w4 ⟨rfl, rfl⟩
    go_wp2_with fail
    refine (implOffs_any k1 _).mono ?_
    rintro en w5 ⟨hb, ⟨hD, _⟩ | ⟨-, rfl⟩⟩
    case inl => exact absurd (HC.out.symm.trans hD) (by decide)
    have KR := Lib.hid (HR.out.trans (hb.mono HR.out.size))
    clear HR
    have HR := KR
    clear KR
    clear hb
    go_wp2_with fail
    refine (eqInts_zero _ _ _ _ _).mono ?_
    rintro en w6 ⟨rfl, hb⟩
    have KR := Lib.hid (HR.out.trans (hb.mono HR.out.size))
    clear HR
    have HR := KR
    clear KR
    clear hb
    go_wp2_with fail
    refine (held_none _ _).mono ?_
    rintro en w7 ⟨rfl, rfl⟩
    go_wp2
    go_ret
    exact ⟨rfl, below_of HB1.out HR.out HB1.out.size⟩

set_option maxRecDepth 100000 in
theorem contract (H : Type) (enc : TypeId × Value → H) (W : World) (base : Nat) (args : Array Value) (ds gs : List (DataW H)) (before : List MemPlace)
    (hval : ∀ (j : Nat) t v, Try.f7.params[j]? = some t → args[j]? = some v → Value.okWide Try.prog W .any base t v)
    (hW : DataW.Whole enc Try.prog Try.f7.params.toList Rows.fnExactIdealOffsetsSpec.vars false W args.toList ds gs before) :
    Calls Try.prog 7 args W fun e W' => ∃ v, e = .returned v ∧ Rows.fnExactIdealOffsetsSpec.post enc Try.prog Try.f7 false true false false W args v W' := by
  have hW' := hW
  obtain ⟨p, q, hA0, hV, rfl, hfz, hnd⟩ := hW
  have hA : DataW.TrodAll enc Try.prog W 0 (fun _ => true) true Try.f7.params.toList args.toList ds p := hA0
  rw [Try.params7] at hA hval
  obtain ⟨v0, vs0, d0, ds0, p0, q0, hargs, rfl, rfl, h0, r0⟩ := trodAll_cons hA
  obtain ⟨rfl, rfl, rfl⟩ := trodAll_nil r0
  obtain rfl : args = #[v0] := by cases args; simp_all
  obtain ⟨rfl, rfl⟩ := trodVars_none hV
  simp only [List.append_nil] at hW'
  have hlt0 : ∀ x ∈ p0, x.block < W.heap.size := fun x hx => hW'.lt x (by simp [hx])
  have kept0 := fun (W2 : World) (hb : Below W.heap.size W W2) => Below.trod laidOut (by kernel_rfl) (of_decide_eq_true (by kernel_rfl)) h0 hb hlt0
  obtain ⟨a0, rfl, -, -, w0⟩ := open_int Try.underlying2 (hval 0 2 v0 rfl rfl) h0
  clear hA0
  refine (walk a0 w0 W).mono fun e W' ⟨he, hg⟩ => ?_
  subst he
  refine ⟨_, rfl, post_at (pa := p0) (pv := []) hW' (by simp) hg (fun _ _ => (trodAll_cons_mk (shut_bool Try.underlying4 _) trodAll_mk0)) ?_ rfl⟩
  have hk := (trodAll_cons_mk (kept0 W' hg) trodAll_mk0)
  simp only [List.append_nil] at hk
  exact hk

set_option maxRecDepth 100000 in
theorem lifted (os : Os) (started : os.Started) (H : Type) (enc : TypeId × Value → H) :
    ReturnsInHanded {} Try.checked os 7 .any (Rows.fnExactIdealOffsetsSpec.pre6 enc Try.prog Try.f7 Rows.fnExactIdealOffsetsRow.domain false) (Rows.fnExactIdealOffsetsSpec.post enc Try.prog Try.f7 false true false false) := by
  refine returnsInHanded_of_change (C := Try.checked) own started (by kernel_rfl) Try.func7
    (ChangeSpec.witness6 (enc := enc) (C := Try.checked) false ⟨#[], #[.int .i64 0], []⟩ 8 (by kernel_rfl) (by kernel_rfl) (by kernel_rfl) (by kernel_rfl)) ?_
  intro W base args ds gs before hval0 hW hcnd _
  have hval : ∀ (j : Nat) t v, Try.f7.params[j]? = some t → args[j]? = some v → Value.okWide Try.prog W .any base t v := hval0
  exact contract H enc W base args ds gs before hval hW

theorem over : Rows.fnExactIdealOffsetsRow.holds Try.pinned (OpenSpec.ofChange Rows.fnExactIdealOffsetsSpec) :=
  OpenClaim.holds_of_wide 7 Try.f7 rfl rfl rfl rfl rfl rfl rfl ⟨rfl, rfl, rfl, rfl, rfl⟩ rfl rfl rfl rfl rfl (by kernel_rfl) Try.func7 (by kernel_rfl)
    (of_decide_eq_true (by kernel_rfl)) (by unfold Func.isWrapper; first | (rw [if_pos (by decide +kernel)]; kernel_rfl) | (rw [if_neg (by decide +kernel)]; exact ⟨rfl, rfl⟩))
    (fun os started H enc _ => lifted os started H enc)
end Go.Proofs.Ytmkopmdeelfmgaa.fnExactIdealOffsets

namespace Go.Proofs.Ytmkopmdeelfmgaa
/-- The given statement. -/
theorem fnExactIdealOffsets_holds : Rows.FnExactIdealOffsetsSaid := fnExactIdealOffsets.over
#print axioms fnExactIdealOffsets_holds
end Go.Proofs.Ytmkopmdeelfmgaa
