/- At every sound, strike note and kind that their types allow, FnExactDeviationsOf returns true and leaves the memory as it was: DeviationsOf answers as the reference model, in memory of its own. -/
import Derived.Test.YtmkopmdeelfmgaaRows
import Derived.Test.YtmkopmdeelfmgaaBase
import Derived.Test.YtmkopmdeelfmgaaLaidOut
import Derived.Test.YtmkopmdeelfmgaaDevs
namespace Go.Proofs.Ytmkopmdeelfmgaa.fnExactDeviationsOf
open Go.ChangeShapes Go.WideShapes Go.ChangeAt Go.RowKit
open Go.ChangeMaps (open_string shut_string)
set_option linter.unusedVariables false

theorem own : ownKnob Try.prog.godebug = none := by kernel_rfl

set_option maxRecDepth 100000 in
set_option maxHeartbeats 2000000 in
theorem walk (a b c e f : Int) (k1 : Int) (k2 : Int) (w0 : (Lit.int .i64 a).wf = true ∧ (Lit.int .i64 b).wf = true ∧ (Lit.int .i64 c).wf = true ∧ (Lit.int .i64 e).wf = true ∧ (Lit.int .i64 f).wf = true) (u1 : (Lit.int .i64 k1).wf = true) (u2 : (Lit.int .i64 k2).wf = true) (w : World) :
    Calls Try.prog 8 #[.agg #[.int .i64 a, .int .i64 b, .int .i64 c, .int .i64 e, .int .i64 f], .int .i64 k1, .int .i64 k2] w fun e w' => e = .returned (.bool true) ∧ Below w.heap.size w w' := by
  go_enter Try.func8, Try.ntmps8
  go_wp2_with fail
  refine (toSound_any a b c e f _).mono ?_
  rintro en wt ⟨rfl, hb⟩
  have K5 := Lib.hid (five_below hb (five_alloc w a b c e f 23))
  have HB := Lib.hid (below_of ((Below.refl _ _).alloc (Nat.le_refl _) _) hb (by simp))
  clear hb
  go_wp2_with fail
  refine (specDevs_any a b c e f k1 k2 _).mono ?_
  rintro en w1 ⟨hb, ⟨hC, g1, p1, rfl, ho1⟩ | ⟨hC, rfl⟩⟩
  · have HC := Lib.hid hC
    have HW := Lib.hid ho1.2
    have H5 := Lib.hid (five_below hb K5.out)
    have HB1 := Lib.hid (below_of HB.out hb HB.out.size)
    have HR := Lib.hid (Below.refl w1.heap.size w1)
    clear hb hC HB K5 ho1
    obtain ⟨zs, hzs⟩ : ∃ zs, devL [a, b, c, e, f] k1 k2 = zs := ⟨_, rfl⟩
    have HE := Lib.hid hzs
    have HL := Lib.hid (show zs.length = 5 by rw [← hzs]; exact (dev_len _ _ _))
    rw [hzs] at HW
    clear hzs
    obtain ⟨c0, c1, c2, c3, c4⟩ := five_below HR.out H5.out
    go_wp2_with fail
    refine (toSound_any a b c e f _).mono ?_
    rintro en wt ⟨rfl, hb⟩
    clear c0 c1 c2 c3 c4
    have KR := Lib.hid (HR.out.trans (hb.mono HR.out.size))
    clear HR
    have HR := KR
    clear KR
    clear hb
    go_wp2_with fail
    refine (implDevs_any a b c e f k1 k2 _).mono ?_
    rintro en w2 ⟨hb, ⟨-, g2, p2, rfl, ho2⟩ | ⟨hD, _⟩⟩
    case inr => exact absurd (HC.out.symm.trans hD) (by decide)
    have HG := Lib.hid (row_low5 ho2.2 HR.out.size)
    have hg := Nat.le_trans HR.out.size ho2.1
    rw [HE.out] at HG
    have KR := Lib.hid (HR.out.trans (hb.mono HR.out.size))
    clear HR
    have HR := KR
    clear KR
    clear hb ho2
    go_wp2_with fail
    refine (eqFive zs _ HL.out HG.out (row_keep5 HR.out HW.out)).mono ?_
    rintro en w3 ⟨rfl, hb⟩
    have KM := Lib.hid (row_keep5 hb HG.out)
    clear HG
    have HG := KM
    clear KM
    have KR := Lib.hid (HR.out.trans (hb.mono HR.out.size))
    clear HR
    have HR := KR
    clear KR
    clear hb
    go_wp2_with fail
    refine (mark_some zs 1 w1.heap.size g2 p2 5 _ (by omega) HL (by omega) hg HG.out).mono ?_
    rintro en w4 ⟨rfl, hrow, hb, -⟩
    have HM := Lib.hid hrow
    have KR := Lib.hid (HR.out.trans hb)
    clear HR hrow hb HG
    have HR := KR
    clear KR
    go_wp2_with fail
    refine (held_some 1 w1.heap.size g2 p2 5 _ (by omega) (by omega) HM.out).mono ?_
    rintro en w5 ⟨rfl, rfl⟩
    obtain ⟨c0, c1, c2, c3, c4⟩ := five_below HR.out H5.out
    go_wp2_with fail
    refine (toSound_any a b c e f _).mono ?_
    rintro en wt ⟨rfl, hb⟩
    clear c0 c1 c2 c3 c4
    have KM := Lib.hid (row_keep5 hb HM.out)
    clear HM
    have HM := KM
    clear KM
    have KR := Lib.hid (HR.out.trans (hb.mono HR.out.size))
    clear HR
    have HR := KR
    clear KR
    clear hb
    go_wp2_with fail
    refine (implDevs_any a b c e f k1 k2 _).mono ?_
    rintro en w6 ⟨hb, ⟨-, g3, p3, rfl, ho3⟩ | ⟨hD, _⟩⟩
    case inr => exact absurd (HC.out.symm.trans hD) (by decide)
    have HG := Lib.hid ho3.2
    rw [HE.out] at HG
    have KM := Lib.hid (row_keep5 hb HM.out)
    clear HM
    have HM := KM
    clear KM
    have KR := Lib.hid (HR.out.trans (hb.mono HR.out.size))
    clear HR
    have HR := KR
    clear KR
    clear hb ho3
    go_wp2_with fail
    refine (eqFive zs _ HL.out HG.out (row_keep5 HR.out HW.out)).mono ?_
    rintro en w7 ⟨rfl, hb⟩
    have KM := Lib.hid (row_keep5 hb HM.out)
    clear HM
    have HM := KM
    clear KM
    have KR := Lib.hid (HR.out.trans (hb.mono HR.out.size))
    clear HR
    have HR := KR
    clear KR
    clear hb
    go_wp2_with fail
    refine (held_some 1 w1.heap.size g2 p2 5 _ (by omega) (by omega) HM.out).mono ?_
    rintro en w8 ⟨rfl, rfl⟩
    go_wp2
    go_ret
    exact ⟨rfl, below_of HB1.out HR.out HB1.out.size⟩
  · have HC := Lib.hid hC
    have H5 := Lib.hid (five_below hb K5.out)
    have HB1 := Lib.hid (below_of HB.out hb HB.out.size)
    have HR := Lib.hid (Below.refl w1.heap.size w1)
    clear hb hC HB K5
    obtain ⟨d, hd⟩ : ∃ d, dvC a b c e f = d := ⟨_, rfl⟩
    have HE := Lib.hid hd
    rw [hd]
    clear hd
    have hcc : (d != d) = false := by simp
    obtain ⟨c0, c1, c2, c3, c4⟩ := five_below HR.out H5.out
    go_wp2_with fail
    refine (toSound_any a b c e f _).mono ?_
    rintro en wt ⟨rfl, hb⟩
    clear c0 c1 c2 c3 c4
    have KR := Lib.hid (HR.out.trans (hb.mono HR.out.size))
    clear HR
    have HR := KR
    clear KR
    clear hb
    go_wp2_with fail
    refine (implDevs_any a b c e f k1 k2 _).mono ?_
    rintro en w2 ⟨hb, ⟨hD, _⟩ | ⟨-, rfl⟩⟩
    case inl => exact absurd (HC.out.symm.trans hD) (by decide)
    rw [HE.out]
    have KR := Lib.hid (HR.out.trans (hb.mono HR.out.size))
    clear HR
    have HR := KR
    clear KR
    clear hb
    go_wp2_with fail
    refine (eqInts_zero _ _ _ _ _).mono ?_
    rintro en w3 ⟨rfl, hb⟩
    have KR := Lib.hid (HR.out.trans (hb.mono HR.out.size))
    clear HR
    have HR := KR
    clear KR
    clear hb
    go_wp2_with fail
    refine (mark_none _ _).mono ?_
    rintro en w4 ⟨rfl, rfl⟩
    go_wp2_with fail
    refine (held_none _ _).mono ?_
    rintro en w4 ⟨rfl, rfl⟩
    obtain ⟨c0, c1, c2, c3, c4⟩ := five_below HR.out H5.out
    go_wp2_with fail
    refine (toSound_any a b c e f _).mono ?_
    rintro en wt ⟨rfl, hb⟩
    clear c0 c1 c2 c3 c4
    have KR := Lib.hid (HR.out.trans (hb.mono HR.out.size))
    clear HR
    have HR := KR
    clear KR
    clear hb
    go_wp2_with fail
    refine (implDevs_any a b c e f k1 k2 _).mono ?_
    rintro en w5 ⟨hb, ⟨hD, _⟩ | ⟨-, rfl⟩⟩
    case inl => exact absurd (HC.out.symm.trans hD) (by decide)
    rw [HE.out]
    have KR := Lib.hid (HR.out.trans (hb.mono HR.out.size))
    clear HR
    have HR := KR
    clear KR
    clear hb
    go_wp2_with fail
    refine (eqInts_zero _ _ _ _ _).mono ?_
    rintro en w6 ⟨rfl, hb⟩
    have KR := Lib.hid (HR.out.trans (hb.mono HR.out.size))
    clear HR
    have HR := KR
    clear KR
    clear hb
    go_wp2_with fail
    refine (held_none _ _).mono ?_
    rintro en w7 ⟨rfl, rfl⟩
    go_wp2
    go_ret
    exact ⟨rfl, below_of HB1.out HR.out HB1.out.size⟩

set_option maxRecDepth 100000 in
theorem contract (H : Type) (enc : TypeId × Value → H) (W : World) (base : Nat) (args : Array Value) (ds gs : List (DataW H)) (before : List MemPlace)
    (hval : ∀ (j : Nat) t v, Try.f8.params[j]? = some t → args[j]? = some v → Value.okWide Try.prog W .any base t v)
    (hW : DataW.Whole enc Try.prog Try.f8.params.toList Rows.fnExactDeviationsOfSpec.vars false W args.toList ds gs before) :
    Calls Try.prog 8 args W fun e W' => ∃ v, e = .returned v ∧ Rows.fnExactDeviationsOfSpec.post enc Try.prog Try.f8 false true false false W args v W' := by
  have hW' := hW
  obtain ⟨p, q, hA0, hV, rfl, hfz, hnd⟩ := hW
  have hA : DataW.TrodAll enc Try.prog W 0 (fun _ => true) true Try.f8.params.toList args.toList ds p := hA0
  rw [Try.params8] at hA hval
  obtain ⟨v0, vs0, d0, ds0, p0, q0, hargs, rfl, rfl, h0, r0⟩ := trodAll_cons hA
  obtain ⟨v1, vs1, d1, ds1, p1, q1, hargs1, rfl, rfl, h1, r1⟩ := trodAll_cons r0
  subst hargs1
  obtain ⟨v2, vs2, d2, ds2, p2, q2, hargs2, rfl, rfl, h2, r2⟩ := trodAll_cons r1
  subst hargs2
  obtain ⟨rfl, rfl, rfl⟩ := trodAll_nil r2
  obtain rfl : args = #[v0, v1, v2] := by cases args; simp_all
  obtain ⟨rfl, rfl⟩ := trodVars_none hV
  simp only [List.append_nil] at hW'
  have hlt0 : ∀ x ∈ p0, x.block < W.heap.size := fun x hx => hW'.lt x (by simp [hx])
  have kept0 := fun (W2 : World) (hb : Below W.heap.size W W2) => Below.trod laidOut (by kernel_rfl) (of_decide_eq_true (by kernel_rfl)) h0 hb hlt0
  obtain ⟨s0a, s0b, s0c, s0e, s0f, rfl, w0⟩ := sound_arg (hval 0 23 v0 rfl rfl) h0
  have hlt1 : ∀ x ∈ p1, x.block < W.heap.size := fun x hx => hW'.lt x (by simp [hx])
  have kept1 := fun (W2 : World) (hb : Below W.heap.size W W2) => Below.trod laidOut (by kernel_rfl) (of_decide_eq_true (by kernel_rfl)) h1 hb hlt1
  obtain ⟨a1, rfl, -, -, w1⟩ := open_int Try.underlying2 (hval 1 2 v1 rfl rfl) h1
  have hlt2 : ∀ x ∈ p2, x.block < W.heap.size := fun x hx => hW'.lt x (by simp [hx])
  have kept2 := fun (W2 : World) (hb : Below W.heap.size W W2) => Below.trod laidOut (by kernel_rfl) (of_decide_eq_true (by kernel_rfl)) h2 hb hlt2
  obtain ⟨a2, rfl, -, -, w2⟩ := open_int Try.underlying2 (hval 2 2 v2 rfl rfl) h2
  clear hA0
  refine (walk s0a s0b s0c s0e s0f a1 a2 w0 w1 w2 W).mono fun e W' ⟨he, hg⟩ => ?_
  subst he
  refine ⟨_, rfl, post_at (pa := p0 ++ (p1 ++ p2)) (pv := []) hW' (by simp) hg (fun _ _ => (trodAll_cons_mk (shut_bool Try.underlying4 _) trodAll_mk0)) ?_ rfl⟩
  have hk := (trodAll_cons_mk (kept0 W' hg) (trodAll_cons_mk (kept1 W' hg) (trodAll_cons_mk (kept2 W' hg) trodAll_mk0)))
  simp only [List.append_nil] at hk
  exact hk

set_option maxRecDepth 100000 in
theorem lifted (os : Os) (started : os.Started) (H : Type) (enc : TypeId × Value → H) :
    ReturnsInHanded {} Try.checked os 8 .any (Rows.fnExactDeviationsOfSpec.pre6 enc Try.prog Try.f8 Rows.fnExactDeviationsOfRow.domain false) (Rows.fnExactDeviationsOfSpec.post enc Try.prog Try.f8 false true false false) := by
  refine returnsInHanded_of_change (C := Try.checked) own started (by kernel_rfl) Try.func8
    (ChangeSpec.witness6 (enc := enc) (C := Try.checked) false ⟨#[], #[.agg #[.int .i64 0, .int .i64 0, .int .i64 0, .int .i64 0, .int .i64 0], .int .i64 0, .int .i64 0], []⟩ 8 (by kernel_rfl) (by kernel_rfl) (by kernel_rfl) (by kernel_rfl)) ?_
  intro W base args ds gs before hval0 hW hcnd _
  have hval : ∀ (j : Nat) t v, Try.f8.params[j]? = some t → args[j]? = some v → Value.okWide Try.prog W .any base t v := hval0
  exact contract H enc W base args ds gs before hval hW

theorem over : Rows.fnExactDeviationsOfRow.holds Try.pinned (OpenSpec.ofChange Rows.fnExactDeviationsOfSpec) :=
  OpenClaim.holds_of_wide 8 Try.f8 rfl rfl rfl rfl rfl rfl rfl ⟨rfl, rfl, rfl, rfl, rfl⟩ rfl rfl rfl rfl rfl (by kernel_rfl) Try.func8 (by kernel_rfl)
    (of_decide_eq_true (by kernel_rfl)) (by unfold Func.isWrapper; first | (rw [if_pos (by decide +kernel)]; kernel_rfl) | (rw [if_neg (by decide +kernel)]; exact ⟨rfl, rfl⟩))
    (fun os started H enc _ => lifted os started H enc)
end Go.Proofs.Ytmkopmdeelfmgaa.fnExactDeviationsOf

namespace Go.Proofs.Ytmkopmdeelfmgaa
/-- The given statement. -/
theorem fnExactDeviationsOf_holds : Rows.FnExactDeviationsOfSaid := fnExactDeviationsOf.over
#print axioms fnExactDeviationsOf_holds
end Go.Proofs.Ytmkopmdeelfmgaa
