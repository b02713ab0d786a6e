/- The law FnExactScaleNotes answers true at every pair of int64 and changes nothing: the program's notes of a scale and the reference model's are equal, and are new memory. -/
import Derived.Test.YtpfpdhgdeaoemacRows
import Derived.Test.YtpfpdhgdeaoemacBase
import Derived.Test.YtpfpdhgdeaoemacLaidOut
import Derived.Test.YtpfpdhgdeaoemacScaleImpl
import Derived.Test.YtpfpdhgdeaoemacMarks
namespace Go.Proofs.Ytpfpdhgdeaoemac.fnExactScaleNotes
open Go.ChangeShapes Go.WideShapes Go.ChangeAt Go.RowKit
open Go.ChangeMaps (open_string shut_string)
set_option linter.unusedVariables false

theorem own : ownKnob Try.prog.godebug = none := by kernel_rfl

set_option maxHeartbeats 2000000 in
theorem walk (a0 a1 : Int) (w0 : (Lit.int .i64 a0).wf = true) (w1' : (Lit.int .i64 a1).wf = true) (w : World) :
    Calls Try.prog 5 #[.int .i64 a0, .int .i64 a1] w fun e w' => e = .returned (.bool true) ∧ Below w.heap.size w w' := by
  have bd := wf_bd w0
  go_enter Try.func5, Try.ntmps5
  go_wp2_with fail
  refine (specScale_any a0 a1 _ bd.1 bd.2).mono ?_
  rintro e w1 ⟨hb1, ⟨hC, rfl⟩ | ⟨vw, hC, rfl, hown1⟩⟩
  · have HB1 := Lib.hid hb1
    have HC := Lib.hid hC
    clear hb1 hC
    go_wp2_with fail
    refine (implScale_any a0 a1 _ bd.1 bd.2).mono ?_
    rintro e w2 ⟨hb2, ⟨-, rfl⟩ | ⟨vg, hC, _⟩⟩
    case inr => exact absurd hC HC.out
    have HB2 := Lib.hid (below_of HB1.out hb2 HB1.out.size)
    clear hb2
    obtain ⟨c, hc⟩ : ∃ c, snC a0 a1 = c := ⟨_, rfl⟩
    rw [hc] at HC ⊢
    have HE := Lib.hid hc
    clear hc
    have hcc : (c != c) = false := by simp
    go_wp2_with fail
    refine (eqInts_zero _ _ _ _ _).mono ?_
    rintro e w3 ⟨rfl, hb3⟩
    have HB3 := Lib.hid (below_of HB2.out hb3 HB2.out.size)
    clear hb3
    go_wp2_with fail
    refine (mark_none _ _).mono ?_
    rintro e w3 ⟨rfl, rfl⟩
    go_wp2_with fail
    refine (held_none _ _).mono ?_
    rintro e w3 ⟨rfl, rfl⟩
    go_wp2_with fail
    refine (implScale_any a0 a1 _ bd.1 bd.2).mono ?_
    rintro e w4 ⟨hb4, ⟨-, rfl⟩ | ⟨vg, hC, _⟩⟩
    case inr => exact absurd (HE.out.symm.trans hC) HC.out
    rw [HE.out]
    have HB4 := Lib.hid (below_of HB3.out hb4 HB3.out.size)
    clear hb4
    go_wp2_with fail
    refine (eqInts_zero _ _ _ _ _).mono ?_
    rintro e w5 ⟨rfl, hb5⟩
    have HB5 := Lib.hid (below_of HB4.out hb5 HB4.out.size)
    clear hb5
    go_wp2_with fail
    refine (held_none _ _).mono ?_
    rintro e w5 ⟨rfl, rfl⟩
    go_wp2
    go_ret
    exact ⟨rfl, HB5.out⟩
  · have HB1 := Lib.hid hb1
    have hsz1 := hb1.size
    have HC := Lib.hid hC
    have HW1 := Lib.hid hown1
    have hlen : (scaleL a0 a1).length ≤ 13 := by
      unfold scaleL
      rw [List.length_map]
      unfold stepsL
      split
      · decide
      · split
        · decide
        · split
          · decide
          · split <;> decide
    clear hb1 hC hown1
    go_wp2_with fail
    refine (implScale_any a0 a1 _ bd.1 bd.2).mono ?_
    rintro e w2 ⟨hb2, ⟨hC, _⟩ | ⟨vg, -, rfl, hown2⟩⟩
    case inl => exact absurd HC.out hC
    have HR2 := Lib.hid hb2
    have hsz2 := hb2.size
    have HG2 := Lib.hid hown2
    have HW2 := Lib.hid (own_kept hb2 HW1.out)
    clear hb2 hown2
    obtain ⟨zs, hzs⟩ : ∃ zs, scaleL a0 a1 = zs := ⟨_, rfl⟩
    rw [hzs] at HG2 HW1 HW2 hlen
    have HE := Lib.hid hzs
    clear hzs
    go_wp2_with fail
    refine (eqInts_own zs (by omega) _ _ _ _ _ HG2.out HW2.out).mono ?_
    rintro e w3 ⟨rfl, hb3⟩
    have HR3 := Lib.hid (HR2.out.trans (hb3.mono hsz2))
    have hsz3 := HR3.out.size
    have hG3 := own_kept hb3 HG2.out
    clear hb3
    obtain ⟨n, hn⟩ : ∃ n, zs.length = n := ⟨_, rfl⟩
    obtain ⟨g, cap, rfl, hg1, hg2, hrow⟩ := hG3
    rw [hn] at hrow hlen ⊢
    have HN := Lib.hid hn
    have HROW := Lib.hid hrow
    clear hrow hn
    have hz : ((1 + (n : Int)) != (1 + (n : Int))) = false := by simp
    go_wp2_with fail
    refine (mark_some zs 1 w1.heap.size g cap n _ (by omega) HN (by omega) hg1 HROW.out).mono ?_
    rintro e w4 ⟨rfl, hrow4, hb4⟩
    have HROW4 := Lib.hid hrow4
    have HR4 := Lib.hid (HR3.out.trans hb4)
    clear hrow4 hb4
    go_wp2_with fail
    refine (held_some 1 w1.heap.size g cap n _ (by omega) (by omega) HROW4.out).mono ?_
    rintro e w4 ⟨rfl, rfl⟩
    have HB4 := Lib.hid (below_of HB1.out HR4.out hsz1)
    have hsz4 := HR4.out.size
    go_wp2_with fail
    refine (implScale_any a0 a1 _ bd.1 bd.2).mono ?_
    rintro e w5 ⟨hb5, ⟨hC, _⟩ | ⟨vh, -, rfl, hown5⟩⟩
    case inl => exact absurd HC.out hC
    rw [HE.out] at hown5
    have HR5 := Lib.hid (HR4.out.trans (hb5.mono hsz4))
    have HROW5 := Lib.hid (row_low (row_keep hb5 HROW4.out) (Nat.le_refl _))
    have HH5 := Lib.hid hown5
    have HW5 := Lib.hid (own_kept HR5.out HW1.out)
    have HB5 := Lib.hid (below_of HB4.out hb5 HB4.out.size)
    clear hb5 hown5
    go_wp2_with fail
    refine (eqInts_own zs (by have := HN.out; omega) _ _ _ _ _ HH5.out HW5.out).mono ?_
    rintro e w6 ⟨rfl, hb6⟩
    have HROW6 := Lib.hid (row_keep hb6 HROW5.out)
    have HB6 := Lib.hid (below_of HB5.out hb6 HB5.out.size)
    clear hb6
    go_wp2_with fail
    refine (held_some 1 w1.heap.size g cap n _ (by omega) (by omega) HROW6.out).mono ?_
    rintro e w6 ⟨rfl, rfl⟩
    go_wp2
    go_ret
    exact ⟨rfl, HB6.out⟩

set_option maxRecDepth 100000 in
theorem contract (H : Type) (enc : TypeId × Value → H) (W : World) (base : Nat) (args : Array Value) (ds gs : List (DataW H)) (before : List MemPlace)
    (hval : ∀ (j : Nat) t v, Try.f5.params[j]? = some t → args[j]? = some v → Value.okWide Try.prog W .any base t v)
    (hW : DataW.Whole enc Try.prog Try.f5.params.toList Rows.fnExactScaleNotesSpec.vars false W args.toList ds gs before) :
    Calls Try.prog 5 args W fun e W' => ∃ v, e = .returned v ∧ Rows.fnExactScaleNotesSpec.post enc Try.prog Try.f5 false true false false W args v W' := by
  have hW' := hW
  obtain ⟨p, q, hA0, hV, rfl, hfz, hnd⟩ := hW
  have hA : DataW.TrodAll enc Try.prog W 0 (fun _ => true) true Try.f5.params.toList args.toList ds p := hA0
  rw [Try.params5] at hA hval
  obtain ⟨v0, vs0, d0, ds0, p0, q0, hargs, rfl, rfl, h0, r0⟩ := trodAll_cons hA
  obtain ⟨v1, vs1, d1, ds1, p1, q1, hargs1, rfl, rfl, h1, r1⟩ := trodAll_cons r0
  subst hargs1
  obtain ⟨rfl, rfl, rfl⟩ := trodAll_nil r1
  obtain rfl : args = #[v0, v1] := by cases args; simp_all
  obtain ⟨rfl, rfl⟩ := trodVars_none hV
  simp only [List.append_nil] at hW'
  have hlt0 : ∀ x ∈ p0, x.block < W.heap.size := fun x hx => hW'.lt x (by simp [hx])
  have kept0 := fun (W2 : World) (hb : Below W.heap.size W W2) => Below.trod laidOut (by kernel_rfl) (of_decide_eq_true (by kernel_rfl)) h0 hb hlt0
  obtain ⟨a0, rfl, -, -, w0⟩ := open_int Try.underlying2 (hval 0 2 v0 rfl rfl) h0
  have hlt1 : ∀ x ∈ p1, x.block < W.heap.size := fun x hx => hW'.lt x (by simp [hx])
  have kept1 := fun (W2 : World) (hb : Below W.heap.size W W2) => Below.trod laidOut (by kernel_rfl) (of_decide_eq_true (by kernel_rfl)) h1 hb hlt1
  obtain ⟨a1, rfl, -, -, w1⟩ := open_int Try.underlying2 (hval 1 2 v1 rfl rfl) h1
  clear hA0
  refine (walk a0 a1 w0 w1 W).mono fun e W' ⟨he, hg⟩ => ?_
  subst he
  refine ⟨_, rfl, post_at (pa := p0 ++ p1) (pv := []) hW' (by simp) hg (fun _ _ => (trodAll_cons_mk (shut_bool Try.underlying4 _) trodAll_mk0)) ?_ rfl⟩
  have hk := (trodAll_cons_mk (kept0 W' hg) (trodAll_cons_mk (kept1 W' hg) trodAll_mk0))
  simp only [List.append_nil] at hk
  exact hk

set_option maxRecDepth 100000 in
theorem lifted (os : Os) (started : os.Started) (H : Type) (enc : TypeId × Value → H) :
    ReturnsInHanded {} Try.checked os 5 .any (Rows.fnExactScaleNotesSpec.pre6 enc Try.prog Try.f5 Rows.fnExactScaleNotesRow.domain false) (Rows.fnExactScaleNotesSpec.post enc Try.prog Try.f5 false true false false) := by
  refine returnsInHanded_of_change (C := Try.checked) own started (by kernel_rfl) Try.func5
    (ChangeSpec.witness6 (enc := enc) (C := Try.checked) false ⟨#[], #[.int .i64 0, .int .i64 0], []⟩ 8 (by kernel_rfl) (by kernel_rfl) (by kernel_rfl) (by kernel_rfl)) ?_
  intro W base args ds gs before hval0 hW hcnd _
  have hval : ∀ (j : Nat) t v, Try.f5.params[j]? = some t → args[j]? = some v → Value.okWide Try.prog W .any base t v := hval0
  exact contract H enc W base args ds gs before hval hW

theorem over : Rows.fnExactScaleNotesRow.holds Try.pinned (OpenSpec.ofChange Rows.fnExactScaleNotesSpec) :=
  OpenClaim.holds_of_wide 5 Try.f5 rfl rfl rfl rfl rfl rfl rfl ⟨rfl, rfl, rfl, rfl, rfl⟩ rfl rfl rfl rfl rfl (by kernel_rfl) Try.func5 (by kernel_rfl)
    (of_decide_eq_true (by kernel_rfl)) (by unfold Func.isWrapper; first | (rw [if_pos (by decide +kernel)]; kernel_rfl) | (rw [if_neg (by decide +kernel)]; exact ⟨rfl, rfl⟩))
    (fun os started H enc _ => lifted os started H enc)
end Go.Proofs.Ytpfpdhgdeaoemac.fnExactScaleNotes

namespace Go.Proofs.Ytpfpdhgdeaoemac
/-- The given statement. -/
theorem fnExactScaleNotes_holds : Rows.FnExactScaleNotesSaid := fnExactScaleNotes.over
#print axioms fnExactScaleNotes_holds
end Go.Proofs.Ytpfpdhgdeaoemac
