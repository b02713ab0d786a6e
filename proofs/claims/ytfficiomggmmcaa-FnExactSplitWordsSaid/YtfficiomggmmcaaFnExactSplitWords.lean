/- The law FnExactSplitWords answers true at every string and changes nothing: the program's words of a text and the reference model's are equal, and the list handed back is shared with nothing. -/
import Derived.Test.YtfficiomggmmcaaRows
import Derived.Test.YtfficiomggmmcaaBase
import Derived.Test.YtfficiomggmmcaaMarkStrs
namespace Go.Proofs.Ytfficiomggmmcaa.fnExactSplitWords
open Go.ChangeShapes Go.WideShapes Go.ChangeAt Go.RowKit
open Go.ChangeMaps (open_string shut_string)
set_option linter.unusedVariables false

theorem own : ownKnob Try.prog.godebug = none := by kernel_rfl

set_option maxHeartbeats 1000000 in
theorem walk (a0 : ByteArray) (w0 : a0.size ≤ maxLen) (w : World) :
    Calls Try.prog 4 #[.string a0] w fun e w' => e = .returned (.bool true) ∧ Below w.heap.size w w' := by
  have hmax : a0.size ≤ 9223372036854775807 := by unfold maxLen at w0; omega
  clear w0
  by_cases hbig : 1048576 < a0.size
  · go_enter Try.func4, Try.ntmps4
    go_wp2
    go_ret
    exact ⟨rfl, Below.refl _ _⟩
  · go_enter Try.func4, Try.ntmps4
    go_wp2_with fail
    refine (specWords_any a0 _ (by omega)).mono ?_
    rintro e w1 ⟨vw, ws, rfl, hV, hown1, hb1⟩
    have hnl : ws.length ≤ 1048577 := by
      have h1 := words_len a0.data.toList
      rw [← hV, List.length_map] at h1
      simp at h1
      omega
    have HB1 := Lib.hid hb1
    have hsz1 := hb1.size
    have HV := Lib.hid hV
    have HW1 := Lib.hid hown1
    clear hb1 hV hown1
    go_wp2_with fail
    refine (implWords_any a0 _ (by omega)).mono ?_
    rintro e w2 ⟨vg, ws2, rfl, hV, hown2, hb2⟩
    obtain rfl : ws2 = ws := maps_same _ _ (hV.trans HV.out.symm)
    clear hV
    have HR2 := Lib.hid hb2
    have hsz2 := hb2.size
    have HG2 := Lib.hid hown2
    have HW2 := Lib.hid (ownS_kept hb2 HW1.out)
    clear hb2 hown2
    go_wp2_with fail
    refine (eqStrs_own ws2 (by omega) _ _ _ _ _ HG2.out HW2.out).mono ?_
    rintro e w3 ⟨rfl, hb3⟩
    have HR3 := Lib.hid (HR2.out.trans (hb3.mono hsz2))
    have hsz3 := HR3.out.size
    have hG3 := ownS_kept hb3 HG2.out
    clear hb3
    obtain ⟨n, hn⟩ : ∃ n, ws2.length = n := ⟨_, rfl⟩
    obtain ⟨g, cap, rfl, hg1, hg2, hrow⟩ := hG3
    rw [hn] at hrow hnl ⊢
    have HN := Lib.hid hn
    have HROW := Lib.hid hrow
    clear hrow hn
    have hz : (((1 + n : Nat) : Int) != ((1 + n : Nat) : Int)) = false := by simp
    have hz3 : ((1 + (n : Int)) != (1 + (n : Int))) = false := by simp
    go_wp2_with fail
    refine (markS_some ws2 1 w1.heap.size g cap n _ (by omega) HN (by omega) hg1 HROW.out).mono ?_
    rintro e w4 ⟨rfl, hrow4, hb4⟩
    have HROW4 := Lib.hid hrow4
    have HR4 := Lib.hid (HR3.out.trans hb4)
    clear hrow4 hb4
    go_wp2_with fail
    refine (heldS_some 1 w1.heap.size g cap n _ (by omega) (by omega) HROW4.out).mono ?_
    rintro e w5 ⟨rfl, hb5⟩
    have HR5 := Lib.hid (HR4.out.trans (hb5.mono HR4.out.size))
    have HROW5 := Lib.hid (row_below hb5 HROW4.out)
    have HB5 := Lib.hid (below_of HB1.out HR5.out hsz1)
    have hsz5 := HR5.out.size
    clear hb5
    go_wp2_with fail
    refine (implWords_any a0 _ (by omega)).mono ?_
    rintro e w6 ⟨vh, ws3, rfl, hV, hown6, hb6⟩
    obtain rfl : ws3 = ws2 := maps_same _ _ (hV.trans HV.out.symm)
    clear hV
    have HR6 := Lib.hid (HR5.out.trans (hb6.mono hsz5))
    have HROW6 := Lib.hid (row_below hb6 HROW5.out)
    have HH6 := Lib.hid hown6
    have HW6 := Lib.hid (ownS_kept HR6.out HW1.out)
    have HB6 := Lib.hid (below_of HB5.out hb6 HB5.out.size)
    clear hb6 hown6
    go_wp2_with fail
    refine (eqStrs_own ws3 (by have := HN.out; omega) _ _ _ _ _ HH6.out HW6.out).mono ?_
    rintro e w7 ⟨rfl, hb7⟩
    have HROW7 := Lib.hid (row_below hb7 HROW6.out)
    have HB7 := Lib.hid (below_of HB6.out hb7 HB6.out.size)
    clear hb7
    go_wp2_with fail
    refine (heldS_some 1 w1.heap.size g cap n _ (by omega) (by omega) HROW7.out).mono ?_
    rintro e w8 ⟨rfl, hb8⟩
    have HB8 := Lib.hid (below_of HB7.out hb8 HB7.out.size)
    clear hb8
    go_wp2
    go_ret
    exact ⟨rfl, HB8.out⟩

set_option maxRecDepth 100000 in
theorem lifted (os : Os) (started : os.Started) (H : Type) (enc : TypeId × Value → H) :
    ReturnsInHanded {} Try.checked os 4 .any (Rows.fnExactSplitWordsSpec.pre6 enc Try.prog Try.f4 Rows.fnExactSplitWordsRow.domain false) (Rows.fnExactSplitWordsSpec.post enc Try.prog Try.f4 false true false false) := by
  refine returnsInHanded_of_change (C := Try.checked) own started (by kernel_rfl) Try.func4
    (ChangeSpec.witness6 (enc := enc) (C := Try.checked) false ⟨#[], #[.string ⟨#[]⟩], []⟩ 8 (by kernel_rfl) (by kernel_rfl) (by kernel_rfl) (by kernel_rfl)) ?_
  intro W base args ds gs before hval0 hW hcnd _
  have hval : ∀ (j : Nat) t v, Try.f4.params[j]? = some t → args[j]? = some v → Value.okWide Try.prog W .any base t v := hval0
  have hW' := hW
  obtain ⟨p, q, hA0, hV, rfl, hfz, hnd⟩ := hW
  have hA : DataW.TrodAll enc Try.prog W 0 (fun _ => true) true Try.f4.params.toList args.toList ds p := hA0
  rw [Try.params4] at hA hval
  obtain ⟨v0, vs0, d0, ds0, p0, q0, hargs, rfl, rfl, h0, r0⟩ := trodAll_cons hA
  obtain ⟨rfl, rfl, rfl⟩ := trodAll_nil r0
  obtain rfl : args = #[v0] := by cases args; simp_all
  obtain ⟨rfl, rfl⟩ := trodVars_none hV
  obtain ⟨a0, rfl, rfl, rfl, w0⟩ := open_string Try.underlying9 (hval 0 9 v0 rfl rfl) h0
  clear hA0 hval0
  simp only [List.append_nil] at hW'
  refine (walk a0 w0 W).mono fun e W' ⟨he, hg⟩ => ?_
  subst he
  exact ⟨_, rfl, post_kept (pa := []) (pv := []) hW' rfl hg (fun _ _ => (trodAll_cons_mk (shut_bool Try.underlying4 _) trodAll_mk0)) (fun sp _ => (trodAll_cons_mk (shut_string Try.underlying9 w0) trodAll_mk0)) (fun _ _ => rfl)⟩

theorem over : Rows.fnExactSplitWordsRow.holds Try.pinned (OpenSpec.ofChange Rows.fnExactSplitWordsSpec) :=
  OpenClaim.holds_of_wide 4 Try.f4 rfl rfl rfl rfl rfl rfl rfl ⟨rfl, rfl, rfl, rfl, rfl⟩ rfl rfl rfl rfl rfl (by kernel_rfl) Try.func4 (by kernel_rfl)
    (of_decide_eq_true (by kernel_rfl)) (by unfold Func.isWrapper; first | (rw [if_pos (by decide +kernel)]; kernel_rfl) | (rw [if_neg (by decide +kernel)]; exact ⟨rfl, rfl⟩))
    (fun os started H enc _ => lifted os started H enc)
end Go.Proofs.Ytfficiomggmmcaa.fnExactSplitWords

namespace Go.Proofs.Ytfficiomggmmcaa
/-- The given statement. -/
theorem fnExactSplitWords_holds : Rows.FnExactSplitWordsSaid := fnExactSplitWords.over
#print axioms fnExactSplitWords_holds
end Go.Proofs.Ytfficiomggmmcaa
