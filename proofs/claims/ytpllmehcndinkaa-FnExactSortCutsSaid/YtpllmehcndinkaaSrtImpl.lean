/- SortCuts: the program's answer. -/
import Derived.Test.YtpllmehcndinkaaSrtCuts
set_option linter.unusedVariables false
namespace Go.Proofs.Ytpllmehcndinkaa
open Go.ChangeShapes Go.WideShapes Go.ChangeAt Go.RowKit Go.Maps

set_option maxRecDepth 20000 in
set_option maxHeartbeats 2000000 in
theorem implSC_any (cs : List Ct) (v : Value) (w : World) (h : CutsAt w v cs) :
    Calls Try.prog 38 #[v] w (CU (srL cs) (srC cs) w) := by
  have HC := Lib.hid (implVC_any cs v w h)
  rcases Bool.eq_false_or_eq_true (cutsB cs) with h1 | h1
  · have H1 := Lib.hid h1
    have HS := Lib.hid (fun W (hW : Below w.heap.size w W) => stepsOf_any cs v W (cuts_kept hW h) h1)
    have HR0 := Lib.hid (fun h2 => sr_0 h1 h2)
    have HR5 := Lib.hid (fun h2 => sr_5 h1 h2)
    obtain ⟨a, c, rfl⟩ := cuts_form h
    clear h h1
    generalize cs.length = n at *
    go_enter Try.func38, Try.ntmps38
    go_wp2_with fail
    refine HC.out.mono ?_
    rintro e w1 ⟨rfl, hb⟩
    rw [H1.out]
    have HB := Lib.hid hb
    clear hb
    go_wp2_with fail
    refine (HS.out _ HB.out).mono ?_
    rintro e w2 ⟨⟨h2, b, rfl, hM, hbl⟩ | ⟨h2, rfl⟩, hb⟩
    · have HM := Lib.hid hM
      have HR := Lib.hid (HR0.out h2)
      have HB2 := Lib.hid (below_of HB.out hb HB.out.size)
      clear hb hM h2
      go_wp2_with fail
      refine (cutsOf_any b 64 _ _ HM.out (Nat.le_refl _)).mono ?_
      rintro e w3 ⟨⟨vr, rfl, hv⟩, hb⟩
      have HVR := Lib.hid (cv_base hv HB2.out.size)
      have HB3 := Lib.hid (below_of HB2.out hb HB2.out.size)
      clear hv hb
      go_wp2
      go_ret2
      exact ⟨vr, ret_cv HR.out.2.symm, by rw [HR.out.1]; exact HVR.out, HB3.out⟩
    · have HR := Lib.hid (HR5.out h2)
      have HB2 := Lib.hid (below_of HB.out hb HB.out.size)
      clear hb h2
      go_wp2
      go_ret2
      exact ⟨.slice none 0 0, ret_cv HR.out.2.symm, by rw [HR.out.1]; exact .inl ⟨rfl, rfl⟩, HB2.out⟩
  · have H1 := Lib.hid h1
    have HR := Lib.hid (sr_1 h1)
    obtain ⟨a, c, rfl⟩ := cuts_form h
    clear h h1
    generalize cs.length = n at *
    go_enter Try.func38, Try.ntmps38
    go_wp2_with fail
    refine HC.out.mono ?_
    rintro e w1 ⟨rfl, hb⟩
    rw [H1.out]
    have HB := Lib.hid hb
    clear hb
    go_wp2
    go_ret2
    exact ⟨.slice none 0 0, ret_cv HR.out.2.symm, by rw [HR.out.1]; exact .inl ⟨rfl, rfl⟩, HB.out⟩
end Go.Proofs.Ytpllmehcndinkaa
