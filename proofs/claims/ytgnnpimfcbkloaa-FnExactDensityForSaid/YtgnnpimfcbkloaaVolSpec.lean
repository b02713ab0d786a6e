/- The volume of a profile: the reference model's walk. -/
import Derived.Test.YtgnnpimfcbkloaaMassSpec
set_option linter.unusedVariables false
namespace Go.Proofs.Ytgnnpimfcbkloaa
open Go.ChangeShapes Go.WideShapes Go.ChangeAt Go.RowKit

def volC (s : ByteArray) (rs : List Rg) : Int := if profB s rs = true then volP rs else 0
set_option maxHeartbeats 1000000 in
theorem specVolumeOf_any (s : ByteArray) (v : Value) (rs : List Rg) (w : World) (h : RingsAt w v rs) (hs : s.size ≤ maxLen) :
    Calls Try.prog 21 #[.agg #[.string s, v]] w fun e w' => e = .returned (.tuple #[.int .i64 (volC s rs), .int .i64 (codeP s rs)]) ∧ Below w.heap.size w w' := by
  have HI := Lib.hid h
  obtain ⟨a, c, rfl⟩ := rings_form h
  clear h
  rcases Bool.eq_false_or_eq_true (profB s rs) with hp | hp
  · have HR := Lib.hid (show volC s rs = volP rs ∧ codeP s rs = 0 by unfold volC codeP; rw [if_pos hp, if_pos hp]; exact ⟨rfl, rfl⟩)
    have HP := Lib.hid hp
    obtain ⟨-, ⟨n1, n2⟩, -, -⟩ := prof_iff.1 hp
    clear hp
    generalize hn : rs.length = n at *
    have HN := Lib.hid hn
    clear hn
    go_enter Try.func21, Try.ntmps21
    go_wp2_with fail
    have hal := alloc_lt2 w (.cells #[.string s, .slice a n c] 36)
    have hpa := prof_alloc w s (.slice a n c) 36
    have HBA := Lib.hid (below_al w (.cells #[.string s, .slice a n c] 36))
    generalize w.alloc (.cells #[.string s, .slice a n c] 36) = wA at *
    have HIA := Lib.hid (rings_kept HBA.out HI.out)
    refine (l05Ok_any _ s _ rs _ hpa HIA.out hs).mono ?_
    rintro e w1 ⟨rfl, hb⟩
    rw [HP.out]
    have hp1 := prof_keep hb hal hpa
    have HI1 := Lib.hid (rings_kept hb HIA.out)
    have HB := Lib.hid (below_of HBA.out hb HBA.out.size)
    have hbs := hb.size
    clear hb hpa
    go_wp2_with fail
    obtain ⟨-, ⟨a', c', hv, h0⟩ | ⟨b, off, cap, hv, hbl, hc⟩⟩ := HI1.out
    · have := HN.out
      rw [h0] at this; simp at this; omega
    · simp only [Value.slice.injEq] at hv
      obtain ⟨rfl, -, rfl⟩ := hv
      refine (l06Volume_some _ b off c n s rs _ HN.out n2 (Nat.lt_of_lt_of_le hal hbs) hbl hp1 (fun i hi => ring_in hc i (by rw [HN.out]; exact hi)) (fun i hi => prof_ring HP.out i hi)).mono ?_
      rintro e w2 ⟨rfl, hb⟩
      have HB2 := Lib.hid (below_of HB.out hb HB.out.size)
      clear hb
      have HR1 := Lib.hid HR.out.1
      have HR2 := Lib.hid HR.out.2
      generalize volP rs = y at *
      go_wp2
      go_ret2
      exact ⟨ret_two HR1.out.symm HR2.out.symm, HB2.out⟩
  · have HR := Lib.hid (show volC s rs = 0 ∧ codeP s rs = 1 by unfold volC codeP; rw [hp]; exact ⟨rfl, rfl⟩)
    generalize hn : rs.length = n at *
    clear hn
    go_enter Try.func21, Try.ntmps21
    go_wp2_with fail
    refine (l05Ok_any _ s _ rs _ (prof_alloc _ _ _ _) (rings_kept (below_al _ _) HI.out) hs).mono ?_
    rintro e w1 ⟨rfl, hb⟩
    rw [hp]
    have HB := Lib.hid (below_of (below_al _ _) hb (by simp))
    clear hb
    go_wp2
    go_ret2
    exact ⟨ret_two HR.out.1.symm HR.out.2.symm, HB.out⟩
end Go.Proofs.Ytgnnpimfcbkloaa
