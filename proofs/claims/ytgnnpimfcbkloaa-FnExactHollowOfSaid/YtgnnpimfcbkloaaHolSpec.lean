/- The room inside of a profile: the reference model's walk. -/
import Derived.Test.YtgnnpimfcbkloaaSumRHol
set_option linter.unusedVariables false
namespace Go.Proofs.Ytgnnpimfcbkloaa
open Go.ChangeShapes Go.WideShapes Go.ChangeAt Go.RowKit

set_option maxRecDepth 20000 in
set_option maxHeartbeats 2000000 in
theorem specHollowOf_any (s : ByteArray) (v : Value) (rs : List Rg) (w : World) (h : RingsAt w v rs) (hs : s.size ≤ maxLen) :
    Calls Try.prog 25 #[.agg #[.string s, v]] w fun e w' => e = .returned (.tuple #[.int .i64 (holC s rs), .int .i64 (codeP s rs)]) ∧ Below w.heap.size w w' := by
  have HI := Lib.hid h
  obtain ⟨a, c, rfl⟩ := rings_form h
  clear h
  have hal := alloc_lt2 w (.cells #[.string s, .slice a rs.length c] 36)
  have hpa := prof_alloc w s (.slice a rs.length c) 36
  have HBA := Lib.hid (below_al w (.cells #[.string s, .slice a rs.length c] 36))
  have HIA := Lib.hid (rings_kept HBA.out HI.out)
  rcases Bool.eq_false_or_eq_true (profB s rs) with hp | hp
  · have HR := Lib.hid (show holC s rs = holP rs ∧ codeP s rs = 0 by unfold holC codeP; rw [if_pos hp, if_pos hp]; exact ⟨rfl, rfl⟩)
    have HP := Lib.hid hp
    obtain ⟨-, ⟨n1, n2⟩, -, -⟩ := prof_iff.1 hp
    have HBD := Lib.hid (sumF_bd (fun _ r => holR r) rs 21205752750 (fun i hi => hol_bd (prof_ring hp i hi)))
    have HNX := Lib.hid (sumF_next (fun _ r => holR r) rs)
    clear hp
    generalize hn : rs.length = n at *
    have HN := Lib.hid hn
    clear hn
    go_enter Try.func25, Try.ntmps25
    go_wp2_with fail
    generalize w.alloc (.cells #[.string s, .slice a n c] 36) = wA at *
    refine (l05Ok_any _ s _ rs _ hpa HIA.out hs).mono ?_
    rintro e w1 ⟨rfl, hb⟩
    rw [HP.out]
    have hp1 := prof_keep hb hal hpa
    have HI1 := Lib.hid (rings_kept hb HIA.out)
    have HB := Lib.hid (below_of HBA.out hb HBA.out.size)
    have hl1 := Nat.lt_of_lt_of_le hal hb.size
    clear hb hpa
    obtain ⟨b, off, rfl, hbl, hr⟩ := rings_lie HN.out n1 HI1.out
    have HC := Lib.hid hr
    have HP1 := Lib.hid hp1
    clear hr hp1
    go_wp2
    go_loopw [4, 5] (fun x i wr => ∃ k : Nat, k ≤ n ∧ i = .int .i64 k ∧ x = .int .i64 (sumF (fun _ r => holR r) 0 (rs.take k)) ∧ Below w1.heap.size w1 wr) (fun _ i _ => n - (intOf i).toNat)
    case atStart => exact ⟨0, by omega, rfl, rfl, Below.refl _ _⟩
    case round =>
      obtain ⟨k, hk, rfl, rfl, hbw⟩ := hrel
      have HBW := Lib.hid hbw
      obtain ⟨-, p1⟩ := prof_keep hbw hl1 HP1.out
      clear hbw
      by_cases hlt : k < n
      · have hr0 := HC.out k hlt
        have hrb := prof_ring HP.out k (by rw [HN.out]; exact hlt)
        have b1 := HBD.out k hk
        have b2 := hol_bd hrb
        have hx := HNX.out k hlt
        have e0 := (below_cell HBW.out _ _ hbl).trans hr0.c0
        have e1 := (below_cell HBW.out _ _ hbl).trans hr0.c1
        have e2 := (below_cell HBW.out _ _ hbl).trans hr0.c2
        clear hr0
        obtain ⟨⟨x, y, z⟩, hxyz⟩ : ∃ r, rs.getD k zR = r := ⟨_, rfl⟩
        rw [hxyz] at e0 e1 e2 hrb hx b2
        have HX := Lib.hid hx
        obtain ⟨⟨r0, r1⟩, ⟨r2, r3⟩, r4, r5⟩ := ring_iff.1 hrb
        have s2 := in_bd hrb
        simp only at e0 e1 e2 r0 r1 r2 r3 r4 r5
        have s3 : 0 ≤ y * y ∧ y * y ≤ 22500000000 := s2
        obtain ⟨q, hq⟩ : ∃ q, holR (x, y, z) = q := ⟨_, rfl⟩
        have HQ := Lib.hid hq
        have HT := Lib.hid (show ∀ (a : Int) (w : World), a = y * y → Calls Try.prog 62 #[.int .i64 a, .int .i64 z] w fun e w' => e = .returned (.int .i64 q) ∧ w = w' from fun a w h => by subst h; rw [← hq]; exact l06Tube_any (y * y) z w s3.1 s3.2 (by omega) r5)
        have HW := Lib.hid (show IntKind.i64.wrap (y * y) = y * y from IntWalk.i64_in _ (by omega))
        rw [hq] at b2
        clear hx hrb hxyz hq s2
        generalize sumF (fun _ r => holR r) 0 (rs.take k) = t at *
        have HWT := Lib.hid (show IntKind.i64.wrap (t + q) = t + q from IntWalk.i64_in _ (by omega))
        have hkm : (k : Int) < (n : Int) := by omega
        have hk0 : (0 : Int) ≤ (k : Int) := by omega
        clear b1 b2 s3 r0 r1 r2 r3 r4 r5
        go_wp2
        go_quiet ((go_at_call 62; exact Calls.quiet_of_same ((HT.out _ _ (by first | exact HW.out | rfl)).mono (fun _ _ h => ⟨h.1, h.2.symm⟩))))
        go_wp2
        go_roundw
        case rel => exact ⟨k + 1, by omega, by go_num, by rw [HX.out, HQ.out]; try rw [HWT.out], below_of HBW.out (below_drewN _ _) HBW.out.size⟩
        case measure => simp [intOf]; omega
      · obtain rfl : k = n := by omega
        have he : sumF (fun _ r => holR r) 0 (rs.take k) = holP rs := by rw [List.take_of_length_le (by have := HN.out; omega)]; rfl
        have HR1 := Lib.hid HR.out.1
        have HR2 := Lib.hid HR.out.2
        rw [he]
        clear he
        generalize holP rs = y at *
        have HBF := Lib.hid (below_of HB.out HBW.out HB.out.size)
        go_wp2
        go_ret2
        exact ⟨ret_two HR1.out.symm HR2.out.symm, HBF.out⟩
  · have HR := Lib.hid (show holC s rs = 0 ∧ codeP s rs = 1 by unfold holC codeP; rw [hp]; exact ⟨rfl, rfl⟩)
    have HP := Lib.hid hp
    generalize hn : rs.length = n at *
    clear hn
    go_enter Try.func25, Try.ntmps25
    go_wp2_with fail
    refine (l05Ok_any _ s _ rs _ hpa HIA.out hs).mono ?_
    rintro e w1 ⟨rfl, hb⟩
    rw [HP.out]
    have HB := Lib.hid (below_of HBA.out hb HBA.out.size)
    clear hb
    go_wp2
    go_ret2
    exact ⟨ret_two HR.out.1.symm HR.out.2.symm, HB.out⟩
end Go.Proofs.Ytgnnpimfcbkloaa
