/- The height of the centre of gravity: the reference model's walk. -/
import Derived.Test.YtgnnpimfcbkloaaCenI
set_option linter.unusedVariables false
namespace Go.Proofs.Ytgnnpimfcbkloaa
open Go.ChangeShapes Go.WideShapes Go.ChangeAt Go.RowKit

theorem quiet_on {P : Program} {f : FuncId} {args : Array Value} {w : World} {x : Nat} {v v' : Int} (hv : v' = v)
    (h : Calls P f args (w.drewN x) fun e w' => e = .returned (.int .i64 v') ∧ ∃ k, w' = (w.drewN x).drewN k) : Calls P f args (w.drewN x) fun e w'' => e = .returned (.int .i64 v) ∧ ∃ n, w'' = w.drewN n :=
  h.mono fun _ _ ⟨he, k, hk⟩ => ⟨by rw [he, hv], x + k, by rw [hk, World.drewN_drewN]⟩
set_option maxRecDepth 20000 in
set_option maxHeartbeats 2000000 in
theorem specCentreOf_any (s : ByteArray) (v : Value) (rs : List Rg) (w : World) (h : RingsAt w v rs) (hs : s.size ≤ maxLen) :
    Calls Try.prog 35 #[.agg #[.string s, v]] w fun e w' => e = .returned (.tuple #[.int .i64 (cenC s rs), .int .i64 (codeP s rs)]) ∧ Below w.heap.size w w' := by
  have HI := Lib.hid h
  obtain ⟨a, c, rfl⟩ := rings_form h
  clear h
  have hal := alloc_lt2 w (.cells #[.string s, .slice a rs.length c] 36)
  have hpa := prof_alloc w s (.slice a rs.length c) 36
  have HBA := Lib.hid (below_al w (.cells #[.string s, .slice a rs.length c] 36))
  have HIA := Lib.hid (rings_kept HBA.out HI.out)
  rcases Bool.eq_false_or_eq_true (profB s rs) with hp | hp
  · have HR := Lib.hid (show cenC s rs = cenP rs ∧ codeP s rs = 0 by unfold cenC codeP; rw [if_pos hp, if_pos hp]; exact ⟨rfl, rfl⟩)
    have HP := Lib.hid hp
    obtain ⟨-, ⟨n1, n2⟩, -, -⟩ := prof_iff.1 hp
    have HBD := Lib.hid (turnP_bd hp)
    have HNX := Lib.hid (sumF_next turnV rs)
    have HHN := Lib.hid (heights_next rs)
    have HHL := Lib.hid (heights_le hp)
    have hv := prof_vol3 hp
    have HVR := Lib.hid (fun i hi => prof_ring hp i hi)
    clear hp
    generalize hn : rs.length = n at *
    have HN := Lib.hid hn
    clear hn
    go_enter Try.func35, Try.ntmps35
    go_wp2_with fail
    generalize w.alloc (.cells #[.string s, .slice a n c] 36) = wA at *
    refine (l05Ok_any _ s _ rs _ hpa HIA.out hs).mono ?_
    rintro e w1 ⟨rfl, hb⟩
    rw [HP.out]
    have hp1 := prof_keep hb hal hpa
    have HI1 := Lib.hid (rings_kept hb HIA.out)
    have HB := Lib.hid (below_of HBA.out hb HBA.out.size)
    have hl1 := Nat.lt_of_lt_of_le hal hb.size
    clear hb hpa
    obtain ⟨b, off, rfl, hbl, hr⟩ := rings_lie HN.out n1 HI1.out
    have HC := Lib.hid hr
    have HP1 := Lib.hid hp1
    clear hr hp1
    go_wp2
    go_loopw [4, 5, 6] (fun x y i wr => ∃ k : Nat, k ≤ n ∧ i = .int .i64 k ∧ x = .int .i64 (sumF turnV 0 (rs.take k)) ∧ y = .int .i64 (heights (rs.take k)) ∧ Below w1.heap.size w1 wr) (fun _ _ i _ => n - (intOf i).toNat)
    case atStart => exact ⟨0, by omega, rfl, rfl, rfl, Below.refl _ _⟩
    case round =>
      obtain ⟨k, hk, rfl, rfl, rfl, hbw⟩ := hrel
      have HBW := Lib.hid hbw
      obtain ⟨-, p1⟩ := prof_keep hbw hl1 HP1.out
      clear hbw
      by_cases hlt : k < n
      · have hr0 := HC.out k hlt
        have hrb := prof_ring HP.out k (by rw [HN.out]; exact hlt)
        have b1 := HBD.out k hk
        have hh := HHL.out k hk
        have b2 := turn_bd hrb hh.1 hh.2
        have hx := HNX.out k hlt
        have hy := HHN.out k hlt
        have e0 := (below_cell HBW.out _ _ hbl).trans hr0.c0
        have e1 := (below_cell HBW.out _ _ hbl).trans hr0.c1
        have e2 := (below_cell HBW.out _ _ hbl).trans hr0.c2
        clear hr0
        obtain ⟨⟨x, y, z⟩, hxyz⟩ : ∃ r, rs.getD k zR = r := ⟨_, rfl⟩
        rw [hxyz] at e0 e1 e2 hrb hx hy b2
        have HRI := Lib.hid (show RingIn wr b (off + k * 3) (x, y, z) from ⟨e0, e1, e2⟩)
        have HRB := Lib.hid hrb
        have HYY := Lib.hid hy
        have HX := Lib.hid hx
        obtain ⟨⟨r0, r1⟩, ⟨r2, r3⟩, r4, r5⟩ := ring_iff.1 hrb
        simp only at e0 e1 e2 r0 r1 r2 r3 r4 r5
        have bv := vol_bd hrb
        have HTV := Lib.hid (show turnV (heights (rs.take k)) (x, y, z) = volR (x, y, z) * (2 * heights (rs.take k) + z) from rfl)
        clear hx hy hrb hxyz
        rw [HTV.out] at b2
        obtain ⟨q, hq⟩ : ∃ q, volR (x, y, z) = q := ⟨_, rfl⟩
        have HQ := Lib.hid hq
        rw [hq] at b2 bv
        clear hq
        obtain ⟨g, hg⟩ : ∃ g, heights (rs.take k) = g := ⟨_, rfl⟩
        have HG := Lib.hid hg
        rw [hg] at b2 hh ⊢
        clear hg
        generalize sumF turnV 0 (rs.take k) = t at *
        have HW2 := Lib.hid (show wrap64 (2 * g + z) = 2 * g + z from IntWalk.wrap64_in _ (by omega))
        have HW3 := Lib.hid (show wrap64 (q * (2 * g + z)) = q * (2 * g + z) from IntWalk.wrap64_in _ (by omega))
        have HW4 := Lib.hid (show wrap64 (t + q * (2 * g + z)) = t + q * (2 * g + z) from IntWalk.wrap64_in _ (by omega))
        have hgz : IntKind.i64.wrap (g + z) = g + z := IntWalk.i64_in _ (by omega)
        have hkm : (k : Int) < (n : Int) := by omega
        have hk0 : (0 : Int) ≤ (k : Int) := by omega
        clear b1 b2 r0 r1 r2 r3 r4 r5 bv
        go_wp2
        go_quiet ((go_at_call 53; exact quiet_on HQ.out (l06Ring_any x y z b (off + k * 3) _ (ring_drew HRI.out) HRB.out)))
        go_wp2
        go_roundw
        case rel => exact ⟨k + 1, by omega, by go_num, by rw [HX.out, HTV.out, HQ.out, HG.out, HW2.out, HW3.out, HW4.out], by rw [HYY.out, HG.out], below_of HBW.out (below_drewN _ _) HBW.out.size⟩
        case measure => simp [intOf]; omega
      · obtain rfl : k = n := by omega
        have he : sumF turnV 0 (rs.take k) = turnP rs := by rw [List.take_of_length_le (by have := HN.out; omega)]; rfl
        have ht := HBD.out k (Nat.le_refl _)
        rw [he] at ht ⊢
        clear he
        have HQ := Lib.hid (show cenP rs = nq (turnP rs) (2 * volP rs) from rfl)
        have HT := Lib.hid (fun w => specDiv_any (turnP rs) (2 * volP rs) w (by omega) (by omega) (by omega))
        have hw : IntKind.i64.wrap (2 * volP rs) = 2 * volP rs := IntWalk.i64_in _ (by omega)
        have HBF := Lib.hid (below_of HB.out HBW.out HB.out.size)
        have hlw := Nat.lt_of_lt_of_le hl1 HBW.out.size
        have hbw2 := Nat.lt_of_lt_of_le hbl HBW.out.size
        have HPW := Lib.hid (prof_keep HBW.out hl1 HP1.out)
        have HRW := Lib.hid (fun i (hi : i < k) => (show RingIn wr b (off + i * 3) (rs.getD i zR) from ⟨(below_cell HBW.out _ _ hbl).trans (HC.out i hi).c0, (below_cell HBW.out _ _ hbl).trans (HC.out i hi).c1, (below_cell HBW.out _ _ hbl).trans (HC.out i hi).c2⟩))
        go_wp2_with fail
        refine (l06Volume_some _ b off c k s rs _ HN.out n2 hlw hbw2 HPW.out HRW.out (fun i hi => HVR.out i (by rw [← HN.out]; exact hi))).mono ?_
        rintro e w3 ⟨rfl, hb⟩
        have HB3 := Lib.hid (below_of HBF.out hb HBF.out.size)
        clear hb
        go_wp2_with (go_at_call 49; refine (HT.out _).mono ?_; rintro e w4 ⟨rfl, rfl⟩; rw [← HQ.out, ← HR.out.1]; obtain ⟨y, hy⟩ : ∃ y, cenC s rs = y := ⟨_, rfl⟩; have HY := Lib.hid hy; rw [hy]; clear hy)
        go_ret2
        exact ⟨ret_two HY.out.symm HR.out.2.symm, HB3.out⟩
  · have HR := Lib.hid (show cenC s rs = 0 ∧ codeP s rs = 1 by unfold cenC codeP; rw [hp]; exact ⟨rfl, rfl⟩)
    have HP := Lib.hid hp
    generalize hn : rs.length = n at *
    clear hn
    go_enter Try.func35, Try.ntmps35
    go_wp2_with fail
    refine (l05Ok_any _ s _ rs _ hpa HIA.out hs).mono ?_
    rintro e w1 ⟨rfl, hb⟩
    rw [HP.out]
    have HB := Lib.hid (below_of HBA.out hb HBA.out.size)
    clear hb
    go_wp2
    go_ret2
    exact ⟨ret_two HR.out.1.symm HR.out.2.symm, HB.out⟩
end Go.Proofs.Ytgnnpimfcbkloaa
