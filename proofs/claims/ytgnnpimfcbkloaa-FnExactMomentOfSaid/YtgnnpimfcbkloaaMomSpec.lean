/- The moment of inertia of a profile: the reference model's walk. -/
import Derived.Test.YtgnnpimfcbkloaaMomI
set_option linter.unusedVariables false
namespace Go.Proofs.Ytgnnpimfcbkloaa
open Go.ChangeShapes Go.WideShapes Go.ChangeAt Go.RowKit

theorem ownL_cell {w : World} {B : Nat} {g n cap : Nat} {rs : List Rg} {d : Int} (hn : rs.length = n) (h : w.ownsRow B 2 1 (.slice (some ⟨g, 0, none⟩) n cap) n (i64s (massL rs d))) (j : Nat) (hj : j < n) : w.cell? ⟨g, j, none⟩ = some (.int .i64 (massR d (rs.getD j zR))) := by
  rw [h.cellAt j (by omega), ← massL_get rs d j (by omega)]
  exact i64s_get _ j (by rw [massL_len]; omega)
set_option maxRecDepth 20000 in
set_option maxHeartbeats 2000000 in
theorem specMomentOf_any (s : ByteArray) (v : Value) (rs : List Rg) (d : Int) (w : World) (h : RingsAt w v rs) (hs : s.size ≤ maxLen) :
    Calls Try.prog 37 #[.agg #[.string s, v], .int .i64 d] w fun e w' => e = .returned (.tuple #[.int .i64 (momC s rs d), .int .i64 (askD s rs d)]) ∧ Below w.heap.size w w' := by
  have HI := Lib.hid h
  obtain ⟨a, c, rfl⟩ := rings_form h
  clear h
  have hal := alloc_lt2 w (.cells #[.string s, .slice a rs.length c] 36)
  have hpa := prof_alloc w s (.slice a rs.length c) 36
  have HBA := Lib.hid (below_al w (.cells #[.string s, .slice a rs.length c] 36))
  have HIA := Lib.hid (rings_kept HBA.out HI.out)
  by_cases hk : askD s rs d = 0
  · obtain ⟨hp, d0, d1⟩ := askD_ok hk
    have HK := Lib.hid hk
    have HM := Lib.hid (mom_ok hk)
    have HP := Lib.hid hp
    have HVR := Lib.hid (fun i hi => prof_ring hp i hi)
    have HBD := Lib.hid (sumF_bd (fun _ r => momV d r) rs 47712943687500000 (fun i hi => momV_bd (prof_ring hp i hi) (by omega) d1))
    have HNX := Lib.hid (sumF_next (fun _ r => momV d r) rs)
    obtain ⟨-, ⟨n1, n2⟩, -, -⟩ := prof_iff.1 hp
    clear hp hk
    generalize hn : rs.length = n at *
    have HN := Lib.hid hn
    clear hn
    go_enter Try.func37, Try.ntmps37
    go_wp2_with fail
    generalize w.alloc (.cells #[.string s, .slice a n c] 36) = wA at *
    refine (l06Ask_any _ s _ rs d _ hpa HIA hs).mono ?_
    rintro e w1 ⟨rfl, hb⟩
    rw [HK.out]
    have hp1 := prof_keep hb hal hpa
    have HI1 := Lib.hid (rings_kept hb HIA.out)
    have HB := Lib.hid (below_of HBA.out hb HBA.out.size)
    have hl1 := Nat.lt_of_lt_of_le hal hb.size
    clear hb hpa
    obtain ⟨b, off, rfl, hbl, hr⟩ := rings_lie HN.out n1 HI1.out
    have HC1 := Lib.hid (l06Masses_some _ b off c n s rs d _ HN.out n1 n2 hl1 hbl hp1 hr (fun i hi => prof_ring HP.out i hi) (by omega) d1)
    have HR1 := Lib.hid hr
    have HP1 := Lib.hid hp1
    clear hr hp1
    go_wp2_with fail
    refine HC1.out.mono ?_
    rintro e w2 ⟨⟨v2, rfl, g, cap, rfl, hg, hown⟩, hb⟩
    have hgl := (hown.lt _ rfl).2
    have HG := Lib.hid (ownL_cell HN.out hown)
    have HB2 := Lib.hid (below_of HB.out hb HB.out.size)
    have hl2 := Nat.lt_of_lt_of_le hl1 hb.size
    have hbl2 := Nat.lt_of_lt_of_le hbl hb.size
    have HP2 := Lib.hid (prof_keep hb hl1 HP1.out)
    have HR2 := Lib.hid (fun i (hi : i < n) => (show RingIn w2 b (off + i * 3) (rs.getD i zR) from ⟨(below_cell hb _ _ hbl).trans (HR1.out i hi).c0, (below_cell hb _ _ hbl).trans (HR1.out i hi).c1, (below_cell hb _ _ hbl).trans (HR1.out i hi).c2⟩))
    clear hb hown
    go_wp2
    go_loopw [8, 9] (fun x i wr => ∃ k : Nat, k ≤ n ∧ i = .int .i64 k ∧ x = .int .i64 (sumF (fun _ r => momV d r) 0 (rs.take k)) ∧ Below w2.heap.size w2 wr) (fun _ i _ => n - (intOf i).toNat)
    case atStart => exact ⟨0, by omega, rfl, rfl, Below.refl _ _⟩
    case round =>
      obtain ⟨k, hk, rfl, rfl, hbw⟩ := hrel
      have HBW := Lib.hid hbw
      obtain ⟨-, p1⟩ := prof_keep hbw hl2 HP2.out
      clear hbw
      by_cases hlt : k < n
      · have hr0 := HR2.out k hlt
        have hrb := HVR.out k hlt
        have b1 := HBD.out k hk
        have b2 := momV_bd hrb (show 0 ≤ d by omega) d1
        have hx := HNX.out k hlt
        have hmc := (below_cell HBW.out g k hgl).trans (HG.out k hlt)
        have e0 := (below_cell HBW.out _ _ hbl2).trans hr0.c0
        have e1 := (below_cell HBW.out _ _ hbl2).trans hr0.c1
        have e2 := (below_cell HBW.out _ _ hbl2).trans hr0.c2
        clear hr0
        obtain ⟨⟨x, y, z⟩, hxyz⟩ : ∃ r, rs.getD k zR = r := ⟨_, rfl⟩
        rw [hxyz] at e0 e1 e2 hrb hx b2 hmc
        have HX := Lib.hid hx
        obtain ⟨⟨r0, r1⟩, ⟨r2, r3⟩, r4, r5⟩ := ring_iff.1 hrb
        have bm := massR_bd hrb (show 0 ≤ d by omega) d1
        have ba := (arm_bd hrb).2
        have HMV := Lib.hid (show momV d (x, y, z) = massV (volR (x, y, z)) d * armR (x, y, z) from rfl)
        have HAR := Lib.hid (show armR (x, y, z) = nq (x * x + y * y) 20000 from rfl)
        have hmd : massR d (x, y, z) = massV (volR (x, y, z)) d := rfl
        simp only at e0 e1 e2 r0 r1 r2 r3 r4 r5
        have s1 := sq_bd (x := x) (by omega) r1
        have s2 := sq_bd (x := y) r2 (by omega)
        rw [hmd] at hmc
        rw [HMV.out] at b2
        obtain ⟨m, hm⟩ : ∃ m, massV (volR (x, y, z)) d = m := ⟨_, rfl⟩
        obtain ⟨q, hq⟩ : ∃ q, armR (x, y, z) = q := ⟨_, rfl⟩
        have HMM := Lib.hid hm
        have HQQ := Lib.hid hq
        rw [hm] at hmc
        rw [hm, hq] at b2
        have HT := Lib.hid (show ∀ (a : Int) (w : World), a = x * x + y * y → Calls Try.prog 49 #[.int .i64 a, .int .i64 20000] w fun e w' => e = .returned (.int .i64 q) ∧ w = w' from fun a w h => by subst h; rw [← hq, HAR.out]; exact specDiv_any (x * x + y * y) 20000 w (by omega) (by omega) (by omega))
        have HW := Lib.hid (show wrap64 (wrap64 (x * x) + wrap64 (y * y)) = x * x + y * y from by rw [IntWalk.wrap64_in (x * x) (by omega), IntWalk.wrap64_in (y * y) (by omega)]; exact IntWalk.wrap64_in _ (by omega))
        clear hx hrb hxyz hm hq hmd bm ba
        generalize sumF (fun _ r => momV d r) 0 (rs.take k) = t at *
        have HW3 := Lib.hid (show wrap64 (m * q) = m * q from IntWalk.wrap64_in _ (by omega))
        have HW4 := Lib.hid (show wrap64 (t + m * q) = t + m * q from IntWalk.wrap64_in _ (by omega))
        have hkm : (k : Int) < (n : Int) := by omega
        have hk0 : (0 : Int) ≤ (k : Int) := by omega
        clear b1 b2 r0 r1 r2 r3 r4 r5
        have hmc' := (below_cell (below_al wr (.cells #[.int .i64 x, .int .i64 y, .int .i64 z] 26)) g k (Nat.lt_of_lt_of_le hgl HBW.out.size)).trans hmc
        go_wp2
        go_quiet ((go_at_call 49; exact Calls.quiet_of_same ((HT.out _ _ (by first | exact HW.out | rfl)).mono (fun _ _ h => ⟨h.1, h.2.symm⟩))))
        go_wp2
        go_roundw
        case rel => exact ⟨k + 1, by omega, by go_num, by rw [HX.out, HMV.out, HMM.out, HQQ.out]; first | done | rfl | rw [HW3.out, HW4.out] | rw [HW4.out], below_of (HBW.out.alloc HBW.out.size _) (below_drewN _ _) (by simp; have := HBW.out.size; omega)⟩
        case measure => simp [intOf]; omega
      · obtain rfl : k = n := by omega
        have he : sumF (fun _ r => momV d r) 0 (rs.take k) = momP rs d := by rw [List.take_of_length_le (by have := HN.out; omega)]; rfl
        rw [he, ← HM.out]
        clear he
        have HBF := Lib.hid (below_of HB2.out HBW.out HB2.out.size)
        obtain ⟨y, hy⟩ : ∃ y, momC s rs d = y := ⟨_, rfl⟩
        have HY := Lib.hid hy
        rw [hy]
        clear hy
        go_wp2
        go_ret2
        exact ⟨ret_two HY.out.symm HK.out.symm, HBF.out⟩
  · have HM := Lib.hid (mom_no hk)
    obtain ⟨k, hk2⟩ : ∃ k, askD s rs d = k := ⟨_, rfl⟩
    rw [hk2] at hk
    have HK := Lib.hid hk2
    clear hk2
    have hkb : (k != 0) = true := by simpa using hk
    generalize hn : rs.length = n at *
    clear hn
    go_enter Try.func37, Try.ntmps37
    go_wp2_with fail
    generalize w.alloc (.cells #[.string s, .slice a n c] 36) = wA at *
    refine (l06Ask_any _ s _ rs d _ hpa HIA hs).mono ?_
    rintro e w1 ⟨rfl, hb⟩
    rw [HK.out]
    have HB := Lib.hid (below_of HBA.out hb HBA.out.size)
    clear hb hpa
    go_wp2
    go_ret2
    exact ⟨ret_two HM.out.symm HK.out.symm, HB.out⟩
end Go.Proofs.Ytgnnpimfcbkloaa
