/- The mass above a height: the reference model's walk. -/
import Derived.Test.YtgnnpimfcbkloaaAbvI
set_option linter.unusedVariables false
namespace Go.Proofs.Ytgnnpimfcbkloaa
open Go.ChangeShapes Go.WideShapes Go.ChangeAt Go.RowKit

theorem ownL_cellA {w : World} {B : Nat} {g n cap : Nat} {rs : List Rg} {d : Int} (hn : rs.length = n) (h : w.ownsRow B 2 1 (.slice (some ⟨g, 0, none⟩) n cap) n (i64s (massL rs d))) (j : Nat) (hj : j < n) : w.cell? ⟨g, j, none⟩ = some (.int .i64 (massR d (rs.getD j zR))) := by
  rw [h.cellAt j (by omega), ← massL_get rs d j (by omega)]
  exact i64s_get _ j (by rw [massL_len]; omega)
set_option maxRecDepth 20000 in
set_option maxHeartbeats 2000000 in
theorem specMassAbove_any (s : ByteArray) (v : Value) (rs : List Rg) (d h : Int) (w : World) (hr : RingsAt w v rs) (hs : s.size ≤ maxLen) :
    Calls Try.prog 39 #[.agg #[.string s, v], .int .i64 d, .int .i64 h] w fun e w' => e = .returned (.tuple #[.int .i64 (abvC s rs d h), .int .i64 (askA s rs d h)]) ∧ Below w.heap.size w w' := by
  have HI := Lib.hid hr
  obtain ⟨a, c, rfl⟩ := rings_form hr
  clear hr
  have hal := alloc_lt2 w (.cells #[.string s, .slice a rs.length c] 36)
  have hpa := prof_alloc w s (.slice a rs.length c) 36
  have HBA := Lib.hid (below_al w (.cells #[.string s, .slice a rs.length c] 36))
  have HIA := Lib.hid (rings_kept HBA.out HI.out)
  by_cases hk : askD s rs d = 0
  · obtain ⟨hp, d0, d1⟩ := askD_ok hk
    have HK := Lib.hid hk
    have HVR := Lib.hid (fun i hi => prof_ring hp i hi)
    have HBD := Lib.hid (sumF_bd (aboveV h d) rs 21205752750 (fun i hi => aboveV_bd (prof_ring hp i hi) (by omega) d1))
    have HNX := Lib.hid (sumF_next (aboveV h d) rs)
    have HHN := Lib.hid (heights_next rs)
    have HHL := Lib.hid (heights_le hp)
    obtain ⟨-, ⟨n1, n2⟩, -, -⟩ := prof_iff.1 hp
    rcases Bool.eq_false_or_eq_true (inB h 0 (heights rs)) with hin | hin
    · have HA := Lib.hid (askA_0 hk hin)
      have HM := Lib.hid (abv_ok (askA_0 hk hin))
      have HIN := Lib.hid hin
      clear hp hk hin
      generalize hn : rs.length = n at *
      have HN := Lib.hid hn
      clear hn
      go_enter Try.func39, Try.ntmps39
      go_wp2_with fail
      generalize w.alloc (.cells #[.string s, .slice a n c] 36) = wA at *
      refine (l06Ask_any _ s _ rs d _ hpa HIA hs).mono ?_
      rintro e w1 ⟨rfl, hb⟩
      rw [HK.out]
      have hp1 := prof_keep hb hal hpa
      have HI1 := Lib.hid (rings_kept hb HIA.out)
      have HB := Lib.hid (below_of HBA.out hb HBA.out.size)
      have hl1 := Nat.lt_of_lt_of_le hal hb.size
      clear hb hpa
      obtain ⟨b, off, rfl, hbl, hr⟩ := rings_lie HN.out n1 HI1.out
      have HC1 := Lib.hid (l06Masses_some _ b off c n s rs d _ HN.out n1 n2 hl1 hbl hp1 hr (fun i hi => HVR.out i (by rw [← HN.out]; exact hi)) (by omega) d1)
      have HHT := Lib.hid (l05Height_some _ b off c n s rs _ HN.out n2 hp1 hr (fun i hi => HVR.out i (by rw [← HN.out]; exact hi)))
      have HR1 := Lib.hid hr
      have HP1 := Lib.hid hp1
      clear hr hp1
      go_wp2_with fail
      refine HHT.out.mono ?_
      rintro e w' ⟨rfl, rfl⟩
      go_wp2_with fail
      refine (l00In_any h 0 (heights rs) _).mono ?_
      rintro e w' ⟨rfl, rfl⟩
      rw [HIN.out]
      go_wp2_with fail
      refine HC1.out.mono ?_
      rintro e w2 ⟨⟨v2, rfl, g, cap, rfl, hg, hown⟩, hb⟩
      have hgl := (hown.lt _ rfl).2
      have HG := Lib.hid (ownL_cellA HN.out hown)
      have HB2 := Lib.hid (below_of HB.out hb HB.out.size)
      have hl2 := Nat.lt_of_lt_of_le hl1 hb.size
      have hbl2 := Nat.lt_of_lt_of_le hbl hb.size
      have HP2 := Lib.hid (prof_keep hb hl1 HP1.out)
      have HR2 := Lib.hid (fun i (hi : i < n) => (show RingIn w2 b (off + i * 3) (rs.getD i zR) from ⟨(below_cell hb _ _ hbl).trans (HR1.out i hi).c0, (below_cell hb _ _ hbl).trans (HR1.out i hi).c1, (below_cell hb _ _ hbl).trans (HR1.out i hi).c2⟩))
      clear hb hown
      go_wp2
      go_loopw [10, 11, 12] (fun x y i wr => ∃ k : Nat, k ≤ n ∧ i = .int .i64 k ∧ x = .int .i64 (sumF (aboveV h d) 0 (rs.take k)) ∧ y = .int .i64 (heights (rs.take k)) ∧ Below w2.heap.size w2 wr) (fun _ _ i _ => n - (intOf i).toNat)
      case atStart => exact ⟨0, by omega, rfl, rfl, rfl, Below.refl _ _⟩
      case round =>
        obtain ⟨k, hk, rfl, rfl, rfl, hbw⟩ := hrel
        have HBW := Lib.hid hbw
        obtain ⟨-, p1⟩ := prof_keep hbw hl2 HP2.out
        clear hbw
        by_cases hlt : k < n
        · have hr0 := HR2.out k hlt
          have hrb := HVR.out k hlt
          have b1 := HBD.out k hk
          have hh := HHL.out k hk
          have hx := HNX.out k hlt
          have hy := HHN.out k hlt
          have bm := massR_bdA hrb (show 0 ≤ d by omega) d1
          have hmc := (below_cell HBW.out g k hgl).trans (HG.out k hlt)
          have hz := (ring_iff.1 hrb).2.2
          have e2 := (below_cell HBW.out _ _ hbl2).trans hr0.c2
          clear hr0 hrb
          obtain ⟨r, hrr⟩ : ∃ r, rs.getD k zR = r := ⟨_, rfl⟩
          rw [hrr] at e2 hx hy hmc bm hz
          have HX := Lib.hid hx
          have HYY := Lib.hid hy
          have HAV := Lib.hid (show aboveV h d (heights (rs.take k)) r = if heights (rs.take k) < h then 0 else massV (volR r) d from rfl)
          have hmd : massR d r = massV (volR r) d := rfl
          rw [hmd] at hmc
          obtain ⟨m, hm⟩ : ∃ m, massV (volR r) d = m := ⟨_, rfl⟩
          obtain ⟨z, hzz⟩ : ∃ z, r.2.2 = z := ⟨_, rfl⟩
          have HMM := Lib.hid hm
          have HZZ := Lib.hid hzz
          rw [hm] at hmc bm
          rw [hzz] at e2 hz
          clear hx hy hrr hm hzz hmd
          obtain ⟨t, ht⟩ : ∃ t, heights (rs.take k) = t := ⟨_, rfl⟩
          have HTT := Lib.hid ht
          rw [ht] at hh ⊢
          clear ht
          generalize sumF (aboveV h d) 0 (rs.take k) = u at *
          have hw : IntKind.i64.wrap (u + m) = u + m := IntWalk.i64_in _ (by omega)
          have hw2 : IntKind.i64.wrap (t + z) = t + z := IntWalk.i64_in _ (by omega)
          have hkm : (k : Int) < (n : Int) := by omega
          have hk0 : (0 : Int) ≤ (k : Int) := by omega
          clear b1 bm hz
          by_cases hth : t < h
          · have HV := Lib.hid (show aboveV h d (heights (rs.take k)) r = 0 by rw [HAV.out, HTT.out, if_pos hth])
            go_wp2
            go_roundw
            case rel => exact ⟨k + 1, by omega, by go_num, by rw [HX.out, HV.out, Int.add_zero], by rw [HYY.out, HTT.out, HZZ.out], HBW.out⟩
            case measure => simp [intOf]; omega
          · have HV := Lib.hid (show aboveV h d (heights (rs.take k)) r = m by rw [HAV.out, HTT.out, if_neg hth, HMM.out])
            go_wp2
            go_roundw
            case rel => exact ⟨k + 1, by omega, by go_num, by rw [HX.out, HV.out], by rw [HYY.out, HTT.out, HZZ.out], HBW.out⟩
            case measure => simp [intOf]; omega
        · obtain rfl : k = n := by omega
          have he : sumF (aboveV h d) 0 (rs.take k) = abvP rs d h := by rw [List.take_of_length_le (by have := HN.out; omega)]; rfl
          rw [he, ← HM.out]
          clear he
          have HBF := Lib.hid (below_of HB2.out HBW.out HB2.out.size)
          obtain ⟨y, hy⟩ : ∃ y, abvC s rs d h = y := ⟨_, rfl⟩
          have HY := Lib.hid hy
          rw [hy]
          clear hy
          go_wp2
          go_ret2
          exact ⟨ret_two HY.out.symm HA.out.symm, HBF.out⟩
    · have HA := Lib.hid (askA_2 hk hin)
      have HM := Lib.hid (abv_no (s := s) (rs := rs) (d := d) (h := h) (by rw [askA_2 hk hin]; decide))
      have HIN := Lib.hid hin
      clear hp hk hin
      generalize hn : rs.length = n at *
      have HN := Lib.hid hn
      clear hn
      go_enter Try.func39, Try.ntmps39
      go_wp2_with fail
      generalize w.alloc (.cells #[.string s, .slice a n c] 36) = wA at *
      refine (l06Ask_any _ s _ rs d _ hpa HIA hs).mono ?_
      rintro e w1 ⟨rfl, hb⟩
      rw [HK.out]
      have hp1 := prof_keep hb hal hpa
      have HI1 := Lib.hid (rings_kept hb HIA.out)
      have HB := Lib.hid (below_of HBA.out hb HBA.out.size)
      have hl1 := Nat.lt_of_lt_of_le hal hb.size
      clear hb hpa
      obtain ⟨b, off, rfl, hbl, hr⟩ := rings_lie HN.out n1 HI1.out
      have HC1 := Lib.hid (l06Masses_some _ b off c n s rs d _ HN.out n1 n2 hl1 hbl hp1 hr (fun i hi => HVR.out i (by rw [← HN.out]; exact hi)) (by omega) d1)
      have HHT := Lib.hid (l05Height_some _ b off c n s rs _ HN.out n2 hp1 hr (fun i hi => HVR.out i (by rw [← HN.out]; exact hi)))
      have HR1 := Lib.hid hr
      have HP1 := Lib.hid hp1
      clear hr hp1
      go_wp2_with fail
      refine HHT.out.mono ?_
      rintro e w' ⟨rfl, rfl⟩
      go_wp2_with fail
      refine (l00In_any h 0 (heights rs) _).mono ?_
      rintro e w' ⟨rfl, rfl⟩
      rw [HIN.out]
      go_wp2
      go_ret2
      exact ⟨ret_two HM.out.symm HA.out.symm, HB.out⟩
  · have HA := Lib.hid (askA_n (h := h) hk)
    have HM := Lib.hid (abv_no (s := s) (rs := rs) (d := d) (h := h) (by rw [askA_n hk]; exact hk))
    obtain ⟨k, hk2⟩ : ∃ k, askD s rs d = k := ⟨_, rfl⟩
    rw [hk2] at hk
    have HK := Lib.hid hk2
    clear hk2
    have hkb : (k != 0) = true := by simpa using hk
    have hkc : (k == 0) = false := by simpa using hk
    generalize hn : rs.length = n at *
    clear hn
    go_enter Try.func39, Try.ntmps39
    go_wp2_with fail
    generalize w.alloc (.cells #[.string s, .slice a n c] 36) = wA at *
    refine (l06Ask_any _ s _ rs d _ hpa HIA hs).mono ?_
    rintro e w1 ⟨rfl, hb⟩
    rw [HK.out]
    have HB := Lib.hid (below_of HBA.out hb HBA.out.size)
    clear hb hpa
    go_wp2
    go_ret2
    exact ⟨ret_two HM.out.symm (HA.out.trans HK.out).symm, HB.out⟩
end Go.Proofs.Ytgnnpimfcbkloaa
