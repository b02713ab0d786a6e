/- Models: the reference model's validity. -/
import Derived.Test.YtpjopfhkgegahaaGreatModMath
import Derived.Deep.QuietTactic
import Derived.BigQuiet
namespace Go.Proofs.YtpjopfhkgegahaaGreat
open Go.ChangeShapes Go.WideShapes Go.ChangeAt Go.RowKit

set_option maxHeartbeats 1000000 in
theorem l08Zones_any (zs : List Int) (v : Value) (w : World) (h : IntsAt w v zs) :
    Calls Tryz.prog 118 #[v] w fun e w' => e = .returned (.bool (zonesB zs)) ∧ Below w.heap.size w w' := by
  have hl := h.1
  by_cases h1 : 1 ≤ zs.length ∧ zs.length ≤ 8
  · obtain ⟨b, off, cap, rfl, hb, hc⟩ := ints_cells h (by omega)
    have c0 : w.cell? ⟨b, off, none⟩ = some (.int .i64 (zs.getD 0 0)) := hc 0 (by omega)
    have HE := Lib.hid (fun h2 => zones_end (zs := zs) h1 h2)
    have HN := Lib.hid (fun h2 => zones_no2 (zs := zs) h2)
    have HR := Lib.hid (rises_any 0 31 zs b off _ cap w rfl (by omega) hc)
    clear h hc
    generalize zs.length = n at *
    have h2 : (1 : Int) ≤ (n : Int) := by omega
    have h3 : (n : Int) ≤ 8 := by omega
    have h4 : (0 : Int) < (n : Int) := by omega
    clear h1
    by_cases h0 : zs.getD 0 0 = 0
    · have HZ := Lib.hid (HE.out h0)
      rw [h0] at c0
      clear h0 HE HN
      go_enter Tryz.func118, Tryz.ntmps118
      go_wp2_with fail
      refine HR.out.mono ?_
      rintro e w1 ⟨rfl, hb1⟩
      have HB := Lib.hid hb1
      clear hb1
      generalize risesB 0 31 zs = r at *
      go_wp2
      go_ret
      exact ⟨ret_bool HZ.out.symm, HB.out⟩
    · have HZ := Lib.hid (HN.out h0)
      have h5 : (zs.getD 0 0 == 0) = false := beq_eq_false_iff_ne.2 h0
      generalize zs.getD 0 0 = z at *
      clear h0 HE HN HR
      go_enter Tryz.func118, Tryz.ntmps118
      go_wp2
      go_ret
      exact ⟨ret_bool HZ.out.symm, Below.refl _ _⟩
  · have HZ := Lib.hid (zones_no1 h1)
    obtain ⟨a, c, rfl⟩ := ints_form h
    clear h
    generalize zs.length = n at *
    by_cases h2 : 1 ≤ n
    · have h3 : ¬ (n : Int) ≤ 8 := by omega
      have h4 : (1 : Int) ≤ (n : Int) := by omega
      clear h1
      go_enter Tryz.func118, Tryz.ntmps118
      go_wp2
      go_ret
      exact ⟨ret_bool HZ.out.symm, Below.refl _ _⟩
    · have h4 : ¬ (1 : Int) ≤ (n : Int) := by omega
      clear h1
      go_enter Tryz.func118, Tryz.ntmps118
      go_wp2
      go_ret
      exact ⟨ret_bool HZ.out.symm, Below.refl _ _⟩

set_option maxRecDepth 20000 in
set_option maxHeartbeats 4000000 in
theorem l08Ok_in (p : Nat) (v0 v1 v2 : Value) (zs : List Int) (ws : List (List Int)) (bs : List Int) (w : World) (hp : p < w.heap.size) (hm : ModIn w p v0 v1 v2) (h0 : IntsAt w v0 zs) (h1 : RowsAt w v1 ws) (h2 : IntsAt w v2 bs)
    (hz : zonesB zs = true) (h5 : ws.length = 5 ∧ bs.length = 5) :
    Calls Tryz.prog 96 #[.pointer (some ⟨p, 0, none⟩)] w fun e w' => e = .returned (.bool (modB zs ws bs)) ∧ Below w.heap.size w w' := by
  obtain ⟨c0, c1, c2⟩ := hm
  have HZ := Lib.hid (l08Zones_any zs v0 w h0)
  have HZT := Lib.hid hz
  have hzl := zones_len hz
  obtain ⟨b1, o1, k1, rfl, hb1, hc1⟩ := mrows_cells h1 (by omega)
  obtain ⟨b2, o2, k2, rfl, hb2, hc2⟩ := ints_cells h2 (by omega)
  obtain ⟨a0, k0, rfl⟩ := ints_form h0
  have HE := Lib.hid (fun h => mod_end (bs := bs) hz h5 h)
  have HN3 := Lib.hid (fun h => mod_no3 (zs := zs) (ws := ws) (bs := bs) h)
  have HN4 := Lib.hid (fun h => mod_no4 (zs := zs) (ws := ws) (bs := bs) h)
  obtain ⟨hw5, hb5⟩ := h5
  rw [hw5] at c1 hc1
  rw [hb5] at c2 hc2
  have HW5 := Lib.hid hw5
  have HB5 := Lib.hid hb5
  have HC1 := Lib.hid hc1
  have HC2 := Lib.hid hc2
  clear hz h0 h1 h2 hw5 hb5 hc1 hc2
  generalize hnn : zs.length = n at *
  have HNN := Lib.hid hnn
  clear hnn
  go_enter Tryz.func96, Tryz.ntmps96
  go_wp2_with fail
  refine HZ.out.mono ?_
  rintro e w1 ⟨rfl, hb⟩
  rw [HZT.out]
  have HB1 := Lib.hid hb
  have d0 := (below_cell hb _ _ hp).trans c0
  have d1 := (below_cell hb _ _ hp).trans c1
  have d2 := (below_cell hb _ _ hp).trans c2
  clear hb c0 c1 c2
  go_wp2
  go_loopw [3] (fun i wr => ∃ k : Nat, k ≤ 5 ∧ i = .int .i64 k ∧ Hid (∀ j, j < k → rowB n (ws.getD j []) = true ∧ inB (bs.getD j 0) 1 1000000000 = true) ∧ Below w.heap.size w wr) (fun i _ => 5 - (intOf i).toNat)
  case atStart => exact ⟨0, by omega, rfl, Lib.hid (fun j hj => by omega), HB1.out⟩
  case round =>
    obtain ⟨k, hk, rfl, HA, hbw⟩ := hrel
    generalize hwo : wr = wo at *
    clear hwo
    have HB := Lib.hid hbw
    by_cases hlt : k < 5
    · have e0 := (below_cell hbw _ _ hp).trans ((below_cell HB1.out _ _ hp).symm.trans d0)
      have e1 := (below_cell hbw _ _ hp).trans ((below_cell HB1.out _ _ hp).symm.trans d1)
      have e2 := (below_cell hbw _ _ hp).trans ((below_cell HB1.out _ _ hp).symm.trans d2)
      have x2 : wo.cell? ⟨b2, o2 + k, none⟩ = some (.int .i64 (bs.getD k 0)) := (below_cell hbw _ _ hb2).trans (HC2.out k hlt)
      obtain ⟨u, hu, hui⟩ := HC1.out k hlt
      have x1 : wo.cell? ⟨b1, o1 + k, none⟩ = some u := (below_cell hbw _ _ hb1).trans hu
      have HUI := Lib.hid (ints_kept hbw hui)
      obtain ⟨ua, uc, rfl⟩ := ints_form hui
      have hlt1 : (k : Int) < 5 := by omega
      have hk0 : (0 : Int) ≤ (k : Int) := by omega
      have HK5 := Lib.hid hlt
      clear hbw hu hui d0 d1 d2
      rcases Bool.eq_false_or_eq_true (inB (bs.getD k 0) 1 1000000000) with h4 | h4
      · have H4 := Lib.hid h4
        have H4B := Lib.hid (show ∀ j, j = k → inB (bs.getD j 0) 1 1000000000 = true from fun j e => by subst e; exact h4)
        clear h4
        by_cases hrl : (ws.getD k []).length = n
        · have HRL := Lib.hid hrl
          rw [hrl] at x1
          have hne : ((n : Int) != n) = false := by simp
          obtain ⟨br, orr, cr, hue, hbr, hcr⟩ := ints_cells HUI.out (by omega)
          rw [hrl] at hue hcr
          simp only [Value.slice.injEq] at hue
          obtain ⟨rfl, -, rfl⟩ := hue
          have HCR := Lib.hid hcr
          clear hrl hcr
          generalize bs.getD k 0 = z at *
          go_wp2
          go_quiet ((go_at_call 74; exact Calls.quiet_of_same ((l00In_any _ _ _ _).mono (fun _ _ h => ⟨by rw [h.1, H4.out], h.2.symm⟩))))
          go_wp2
          go_loopw [4, 5] (fun s i wt => ∃ q : Nat, q ≤ n ∧ i = .int .i64 q ∧ s = .int .i64 (sumI ((ws.getD k []).take q)) ∧ Hid (∀ j, j < q → inB ((ws.getD k []).getD j 0) 0 1000 = true) ∧ Below wo.heap.size wo wt) (fun _ i _ => n - (intOf i).toNat)
          case atStart => exact ⟨0, by omega, rfl, by simp [sumI], Lib.hid (fun j hj => by omega), below_drewN _ _⟩
          case round =>
            obtain ⟨q, hq, rfl, rfl, HQ, hbt⟩ := hrel
            have HT := Lib.hid hbt
            have hpr : p < wo.heap.size := Nat.lt_of_lt_of_le hp HB.out.size
            have hbr1 : b1 < wo.heap.size := Nat.lt_of_lt_of_le hb1 HB.out.size
            have f0 := (below_cell hbt _ _ hpr).trans e0
            have f1 := (below_cell hbt _ _ hpr).trans e1
            have y1 := (below_cell hbt _ _ hbr1).trans x1
            by_cases hq2 : q < n
            · have y2 : wr.cell? ⟨br, orr + q, none⟩ = some (.int .i64 ((ws.getD k []).getD q 0)) := (below_cell hbt _ _ hbr).trans (HCR.out q hq2)
              have HSN := Lib.hid (sumI_next (ws.getD k []) q (by rw [HRL.out]; exact hq2))
              have hsb := sumI_take_bd (ws.getD k []) 1000 q (by rw [HRL.out]; omega) (fun j hj => inB_iff.1 (HQ.out j hj))
              have hq1 : (q : Int) < (n : Int) := by omega
              have hq0 : (0 : Int) ≤ (q : Int) := by omega
              have HK := Lib.hid (fun (h : inB ((ws.getD k []).getD q 0) 0 1000 = true) j (hj : j < q + 1) => show inB ((ws.getD k []).getD j 0) 0 1000 = true by
                by_cases e : j = q
                · subst e; exact h
                · exact HQ.out j (by omega))
              have HF := Lib.hid (fun (h : inB ((ws.getD k []).getD q 0) 0 1000 = false) => HN3.out (allRows_false (k := k) (by rw [HW5.out]; exact hlt) (row_no2 (n := n) (allIn_false (by rw [HRL.out]; exact hq2) h))))
              clear hbt
              rcases Bool.eq_false_or_eq_true (inB ((ws.getD k []).getD q 0) 0 1000) with h6 | h6
              · have HK2 := Lib.hid (HK.out h6)
                have H6 := Lib.hid h6
                have hib := inB_iff.1 h6
                clear h6 HF
                generalize (ws.getD k []).getD q 0 = x at *
                generalize sumI ((ws.getD k []).take q) = s at *
                have hw : IntKind.i64.wrap (s + x) = s + x := IntWalk.i64_in _ (by omega)
                go_wp2_with (go_at_call 74; refine (l00In_at _ _ _ _ H6.out _).mono ?_; rintro e w2 ⟨rfl, rfl⟩)
                go_roundw
                case rel => exact ⟨q + 1, by omega, by go_num, by rw [HSN.out], HK2, HT.out⟩
                case measure => simp [intOf]; omega
              · have HFF := Lib.hid (HF.out h6)
                have H6 := Lib.hid h6
                clear h6 HF
                generalize (ws.getD k []).getD q 0 = x at *
                generalize sumI ((ws.getD k []).take q) = s at *
                go_wp2_with (go_at_call 74; refine (l00In_at _ _ _ _ H6.out _).mono ?_; rintro e w2 ⟨rfl, rfl⟩)
                go_ret
                exact ⟨ret_bool HFF.out.symm, below_of HB.out HT.out HB.out.size⟩
            · obtain rfl : q = n := by omega
              have HAL := Lib.hid (allIn_true (lo := 0) (hi := 1000) (zs := ws.getD k []) (fun j hj => HQ.out j (by rw [HRL.out] at hj; exact hj)))
              have HTK := Lib.hid (show sumI ((ws.getD k []).take q) = sumI (ws.getD k []) by rw [List.take_of_length_le (by rw [HRL.out]; exact Nat.le_refl _)])
              have HNZ := Lib.hid (nz_sum (r := ws.getD k []) (fun j hj => (allIn_at HAL.out j hj).1))
              have HRE := Lib.hid (row_end HRL.out HAL.out)
              clear hbt
              rw [HTK.out]
              by_cases hs0 : sumI (ws.getD k []) = 0
              · have HFF := Lib.hid (HN3.out (allRows_false (k := k) (by rw [HW5.out]; exact hlt) (by rw [HRE.out, HNZ.out, hs0]; rfl)))
                have hs1 : (sumI (ws.getD k []) == 0) = true := beq_iff_eq.2 hs0
                clear hs0
                generalize sumI (ws.getD k []) = s at *
                go_wp2
                go_ret
                exact ⟨ret_bool HFF.out.symm, below_of HB.out HT.out HB.out.size⟩
              · have HRT := Lib.hid (show rowB q (ws.getD k []) = true by rw [HRE.out, HNZ.out, decide_eq_true hs0])
                have hs1 : (sumI (ws.getD k []) == 0) = false := beq_eq_false_iff_ne.2 hs0
                clear hs0
                generalize sumI (ws.getD k []) = s at *
                go_wp2
                go_roundw
                case rel => exact ⟨k + 1, by have := HK5.out; omega, by go_num, Lib.hid (fun j hj => by
                  by_cases e : j = k
                  · subst e; exact ⟨HRT.out, H4B.out _ rfl⟩
                  · exact HA.out j (by omega)), below_of HB.out HT.out HB.out.size⟩
                case measure => simp [intOf]; omega
        · have HFF := Lib.hid (HN3.out (allRows_false (k := k) (by rw [HW5.out]; exact hlt) (row_no1 hrl)))
          generalize (ws.getD k []).length = rl at *
          have hne : ((rl : Int) != n) = true := by simp; omega
          generalize bs.getD k 0 = z at *
          go_wp2
          go_quiet ((go_at_call 74; exact Calls.quiet_of_same ((l00In_any _ _ _ _).mono (fun _ _ h => ⟨by rw [h.1, H4.out], h.2.symm⟩))))
          go_wp2
          go_ret
          exact ⟨ret_bool HFF.out.symm, below_drewN2 HB.out _⟩
      · have HFF := Lib.hid (HN4.out (allIn_false (k := k) (by rw [HB5.out]; exact hlt) h4))
        have H4 := Lib.hid h4
        clear h4
        generalize bs.getD k 0 = z at *
        go_wp2
        go_quiet ((go_at_call 74; exact Calls.quiet_of_same ((l00In_any _ _ _ _).mono (fun _ _ h => ⟨by rw [h.1, H4.out], h.2.symm⟩))))
        go_wp2
        go_ret
        exact ⟨ret_bool HFF.out.symm, below_drewN2 HB.out _⟩
    · obtain rfl : k = 5 := by omega
      have HFF := Lib.hid (show modB zs ws bs = true by
        rw [HE.out (allRows_true (fun j hj => (HA.out j (by rw [HW5.out] at hj; exact hj)).1))]
        exact allIn_true (fun j hj => (HA.out j (by rw [HB5.out] at hj; exact hj)).2))
      clear hbw d0 d1 d2
      go_wp2
      go_ret
      exact ⟨ret_bool HFF.out.symm, HB.out⟩
set_option maxRecDepth 20000 in
set_option maxHeartbeats 2000000 in
theorem l08Ok_any (p : Nat) (v0 v1 v2 : Value) (zs : List Int) (ws : List (List Int)) (bs : List Int) (w : World) (hp : p < w.heap.size) (hm : ModIn w p v0 v1 v2) (h0 : IntsAt w v0 zs) (h1 : RowsAt w v1 ws) (h2 : IntsAt w v2 bs) :
    Calls Tryz.prog 96 #[.pointer (some ⟨p, 0, none⟩)] w fun e w' => e = .returned (.bool (modB zs ws bs)) ∧ Below w.heap.size w w' := by
  rcases Bool.eq_false_or_eq_true (zonesB zs) with hz | hz
  · by_cases h5 : ws.length = 5 ∧ bs.length = 5
    · exact l08Ok_in p v0 v1 v2 zs ws bs w hp hm h0 h1 h2 hz h5
    · have HFF := Lib.hid (mod_no2 (zs := zs) (ws := ws) (bs := bs) h5)
      have HZ := Lib.hid (l08Zones_any zs v0 w h0)
      have HZT := Lib.hid hz
      obtain ⟨c0, c1, c2⟩ := hm
      obtain ⟨a0, k0, rfl⟩ := ints_form h0
      obtain ⟨a1, k1, rfl⟩ := mrows_form h1
      obtain ⟨a2, k2, rfl⟩ := ints_form h2
      clear h0 h1 h2 hz
      generalize zs.length = n0 at *
      generalize ws.length = n1 at *
      generalize bs.length = n2 at *
      by_cases h6 : n1 = 5
      · have h7 : ((n2 : Int) != 5) = true := by simp; omega
        subst h6
        clear h5
        go_enter Tryz.func96, Tryz.ntmps96
        go_wp2_with fail
        refine HZ.out.mono ?_
        rintro e w1 ⟨rfl, hb⟩
        rw [HZT.out]
        have HB1 := Lib.hid hb
        have d0 := (below_cell hb _ _ hp).trans c0
        have d1 := (below_cell hb _ _ hp).trans c1
        have d2 := (below_cell hb _ _ hp).trans c2
        clear hb c0 c1 c2
        go_wp2
        go_ret
        exact ⟨ret_bool HFF.out.symm, HB1.out⟩
      · have h7 : ((n1 : Int) != 5) = true := by simp; omega
        clear h5 h6
        go_enter Tryz.func96, Tryz.ntmps96
        go_wp2_with fail
        refine HZ.out.mono ?_
        rintro e w1 ⟨rfl, hb⟩
        rw [HZT.out]
        have HB1 := Lib.hid hb
        have d0 := (below_cell hb _ _ hp).trans c0
        have d1 := (below_cell hb _ _ hp).trans c1
        have d2 := (below_cell hb _ _ hp).trans c2
        clear hb c0 c1 c2
        go_wp2
        go_ret
        exact ⟨ret_bool HFF.out.symm, HB1.out⟩
  · have HFF := Lib.hid (mod_no1 (ws := ws) (bs := bs) hz)
    have HZ := Lib.hid (l08Zones_any zs v0 w h0)
    have HZT := Lib.hid hz
    obtain ⟨c0, c1, c2⟩ := hm
    clear h0 h1 h2 hz
    go_enter Tryz.func96, Tryz.ntmps96
    go_wp2_with fail
    refine HZ.out.mono ?_
    rintro e w1 ⟨rfl, hb⟩
    rw [HZT.out]
    have HB1 := Lib.hid hb
    clear hb c0 c1 c2
    go_wp2
    go_ret
    exact ⟨ret_bool HFF.out.symm, HB1.out⟩
end Go.Proofs.YtpjopfhkgegahaaGreat
