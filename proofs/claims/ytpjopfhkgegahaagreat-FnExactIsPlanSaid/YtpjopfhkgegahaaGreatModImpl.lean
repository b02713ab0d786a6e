/- Models: the program's validity. -/
import Derived.Test.YtpjopfhkgegahaaGreatModMath
import Derived.Test.YtpjopfhkgegahaaGreatG1
import Derived.Deep.QuietTactic
import Derived.BigQuiet
namespace Go.Proofs.YtpjopfhkgegahaaGreat
open Go.ChangeShapes Go.WideShapes Go.ChangeAt Go.RowKit

theorem within_zeroM (lo hi : Int) (a : Option Addr) (c : Nat) (w : World) :
    Calls Tryz.prog 31 #[.int .i64 lo, .int .i64 hi, .slice a 0 c] w fun e w' => e = .returned (.bool true) ∧ w = w' := by
  go_enter Tryz.func31, Tryz.ntmps31
  go_wp2
  refine wp_loop_rounds 1 ?_
  rw [rounds_succ]
  go_wp2
  go_ret
  exact ⟨rfl, rfl⟩
theorem within_atM (lo hi : Int) (zs : List Int) (v : Value) (w : World) (h : IntsAt w v zs) :
    Calls Tryz.prog 31 #[.int .i64 lo, .int .i64 hi, v] w fun e w' => e = .returned (.bool (allIn lo hi zs)) ∧ w = w' := by
  obtain ⟨hl, ⟨a, c, rfl, rfl⟩ | ⟨b, off, cap, rfl, hb, hc⟩⟩ := h
  · exact within_zeroM lo hi a c w
  · exact within_i64 lo hi zs b off _ cap w rfl (by omega) hc

theorem mono_le {zs : List Int} {n : Nat} (h : ∀ j, 0 < j → j < n → zs.getD (j - 1) 0 < zs.getD j 0) (i j : Nat) (hij : i ≤ j) (hj : j < n) : zs.getD i 0 ≤ zs.getD j 0 := by
  induction j with
  | zero => obtain rfl : i = 0 := by omega
            exact Int.le_refl _
  | succ j ih =>
    by_cases e : i = j + 1
    · subst e; exact Int.le_refl _
    · have h1 := ih (by omega) (by omega)
      have h2 := h (j + 1) (by omega) hj
      rw [Nat.add_sub_cancel] at h2
      omega
theorem rises_last {zs : List Int} (h1 : 1 ≤ zs.length) (h0 : zs.getD 0 0 = 0) (h : ∀ j, 0 < j → j < zs.length → zs.getD (j - 1) 0 < zs.getD j 0) : risesB 0 31 zs = decide (zs.getD (zs.length - 1) 0 < 32) := by
  by_cases hl : zs.getD (zs.length - 1) 0 < 32
  · rw [decide_eq_true hl]
    refine rises_true fun j hj => ?_
    have a1 := mono_le h 0 j (by omega) hj
    have a2 := mono_le h j (zs.length - 1) (by omega) (by omega)
    have hin : inB (zs.getD j 0) 0 31 = true := inB_true (by omega)
    by_cases e : j = 0
    · subst e; exact riseAt_zero hin
    · exact riseAt_yes hin (h j (by omega) hj)
  · rw [decide_eq_false hl]
    exact rises_false (k := zs.length - 1) (by omega) (riseAt_in (inB_false (by omega)))
set_option maxHeartbeats 2000000 in
theorem zvalid_any (zs : List Int) (v : Value) (w : World) (h : IntsAt w v zs) :
    Calls Tryz.prog 109 #[v] w fun e w' => e = .returned (.bool (zonesB zs)) ∧ Below w.heap.size w w' := by
  have hl := h.1
  by_cases h1 : 1 ≤ zs.length ∧ zs.length ≤ 8
  · obtain ⟨b, off, cap, rfl, hb, hc⟩ := ints_cells h (by omega)
    have HE := Lib.hid (fun h2 => zones_end (zs := zs) h1 h2)
    have HNO := Lib.hid (fun h2 => zones_no2 (zs := zs) h2)
    have HLAST := Lib.hid (fun h2 h3 => rises_last (zs := zs) h1.1 h2 h3)
    have HC := Lib.hid hc
    have HF := Lib.hid (fun k hk h => rises_false (lo := 0) (hi := 31) (zs := zs) (k := k) hk h)
    have c0 : w.cell? ⟨b, off, none⟩ = some (.int .i64 (zs.getD 0 0)) := hc 0 (by omega)
    clear h hc
    generalize hn : zs.length = n at *
    have HN := Lib.hid hn
    have h4 : (0 : Int) < (n : Int) := by omega
    have HW := Lib.hid (show inB (n : Int) 1 8 = true from inB_true (by omega))
    have hn1 : 1 ≤ n := h1.1
    clear h1 hn
    have c0a : ∀ o, (w.alloc o).cell? ⟨b, off, none⟩ = some (.int .i64 (zs.getD 0 0)) := fun o => by rw [below_cell ((Below.refl _ _).alloc (Nat.le_refl _) o) _ _ hb]; exact c0
    by_cases h0 : zs.getD 0 0 = 0
    · have HZ := Lib.hid (HE.out h0)
      have H0 := Lib.hid h0
      rw [h0] at c0a
      clear h0 HE HNO c0
      go_enter Tryz.func109, Tryz.ntmps109
      go_wp2_with fail
      refine (within_int _ _ [(n : Int)] _ 0 1 1 _ rfl (by omega) (cell_int _ _ _ _ rfl)).mono ?_
      rintro e w1 ⟨rfl, rfl⟩
      rw [all_one, HW.out]
      go_wp2
      go_loopw [3] (fun i wr => ∃ k : Nat, 1 ≤ k ∧ k ≤ n ∧ i = .int .i64 k ∧ Hid (∀ j, 0 < j → j < k → zs.getD (j - 1) 0 < zs.getD j 0) ∧ Below w.heap.size w wr) (fun i _ => n - (intOf i).toNat)
      case atStart => exact ⟨1, by omega, by omega, rfl, Lib.hid (fun j h1 h2 => by omega), (Below.refl _ _).alloc (Nat.le_refl _) _⟩
      case round =>
        obtain ⟨k, hk1, hk, rfl, HA, hbw⟩ := hrel
        have HB := Lib.hid hbw
        by_cases hlt : k < n
        · obtain ⟨q, rfl⟩ : ∃ q, k = q + 1 := ⟨k - 1, by omega⟩
          have x1 := (below_cell hbw _ _ hb).trans (HC.out (q + 1) (by omega))
          have x0 := (below_cell hbw _ _ hb).trans (HC.out q (by omega))
          have hlt1 : ((q + 1 : Nat) : Int) < (n : Int) := by omega
          have hk0 : (0 : Int) ≤ ((q + 1 : Nat) : Int) := by omega
          have hs : (((q + 1 : Nat) : Int) - 1) = (q : Int) := by omega
          have hq0 : (0 : Int) ≤ (q : Int) := by omega
          have hq1 : (q : Int) < (n : Int) := by omega
          clear hbw
          by_cases h2 : zs.getD q 0 < zs.getD (q + 1) 0
          · have H2 := Lib.hid h2
            have HK := Lib.hid (show ∀ j, 0 < j → j < q + 2 → zs.getD (j - 1) 0 < zs.getD j 0 from fun j hj1 hj2 => by
              by_cases e : j = q + 1
              · subst e; rw [Nat.add_sub_cancel]; exact H2.out
              · exact HA.out j hj1 (by omega))
            generalize zs.getD q 0 = y at *
            generalize zs.getD (q + 1) 0 = z at *
            have h3 : ¬ z ≤ y := by omega
            clear h2 H2
            go_wp2
            go_quiet (fail)
            go_wp2
            go_roundw
            case rel => exact ⟨q + 2, by omega, by omega, by go_num, HK, below_drewN2 HB.out _⟩
            case measure => simp [intOf]; omega
          · have HFF := Lib.hid (show zonesB zs = false by rw [HZ.out]; exact HF.out (q + 1) hlt (riseAt_no (by omega) (by rw [Nat.add_sub_cancel]; exact h2)))
            generalize zs.getD q 0 = y at *
            generalize zs.getD (q + 1) 0 = z at *
            have h3 : z ≤ y := by omega
            clear h2
            go_wp2
            go_quiet (fail)
            go_wp2
            go_ret
            exact ⟨ret_bool HFF.out.symm, below_drewN2 HB.out _⟩
        · obtain rfl : k = n := by omega
          obtain ⟨q, rfl⟩ : ∃ q, k = q + 1 := ⟨k - 1, by omega⟩
          have x1 := (below_cell hbw _ _ hb).trans (HC.out q (by omega))
          have hs : (((q + 1 : Nat) : Int) - 1) = (q : Int) := by omega
          have hq0 : (0 : Int) ≤ (q : Int) := by omega
          have hq1 : (q : Int) < ((q + 1 : Nat) : Int) := by omega
          have HFF := Lib.hid (show zonesB zs = decide (zs.getD q 0 < 32) by rw [HZ.out, HLAST.out H0.out (fun j h1 h2 => HA.out j h1 h2), Nat.add_sub_cancel])
          clear hbw
          generalize zs.getD q 0 = y at *
          go_wp2
          go_ret
          exact ⟨ret_bool HFF.out.symm, HB.out⟩
    · have HZ := Lib.hid (HNO.out h0)
      have h5 : (zs.getD 0 0 != 0) = true := by simpa using h0
      generalize zs.getD 0 0 = z at *
      clear h0 HE HNO c0 HLAST
      go_enter Tryz.func109, Tryz.ntmps109
      go_wp2_with fail
      refine (within_int _ _ [(n : Int)] _ 0 1 1 _ rfl (by omega) (cell_int _ _ _ _ rfl)).mono ?_
      rintro e w1 ⟨rfl, rfl⟩
      rw [all_one, HW.out]
      go_wp2
      go_ret
      exact ⟨ret_bool HZ.out.symm, (Below.refl _ _).alloc (Nat.le_refl _) _⟩
  · have HZ := Lib.hid (zones_no1 h1)
    obtain ⟨a, c, rfl⟩ := ints_form h
    clear h
    generalize zs.length = n at *
    have HW := Lib.hid (show inB (n : Int) 1 8 = false from inB_false (by omega))
    clear h1
    go_enter Tryz.func109, Tryz.ntmps109
    go_wp2_with fail
    refine (within_int _ _ [(n : Int)] _ 0 1 1 _ rfl (by omega) (cell_int _ _ _ _ rfl)).mono ?_
    rintro e w1 ⟨rfl, rfl⟩
    rw [all_one, HW.out]
    go_wp2
    go_ret
    exact ⟨ret_bool HZ.out.symm, (Below.refl _ _).alloc (Nat.le_refl _) _⟩

def maxOf (r : List Int) : Int := r.foldl pickMost (r.getD 0 0)
theorem fold_most (xs : List Int) : ∀ a, a ≤ xs.foldl pickMost a ∧ (∀ x ∈ xs, x ≤ xs.foldl pickMost a) ∧ (xs.foldl pickMost a = a ∨ xs.foldl pickMost a ∈ xs) := by
  induction xs with
  | nil => intro a; simp
  | cons x xs ih =>
    intro a
    obtain ⟨i1, i2, i3⟩ := ih (pickMost a x)
    have hp : a ≤ pickMost a x ∧ x ≤ pickMost a x ∧ (pickMost a x = a ∨ pickMost a x = x) := by unfold pickMost; split <;> omega
    rw [List.foldl_cons]
    refine ⟨by omega, fun y hy => ?_, ?_⟩
    · rcases List.mem_cons.1 hy with rfl | hy
      · omega
      · exact i2 y hy
    · rcases i3 with h | h
      · rw [h]
        rcases hp.2.2 with h2 | h2
        · exact .inl h2
        · exact .inr (List.mem_cons.2 (.inl h2))
      · exact .inr (List.mem_cons.2 (.inr h))
theorem getD_mem {r : List Int} {j : Nat} (h : j < r.length) : r.getD j 0 ∈ r := by rw [List.getD_eq_getElem?_getD, List.getElem?_eq_getElem h]; simp
theorem maxOf_ge {r : List Int} (j : Nat) (h : j < r.length) : r.getD j 0 ≤ maxOf r := (fold_most r _).2.1 _ (getD_mem h)
theorem maxOf_in {r : List Int} (hp : 0 < r.length) : ∃ j, j < r.length ∧ r.getD j 0 = maxOf r := by
  have h : maxOf r ∈ r := by
    rcases (fold_most r (r.getD 0 0)).2.2 with h | h
    · unfold maxOf; rw [h]; exact getD_mem hp
    · exact h
  obtain ⟨i, hi, he⟩ := List.mem_iff_getElem.1 h
  exact ⟨i, hi, by rw [List.getD_eq_getElem?_getD, List.getElem?_eq_getElem hi]; exact he⟩
theorem maxOf_nz {r : List Int} (hp : 0 < r.length) (h : ∀ j, j < r.length → 0 ≤ r.getD j 0) : nzB r = decide (maxOf r ≠ 0) := by
  obtain ⟨j, hj, he⟩ := maxOf_in hp
  by_cases h0 : maxOf r = 0
  · rw [decide_eq_false (by simpa using h0)]
    exact nz_false fun i hi => by have := maxOf_ge i hi; have := h i hi; omega
  · rw [decide_eq_true h0]
    exact nz_true hj (by rw [he]; exact h0)
set_option maxHeartbeats 1000000 in
theorem max_any (r : List Int) (v : Value) (w : World) (h : IntsAt w v r) (hp : 0 < r.length) :
    Calls Tryz.prog 110 #[v] w fun e w' => e = .returned (.int .i64 (maxOf r)) ∧ w = w' := by
  have hl := h.1
  obtain ⟨b, off, cap, rfl, hb, hc⟩ := ints_cells h hp
  have c0 : w.cell? ⟨b, off, none⟩ = some (.int .i64 (r.getD 0 0)) := hc 0 (by omega)
  have HC := Lib.hid hc
  have HS0 := Lib.hid (show r.getD 0 0 = (r.take 1).foldl pickMost (r.getD 0 0) by
    rw [show (1 : Nat) = 0 + 1 from rfl, fold_snoc pickMost _ r 0 (by omega)]
    simp [pickMost])
  have HS := Lib.hid (fun k hk => fold_snoc pickMost (r.getD 0 0) r k hk)
  have HT := Lib.hid (show (r.take r.length).foldl pickMost (r.getD 0 0) = maxOf r by rw [List.take_length]; rfl)
  clear h hc
  generalize hn : r.length = n at *
  generalize r.getD 0 0 = r0 at *
  have h1 : ¬ (n : Int) < 1 := by omega
  have h2 : (0 : Int) < (n : Int) := by omega
  clear hn
  go_enter Tryz.func110, Tryz.ntmps110
  go_wp2
  go_loop [3, 4] (fun a i => ∃ k : Nat, 1 ≤ k ∧ k ≤ n ∧ i = .int .i64 k ∧ a = .int .i64 ((r.take k).foldl pickMost r0)) (fun _ i => n - (intOf i).toNat)
  case atStart => exact ⟨1, by omega, by omega, rfl, by rw [← HS0.out]⟩
  case round =>
    obtain ⟨k, hk1, hk, rfl, rfl⟩ := hrel
    by_cases hlt : k < n
    · have hcell := HC.out k hlt
      have HK := Lib.hid (HS.out k hlt)
      have hlt1 : (k : Int) < (n : Int) := by omega
      have hk0 : (0 : Int) ≤ (k : Int) := by omega
      generalize r.getD k 0 = z at *
      generalize (r.take k).foldl pickMost r0 = m at *
      by_cases h3 : m < z
      · go_wp2
        go_round
        case rel => exact ⟨k + 1, by omega, by omega, by go_num, by rw [HK.out, pickMost, if_pos h3]⟩
        case measure => simp [intOf]; omega
      · go_wp2
        go_round
        case rel => exact ⟨k + 1, by omega, by omega, by go_num, by rw [HK.out, pickMost, if_neg h3]⟩
        case measure => simp [intOf]; omega
    · obtain rfl : k = n := by omega
      rw [HT.out]
      generalize hmm : maxOf r = m at *
      have HMM := Lib.hid hmm
      clear hmm
      go_wp2
      go_ret
      exact ⟨ret_i64 HMM.out.symm, rfl⟩

set_option maxRecDepth 20000 in
set_option maxHeartbeats 4000000 in
theorem implValidM_any (v0 v1 v2 : Value) (zs : List Int) (ws : List (List Int)) (bs : List Int) (w : World) (h0 : IntsAt w v0 zs) (h1 : RowsAt w v1 ws) (h2 : IntsAt w v2 bs) :
    Calls Tryz.prog 87 #[.agg #[v0, v1, v2]] w fun e w' => e = .returned (.bool (modB zs ws bs)) ∧ Below w.heap.size w w' := by
  have hba := (Below.refl w.heap.size w).alloc (Nat.le_refl _) (.cells #[v0, v1, v2] 38)
  have HZ := Lib.hid (zvalid_any zs v0 _ (ints_kept hba h0))
  have H1 := Lib.hid h1
  have H2 := Lib.hid h2
  obtain ⟨a0, k0, rfl⟩ := ints_form h0
  obtain ⟨a1, k1, rfl⟩ := mrows_form h1
  obtain ⟨a2, k2, rfl⟩ := ints_form h2
  clear h0 h1 h2 hba
  rcases Bool.eq_false_or_eq_true (zonesB zs) with hz | hz
  · have HZT := Lib.hid hz
    have hzl := zones_len hz
    by_cases h5 : ws.length = 5 ∧ bs.length = 5
    · have HE := Lib.hid (fun h => mod_end (bs := bs) hz h5 h)
      have HN3 := Lib.hid (fun h => mod_no3 (zs := zs) (ws := ws) (bs := bs) h)
      obtain ⟨b1, o1, k1', e1, hb1, hc1⟩ := mrows_cells H1.out (by omega)
      obtain ⟨hw5, hb5⟩ := h5
      rw [hw5] at e1 hc1
      simp only [Value.slice.injEq] at e1
      obtain ⟨rfl, -, rfl⟩ := e1
      have HC1 := Lib.hid hc1
      have HW5 := Lib.hid hw5
      rw [hw5, hb5] at HZ ⊢
      rw [hb5] at H2
      clear hz hw5 hb5 hc1 H1
      generalize hnn : zs.length = n at *
      have HNN := Lib.hid hnn
      clear hnn
      go_enter Tryz.func87, Tryz.ntmps87
      go_wp2_with fail
      refine HZ.out.mono ?_
      rintro e w1 ⟨rfl, hb⟩
      rw [HZT.out]
      have d0 : w1.cell? ⟨w.heap.size, 0, none⟩ = some (.slice a0 n k0) := by rw [below_cell hb _ _ (by simp)]; go_simp
      have d1 : w1.cell? ⟨w.heap.size, 1, none⟩ = some (.slice (some ⟨b1, o1, none⟩) 5 k1) := by rw [below_cell hb _ _ (by simp)]; go_simp
      have d2 : w1.cell? ⟨w.heap.size, 2, none⟩ = some (.slice a2 5 k2) := by rw [below_cell hb _ _ (by simp)]; go_simp
      have hp : w.heap.size < w1.heap.size := by have := hb.size; simp at this; omega
      have HB1 := Lib.hid (below_of ((Below.refl _ _).alloc (Nat.le_refl _) _) hb (by simp))
      clear hb
      go_wp2
      go_loopw [24] (fun i wr => ∃ k : Nat, k ≤ 5 ∧ i = .int .i64 k ∧ Hid (∀ j, j < k → rowB n (ws.getD j []) = true) ∧ wr = w1) (fun i _ => 5 - (intOf i).toNat)
      case atStart => exact ⟨0, by omega, rfl, Lib.hid (fun j hj => by omega), rfl⟩
      case round =>
        obtain ⟨k, hk, rfl, HA, rfl⟩ := hrel
        by_cases hlt : k < 5
        · obtain ⟨u, hu, hui⟩ := HC1.out k hlt
          have x1 := (below_cell HB1.out _ _ hb1).trans hu
          have HUI := Lib.hid (ints_kept HB1.out hui)
          obtain ⟨ua, uc, rfl⟩ := ints_form hui
          have hlt1 : (k : Int) < 5 := by omega
          have hk0 : (0 : Int) ≤ (k : Int) := by omega
          clear hu hui
          by_cases hrl : (ws.getD k []).length = n
          · have HRL := Lib.hid hrl
            have hne : ((n : Int) != n) = false := by simp
            have HWI := Lib.hid (within_atM 0 1000 (ws.getD k []) _ _ HUI.out)
            have HMX := Lib.hid (max_any (ws.getD k []) _ _ HUI.out (by omega))
            rw [hrl] at x1 HWI HMX
            clear hrl
            rcases Bool.eq_false_or_eq_true (allIn 0 1000 (ws.getD k [])) with h6 | h6
            · have HRE := Lib.hid (row_end HRL.out h6)
              have HNZ := Lib.hid (maxOf_nz (r := ws.getD k []) (by have := HRL.out; omega) (fun j hj => (allIn_at h6 j hj).1))
              have H6 := Lib.hid h6
              clear h6
              by_cases hm0 : maxOf (ws.getD k []) = 0
              · have HFF := Lib.hid (HN3.out (allRows_false (k := k) (by rw [HW5.out]; exact hlt) (by rw [HRE.out, HNZ.out, hm0]; rfl)))
                have hm1 : (maxOf (ws.getD k []) == 0) = true := beq_iff_eq.2 hm0
                clear hm0
                go_wp2_with fail
                refine HWI.out.mono ?_
                rintro e w2 ⟨rfl, rfl⟩
                rw [H6.out]
                go_wp2_with fail
                refine HMX.out.mono ?_
                rintro e w2 ⟨rfl, rfl⟩
                generalize maxOf (ws.getD k []) = m at *
                go_wp2
                go_ret
                exact ⟨ret_bool HFF.out.symm, HB1.out⟩
              · have HRT := Lib.hid (show rowB n (ws.getD k []) = true by rw [HRE.out, HNZ.out, decide_eq_true hm0])
                have hm1 : (maxOf (ws.getD k []) == 0) = false := beq_eq_false_iff_ne.2 hm0
                clear hm0
                go_wp2_with fail
                refine HWI.out.mono ?_
                rintro e w2 ⟨rfl, rfl⟩
                rw [H6.out]
                go_wp2_with fail
                refine HMX.out.mono ?_
                rintro e w2 ⟨rfl, rfl⟩
                generalize maxOf (ws.getD k []) = m at *
                go_wp2
                go_roundw
                case rel => exact ⟨k + 1, by omega, by go_num, Lib.hid (fun j hj => by
                  by_cases e : j = k
                  · subst e; exact HRT.out
                  · exact HA.out j (by omega)), (by first | rfl | trivial)⟩
                case measure => simp [intOf]; omega
            · have HFF := Lib.hid (HN3.out (allRows_false (k := k) (by rw [HW5.out]; exact hlt) (row_no2 h6)))
              have H6 := Lib.hid h6
              clear h6
              go_wp2_with fail
              refine HWI.out.mono ?_
              rintro e w2 ⟨rfl, rfl⟩
              rw [H6.out]
              go_wp2
              go_ret
              exact ⟨ret_bool HFF.out.symm, HB1.out⟩
          · have HFF := Lib.hid (HN3.out (allRows_false (k := k) (by rw [HW5.out]; exact hlt) (row_no1 hrl)))
            generalize (ws.getD k []).length = rl at *
            have hne : ((rl : Int) != n) = true := by simp; omega
            go_wp2
            go_ret
            exact ⟨ret_bool HFF.out.symm, HB1.out⟩
        · obtain rfl : k = 5 := by omega
          have HFF := Lib.hid (HE.out (allRows_true (fun j hj => HA.out j (by rw [HW5.out] at hj; exact hj))))
          have HWB := Lib.hid (within_atM 1 1000000000 bs _ _ (ints_kept HB1.out H2.out))
          go_wp2_with fail
          refine HWB.out.mono ?_
          rintro e w2 ⟨rfl, rfl⟩
          obtain ⟨r, hr⟩ : ∃ r, modB zs ws bs = r := ⟨_, rfl⟩
          have HRR := Lib.hid hr
          rw [← HFF.out, hr]
          clear hr
          go_wp2
          go_ret
          exact ⟨ret_bool HRR.out.symm, HB1.out⟩
    · have HFF := Lib.hid (mod_no2 (zs := zs) (ws := ws) (bs := bs) h5)
      clear hz
      generalize zs.length = n0 at *
      generalize ws.length = n1 at *
      generalize bs.length = n2 at *
      by_cases h6 : n1 = 5
      · have h7 : ((n2 : Int) != 5) = true := by simp; omega
        subst h6
        clear h5
        go_enter Tryz.func87, Tryz.ntmps87
        go_wp2_with fail
        refine HZ.out.mono ?_
        rintro e w1 ⟨rfl, hb⟩
        rw [HZT.out]
        have d0 : w1.cell? ⟨w.heap.size, 0, none⟩ = some (.slice a0 n0 k0) := by rw [below_cell hb _ _ (by simp)]; go_simp
        have d1 : w1.cell? ⟨w.heap.size, 1, none⟩ = some (.slice a1 5 k1) := by rw [below_cell hb _ _ (by simp)]; go_simp
        have d2 : w1.cell? ⟨w.heap.size, 2, none⟩ = some (.slice a2 n2 k2) := by rw [below_cell hb _ _ (by simp)]; go_simp
        have HB1 := Lib.hid (below_of ((Below.refl _ _).alloc (Nat.le_refl _) _) hb (by simp))
        clear hb
        go_wp2
        go_ret
        exact ⟨ret_bool HFF.out.symm, HB1.out⟩
      · have h7 : ((n1 : Int) != 5) = true := by simp; omega
        clear h5 h6
        go_enter Tryz.func87, Tryz.ntmps87
        go_wp2_with fail
        refine HZ.out.mono ?_
        rintro e w1 ⟨rfl, hb⟩
        rw [HZT.out]
        have d0 : w1.cell? ⟨w.heap.size, 0, none⟩ = some (.slice a0 n0 k0) := by rw [below_cell hb _ _ (by simp)]; go_simp
        have d1 : w1.cell? ⟨w.heap.size, 1, none⟩ = some (.slice a1 n1 k1) := by rw [below_cell hb _ _ (by simp)]; go_simp
        have d2 : w1.cell? ⟨w.heap.size, 2, none⟩ = some (.slice a2 n2 k2) := by rw [below_cell hb _ _ (by simp)]; go_simp
        have HB1 := Lib.hid (below_of ((Below.refl _ _).alloc (Nat.le_refl _) _) hb (by simp))
        clear hb
        go_wp2
        go_ret
        exact ⟨ret_bool HFF.out.symm, HB1.out⟩
  · have HFF := Lib.hid (mod_no1 (ws := ws) (bs := bs) hz)
    have HZT := Lib.hid hz
    clear hz
    go_enter Tryz.func87, Tryz.ntmps87
    go_wp2_with fail
    refine HZ.out.mono ?_
    rintro e w1 ⟨rfl, hb⟩
    rw [HZT.out]
    have HB1 := Lib.hid (below_of ((Below.refl _ _).alloc (Nat.le_refl _) _) hb (by simp))
    clear hb
    go_wp2
    go_ret
    exact ⟨ret_bool HFF.out.symm, HB1.out⟩
end Go.Proofs.YtpjopfhkgegahaaGreat
