/- Models: the reference model's validity by value; the zone that matters most, both. -/
import Derived.Test.YtndmakimkghihaaModSpec
import Derived.Test.YtndmakimkghihaaModImpl
import Derived.Deep.QuietTactic
import Derived.BigQuiet
namespace Go.Proofs.Ytndmakimkghihaa
open Go.ChangeShapes Go.WideShapes Go.ChangeAt Go.RowKit

theorem ret_twoM {a b c d : Int} (h : a = b) (k : c = d) : Ending.returned (.tuple #[.int .i64 a, .int .i64 c]) = .returned (.tuple #[.int .i64 b, .int .i64 d]) := by rw [h, k]
theorem modIn_alloc (w : World) (v0 v1 v2 : Value) (T : TypeId) : ModIn (w.alloc (.cells #[v0, v1, v2] T)) w.heap.size v0 v1 v2 := ⟨by go_simp, by go_simp, by go_simp⟩
theorem specValidM_any (v0 v1 v2 : Value) (zs : List Int) (ws : List (List Int)) (bs : List Int) (w : World) (h0 : IntsAt w v0 zs) (h1 : RowsAt w v1 ws) (h2 : IntsAt w v2 bs) :
    Calls Try.prog 16 #[.agg #[v0, v1, v2]] w fun e w' => e = .returned (.bool (modB zs ws bs)) ∧ Below w.heap.size w w' := by
  have hba := (Below.refl w.heap.size w).alloc (Nat.le_refl _) (.cells #[v0, v1, v2] 28)
  have HV := Lib.hid (l08Ok_any w.heap.size v0 v1 v2 zs ws bs _ (by simp) (modIn_alloc w v0 v1 v2 28) (ints_kept hba h0) (mrows_kept hba h1) (ints_kept hba h2))
  have HBA := Lib.hid hba
  clear h0 h1 h2 hba
  go_enter Try.func16, Try.ntmps16
  go_wp2_with fail
  refine HV.out.mono ?_
  rintro e w1 ⟨rfl, hb⟩
  have HB := Lib.hid (below_of HBA.out hb HBA.out.size)
  clear hb
  obtain ⟨r, hr⟩ : ∃ r, modB zs ws bs = r := ⟨_, rfl⟩
  have HRR := Lib.hid hr
  rw [hr]
  clear hr
  go_wp2
  go_ret
  exact ⟨ret_bool HRR.out.symm, HB.out⟩
/-- b is the first index of the greatest number. -/
def IsDom (r : List Int) (b : Nat) : Prop := b < r.length ∧ (∀ j, j < r.length → r.getD j 0 ≤ r.getD b 0) ∧ ∀ j, j < b → r.getD j 0 < r.getD b 0
theorem dom_unique {r : List Int} {b c : Nat} (h : IsDom r b) (k : IsDom r c) : b = c := by
  obtain ⟨h1, h2, h3⟩ := h
  obtain ⟨k1, k2, k3⟩ := k
  rcases Nat.lt_trichotomy b c with h | h | h
  · have := k3 b h; have := h2 c k1; omega
  · exact h
  · have := h3 c h; have := k2 b h1; omega
open Classical in
noncomputable def domOf (r : List Int) : Nat := if h : ∃ b, IsDom r b then Classical.choose h else 0
theorem dom_eq {r : List Int} {b : Nat} (h : IsDom r b) : domOf r = b := by
  unfold domOf
  rw [dif_pos ⟨b, h⟩]
  exact dom_unique (Classical.choose_spec (⟨b, h⟩ : ∃ b, IsDom r b)) h
noncomputable def domR (zs : List Int) (ws : List (List Int)) (bs : List Int) (k : Int) : Int := if modB zs ws bs = true ∧ inB k 1 5 = true then (domOf (ws.getD (k - 1).toNat []) : Int) else 0
def domC (zs : List Int) (ws : List (List Int)) (bs : List Int) (k : Int) : Int := if modB zs ws bs = true then if inB k 1 5 = true then 0 else 2 else 1
theorem specPartialM_any (k : Int) (w : World) : Calls Try.prog 93 #[.int .i64 k] w fun e w' => e = .returned (.bool (inB k 1 5)) ∧ w = w' := by
  go_enter Try.func93, Try.ntmps93
  go_wp2_with fail
  refine (l00In_any _ _ _ _).mono ?_
  rintro e w1 ⟨rfl, rfl⟩
  go_wp2
  go_ret
  exact ⟨rfl, rfl⟩
theorem implPartialM_any (k : Int) (w : World) : Calls Try.prog 94 #[.int .i64 k] w fun e w' => e = .returned (.bool (inB k 1 5)) ∧ Below w.heap.size w w' := by
  go_enter Try.func94, Try.ntmps94
  go_wp2_with fail
  refine (within_i64 _ _ [k] _ 0 1 1 _ rfl (by omega) (cell_int _ _ _ _ rfl)).mono ?_
  rintro e w1 ⟨rfl, rfl⟩
  go_wp2
  go_ret
  exact ⟨ret_bool (all_one _ _ _), (Below.refl _ _).alloc (Nat.le_refl _) _⟩
set_option maxRecDepth 20000 in
set_option maxHeartbeats 4000000 in
theorem specDom_any (v0 v1 v2 : Value) (zs : List Int) (ws : List (List Int)) (bs : List Int) (k : Int) (w : World) (h0 : IntsAt w v0 zs) (h1 : RowsAt w v1 ws) (h2 : IntsAt w v2 bs) :
    Calls Try.prog 43 #[.agg #[v0, v1, v2], .int .i64 k] w fun e w' => e = .returned (.tuple #[.int .i64 (domR zs ws bs k), .int .i64 (domC zs ws bs k)]) ∧ Below w.heap.size w w' := by
  have hba := (Below.refl w.heap.size w).alloc (Nat.le_refl _) (.cells #[v0, v1, v2] 28)
  have HV := Lib.hid (l08Ok_any w.heap.size v0 v1 v2 zs ws bs _ (by simp) (modIn_alloc w v0 v1 v2 28) (ints_kept hba h0) (mrows_kept hba h1) (ints_kept hba h2))
  have H1 := Lib.hid h1
  have HBA := Lib.hid hba
  clear h0 h1 h2 hba
  rcases Bool.eq_false_or_eq_true (modB zs ws bs) with hm | hm
  · rcases Bool.eq_false_or_eq_true (inB k 1 5) with hk | hk
    · have HD := Lib.hid (show domR zs ws bs k = (domOf (ws.getD (k - 1).toNat []) : Int) ∧ domC zs ws bs k = 0 by unfold domR domC; rw [if_pos ⟨hm, hk⟩, if_pos hm, if_pos hk]; exact ⟨rfl, rfl⟩)
      obtain ⟨k1, k5⟩ := inB_iff.1 hk
      obtain ⟨hzz, ⟨hw5, hb5⟩, hrows, -⟩ := mod_iff.1 hm
      have hzl := zones_len hzz
      obtain ⟨q, rfl⟩ : ∃ q : Nat, k = (q : Int) + 1 := ⟨(k - 1).toNat, by omega⟩
      have hq : q < 5 := by omega
      have hqt : ((q : Int) + 1 - 1).toNat = q := by omega
      rw [hqt] at HD
      have hrl := (row_iff.1 (allRows_at hrows q (by omega))).1
      obtain ⟨b1, o1, c1, rfl, hb1, hc1⟩ := mrows_cells H1.out (by omega)
      obtain ⟨u, hu, hui⟩ := hc1 q (by omega)
      obtain ⟨br, orr, cr, rfl, hbr, hcr⟩ := ints_cells hui (by omega)
      rw [hw5] at *
      have HCR := Lib.hid hcr
      have HMT := Lib.hid hm
      have HKT := Lib.hid hk
      have hs : (q : Int) + 1 - 1 = (q : Int) := by omega
      have hq0 : (0 : Int) ≤ (q : Int) := by omega
      have hq5 : (q : Int) < 5 := by omega
      have HDE := Lib.hid (fun b h => dom_eq (r := ws.getD q []) (b := b) h)
      clear hm hk hrows hzz hqt hc1 hui hcr k1 k5
      generalize hrr : ws.getD q [] = r at *
      generalize hn : r.length = n at *
      have HN := Lib.hid hn
      have hn1 : 1 ≤ n := by omega
      have hn8 : n ≤ 8 := by omega
      clear hrl hzl hn
      go_enter Try.func43, Try.ntmps43
      go_wp2_with fail
      refine HV.out.mono ?_
      rintro e w1 ⟨rfl, hb⟩
      rw [HMT.out]
      have d1 : w1.cell? ⟨w.heap.size, 1, none⟩ = some (.slice (some ⟨b1, o1, none⟩) 5 c1) := by rw [below_cell hb _ _ (by simp)]; go_simp
      have HB1 := Lib.hid (below_of HBA.out hb HBA.out.size)
      have x1 := (below_cell HB1.out _ _ hb1).trans hu
      clear hb hu
      go_wp2_with fail
      refine (specPartialM_any _ _).mono ?_
      rintro e w2 ⟨rfl, rfl⟩
      rw [HKT.out]
      go_wp2
      go_loopw [7, 8] (fun bv i wr => ∃ j b : Nat, 1 ≤ j ∧ j ≤ n ∧ i = .int .i64 j ∧ bv = .int .i64 b ∧ b < j ∧ Hid ((∀ t, t < j → r.getD t 0 ≤ r.getD b 0) ∧ ∀ t, t < b → r.getD t 0 < r.getD b 0) ∧ Below w1.heap.size w1 wr) (fun _ i _ => n - (intOf i).toNat)
      case atStart => exact ⟨1, 0, by omega, by omega, rfl, rfl, by omega, Lib.hid ⟨fun t ht => (by obtain rfl : t = 0 := (by omega); exact Int.le_refl _), fun t ht => (by omega)⟩, Below.refl _ _⟩
      case round =>
        obtain ⟨j, b, hj1, hj, rfl, rfl, hbj, HA, hbw⟩ := hrel
        have HB := Lib.hid hbw
        by_cases hlt : j < n
        · have hbrw : br < w1.heap.size := Nat.lt_of_lt_of_le hbr HB1.out.size
          have y1 := (below_cell hbw _ _ hbrw).trans ((below_cell HB1.out _ _ hbr).trans (HCR.out j hlt))
          have y2 := (below_cell hbw _ _ hbrw).trans ((below_cell HB1.out _ _ hbr).trans (HCR.out b (by omega)))
          have hj2 : (j : Int) < (n : Int) := by omega
          have hj0 : (0 : Int) ≤ (j : Int) := by omega
          have hb0 : (0 : Int) ≤ (b : Int) := by omega
          have hb2 : (b : Int) < (n : Int) := by omega
          have HX := Lib.hid (show r.getD b 0 < r.getD j 0 → (∀ t, t < j + 1 → r.getD t 0 ≤ r.getD j 0) ∧ ∀ t, t < j → r.getD t 0 < r.getD j 0 from fun h => ⟨fun t ht => by
            by_cases e : t = j
            · subst e; exact Int.le_refl _
            · have := HA.out.1 t (by omega); omega, fun t ht => by have := HA.out.1 t ht; omega⟩)
          have HY := Lib.hid (show ¬ r.getD b 0 < r.getD j 0 → (∀ t, t < j + 1 → r.getD t 0 ≤ r.getD b 0) ∧ ∀ t, t < b → r.getD t 0 < r.getD b 0 from fun h => ⟨fun t ht => by
            by_cases e : t = j
            · subst e; omega
            · exact HA.out.1 t (by omega), HA.out.2⟩)
          clear hbw
          by_cases hgt : r.getD b 0 < r.getD j 0
          · have HK := Lib.hid (HX.out hgt)
            clear HX HY
            generalize r.getD b 0 = xb at *
            generalize hxj : r.getD j 0 = xj at *
            have HXJ := Lib.hid hxj
            clear hxj
            go_wp2
            go_quiet (fail)
            go_wp2
            go_roundw
            case rel => exact ⟨j + 1, j, by omega, by omega, by go_num, rfl, by omega, Lib.hid (by rw [HXJ.out]; exact HK.out), below_drewN2 HB.out _⟩
            case measure => simp [intOf]; omega
          · have HK := Lib.hid (HY.out hgt)
            clear HX HY
            generalize hxb : r.getD b 0 = xb at *
            generalize r.getD j 0 = xj at *
            have HXB := Lib.hid hxb
            clear hxb
            go_wp2
            go_quiet (fail)
            go_wp2
            go_roundw
            case rel => exact ⟨j + 1, b, by omega, by omega, by go_num, rfl, by omega, Lib.hid (by rw [HXB.out]; exact HK.out), below_drewN2 HB.out _⟩
            case measure => simp [intOf]; omega
        · obtain rfl : j = n := by omega
          have HE := Lib.hid (HDE.out b ⟨by rw [HN.out]; exact hbj, fun t ht => HA.out.1 t (by rw [HN.out] at ht; exact ht), HA.out.2⟩)
          have HBF := Lib.hid (below_of HB1.out HB.out HB1.out.size)
          clear hbw
          go_wp2
          go_ret2
          exact ⟨ret_twoM (by rw [HD.out.1, HE.out]) HD.out.2.symm, HBF.out⟩
    · have HD := Lib.hid (show domR zs ws bs k = 0 ∧ domC zs ws bs k = 2 by unfold domR domC; rw [if_neg (by rw [hk]; simp), if_pos hm, if_neg (by rw [hk]; simp)]; exact ⟨rfl, rfl⟩)
      have HMT := Lib.hid hm
      have HKT := Lib.hid hk
      clear hm hk
      go_enter Try.func43, Try.ntmps43
      go_wp2_with fail
      refine HV.out.mono ?_
      rintro e w1 ⟨rfl, hb⟩
      rw [HMT.out]
      have HB1 := Lib.hid (below_of HBA.out hb HBA.out.size)
      clear hb
      go_wp2_with fail
      refine (specPartialM_any _ _).mono ?_
      rintro e w2 ⟨rfl, rfl⟩
      rw [HKT.out]
      go_wp2
      go_ret2
      exact ⟨ret_twoM HD.out.1.symm HD.out.2.symm, HB1.out⟩
  · have HD := Lib.hid (show domR zs ws bs k = 0 ∧ domC zs ws bs k = 1 by unfold domR domC; rw [if_neg (by rw [hm]; simp), if_neg (by rw [hm]; simp)]; exact ⟨rfl, rfl⟩)
    have HMT := Lib.hid hm
    clear hm
    go_enter Try.func43, Try.ntmps43
    go_wp2_with fail
    refine HV.out.mono ?_
    rintro e w1 ⟨rfl, hb⟩
    rw [HMT.out]
    have HB1 := Lib.hid (below_of HBA.out hb HBA.out.size)
    clear hb
    go_wp2
    go_ret2
    exact ⟨ret_twoM HD.out.1.symm HD.out.2.symm, HB1.out⟩
set_option maxHeartbeats 1000000 in
theorem index_any (r : List Int) (v : Value) (w : World) (h : IntsAt w v r) (hp : 0 < r.length) :
    Calls Try.prog 95 #[v, .int .i64 (maxOf r)] w fun e w' => e = .returned (.int .i64 (domOf r)) ∧ w = w' := by
  have hl := h.1
  obtain ⟨b, off, cap, rfl, hb, hc⟩ := ints_cells h hp
  obtain ⟨jm, hjm, hme⟩ := maxOf_in hp
  have HC := Lib.hid hc
  have HDE := Lib.hid (fun b h => dom_eq (r := r) (b := b) h)
  have HG := Lib.hid (fun j h => maxOf_ge (r := r) j h)
  have HM := Lib.hid hme
  clear h hc hme
  generalize hn : r.length = n at *
  have HN := Lib.hid hn
  generalize maxOf r = m at *
  clear hn
  go_enter Try.func95, Try.ntmps95
  go_wp2
  go_loop [8] (fun i => ∃ k : Nat, k ≤ n ∧ i = .int .i64 k ∧ Hid (∀ t, t < k → r.getD t 0 ≠ m)) (fun i => n - (intOf i).toNat)
  case atStart => exact ⟨0, by omega, rfl, Lib.hid (fun t ht => by omega)⟩
  case round =>
    obtain ⟨k, hk, rfl, HA⟩ := hrel
    by_cases hlt : k < n
    · have hcell := HC.out k hlt
      have hlt1 : (k : Int) < (n : Int) := by omega
      have hk0 : (0 : Int) ≤ (k : Int) := by omega
      by_cases he : r.getD k 0 = m
      · have HE := Lib.hid (HDE.out k ⟨by rw [HN.out]; exact hlt, fun j hj => by rw [he]; exact HG.out j (by rw [HN.out] at hj; exact hj), fun j hj => by
          have h1 := HG.out j (by omega)
          have h2 := HA.out j hj
          rw [he]; omega⟩)
        rw [he] at hcell
        have hq : (m == m) = true := by simp
        clear he
        go_wp2
        go_ret
        exact ⟨ret_i64 (by rw [HE.out]), rfl⟩
      · have HE := Lib.hid he
        have hq : (m == r.getD k 0) = false := beq_eq_false_iff_ne.2 (fun h => he h.symm)
        have HK := Lib.hid (show ∀ t, t < k + 1 → r.getD t 0 ≠ m from fun t ht => by
          by_cases e : t = k
          · subst e; exact HE.out
          · exact HA.out t (by omega))
        generalize r.getD k 0 = z at *
        clear he
        go_wp2
        go_round
        case rel => exact ⟨k + 1, by omega, by go_num, HK⟩
        case measure => simp [intOf]; omega
    · exfalso
      exact HA.out jm (by omega) HM.out
set_option maxRecDepth 20000 in
set_option maxHeartbeats 4000000 in
theorem implDom_any (v0 v1 v2 : Value) (zs : List Int) (ws : List (List Int)) (bs : List Int) (k : Int) (w : World) (h0 : IntsAt w v0 zs) (h1 : RowsAt w v1 ws) (h2 : IntsAt w v2 bs) :
    Calls Try.prog 44 #[.agg #[v0, v1, v2], .int .i64 k] w fun e w' => e = .returned (.tuple #[.int .i64 (domR zs ws bs k), .int .i64 (domC zs ws bs k)]) ∧ Below w.heap.size w w' := by
  have hba := (Below.refl w.heap.size w).alloc (Nat.le_refl _) (.cells #[v0, v1, v2] 28)
  have HV := Lib.hid (implValidM_any v0 v1 v2 zs ws bs _ (ints_kept hba h0) (mrows_kept hba h1) (ints_kept hba h2))
  have H1 := Lib.hid h1
  have HBA := Lib.hid hba
  clear h0 h1 h2 hba
  rcases Bool.eq_false_or_eq_true (modB zs ws bs) with hm | hm
  · rcases Bool.eq_false_or_eq_true (inB k 1 5) with hk | hk
    · have HD := Lib.hid (show domR zs ws bs k = (domOf (ws.getD (k - 1).toNat []) : Int) ∧ domC zs ws bs k = 0 by unfold domR domC; rw [if_pos ⟨hm, hk⟩, if_pos hm, if_pos hk]; exact ⟨rfl, rfl⟩)
      obtain ⟨k1, k5⟩ := inB_iff.1 hk
      obtain ⟨hzz, ⟨hw5, hb5⟩, hrows, -⟩ := mod_iff.1 hm
      have hzl := zones_len hzz
      obtain ⟨q, rfl⟩ : ∃ q : Nat, k = (q : Int) + 1 := ⟨(k - 1).toNat, by omega⟩
      have hq : q < 5 := by omega
      have hqt : ((q : Int) + 1 - 1).toNat = q := by omega
      rw [hqt] at HD
      have hrl := (row_iff.1 (allRows_at hrows q (by omega))).1
      obtain ⟨b1, o1, c1, rfl, hb1, hc1⟩ := mrows_cells H1.out (by omega)
      obtain ⟨u, hu, hui⟩ := hc1 q (by omega)
      rw [hw5] at *
      have HUI := Lib.hid hui
      obtain ⟨ua, uc, rfl⟩ := ints_form hui
      have HMT := Lib.hid hm
      have HKT := Lib.hid hk
      have hs : (q : Int) + 1 - 1 = (q : Int) := by omega
      have hq0 : (0 : Int) ≤ (q : Int) := by omega
      have hq5 : (q : Int) < 5 := by omega
      have HP := Lib.hid (show 0 < (ws.getD q []).length by omega)
      clear hm hk hrows hzz hqt hc1 hui k1 k5 hrl
      go_enter Try.func44, Try.ntmps44
      go_wp2_with fail
      refine HV.out.mono ?_
      rintro e w1 ⟨rfl, hb⟩
      rw [HMT.out]
      have d1 : w1.cell? ⟨w.heap.size, 1, none⟩ = some (.slice (some ⟨b1, o1, none⟩) 5 c1) := by rw [below_cell hb _ _ (by simp)]; go_simp
      have hp1 : w.heap.size < w1.heap.size := by have := hb.size; simp at this; omega
      have HB1 := Lib.hid (below_of HBA.out hb HBA.out.size)
      have x1 := (below_cell HB1.out _ _ hb1).trans hu
      have hb1' : b1 < w1.heap.size := Nat.lt_of_lt_of_le hb1 HB1.out.size
      clear hb hu
      go_wp2_with fail
      refine (implPartialM_any _ _).mono ?_
      rintro e w2 ⟨rfl, hb⟩
      rw [HKT.out]
      have d2 := (below_cell hb _ _ hp1).trans d1
      have x2 := (below_cell hb _ _ hb1').trans x1
      have HB2 := Lib.hid (below_of HB1.out hb HB1.out.size)
      have HU2 := Lib.hid (ints_kept HB2.out HUI.out)
      have HMX := Lib.hid (max_any (ws.getD q []) _ _ HU2.out HP.out)
      have HIX := Lib.hid (index_any (ws.getD q []) _ _ HU2.out HP.out)
      clear hb d1 x1
      generalize (ws.getD q []).length = n at *
      go_wp2_with fail
      refine HMX.out.mono ?_
      rintro e w3 ⟨rfl, rfl⟩
      go_wp2_with fail
      refine HIX.out.mono ?_
      rintro e w3 ⟨rfl, rfl⟩
      go_wp2
      go_ret2
      exact ⟨ret_twoM HD.out.1.symm HD.out.2.symm, HB2.out⟩
    · have HD := Lib.hid (show domR zs ws bs k = 0 ∧ domC zs ws bs k = 2 by unfold domR domC; rw [if_neg (by rw [hk]; simp), if_pos hm, if_neg (by rw [hk]; simp)]; exact ⟨rfl, rfl⟩)
      have HMT := Lib.hid hm
      have HKT := Lib.hid hk
      clear hm hk
      go_enter Try.func44, Try.ntmps44
      go_wp2_with fail
      refine HV.out.mono ?_
      rintro e w1 ⟨rfl, hb⟩
      rw [HMT.out]
      have HB1 := Lib.hid (below_of HBA.out hb HBA.out.size)
      clear hb
      go_wp2_with fail
      refine (implPartialM_any _ _).mono ?_
      rintro e w2 ⟨rfl, hb⟩
      rw [HKT.out]
      have HB2 := Lib.hid (below_of HB1.out hb HB1.out.size)
      clear hb
      go_wp2
      go_ret2
      exact ⟨ret_twoM HD.out.1.symm HD.out.2.symm, HB2.out⟩
  · have HD := Lib.hid (show domR zs ws bs k = 0 ∧ domC zs ws bs k = 1 by unfold domR domC; rw [if_neg (by rw [hm]; simp), if_neg (by rw [hm]; simp)]; exact ⟨rfl, rfl⟩)
    have HMT := Lib.hid hm
    clear hm
    go_enter Try.func44, Try.ntmps44
    go_wp2_with fail
    refine HV.out.mono ?_
    rintro e w1 ⟨rfl, hb⟩
    rw [HMT.out]
    have HB1 := Lib.hid (below_of HBA.out hb HBA.out.size)
    clear hb
    go_wp2
    go_ret2
    exact ⟨ret_twoM HD.out.1.symm HD.out.2.symm, HB1.out⟩
end Go.Proofs.Ytndmakimkghihaa
