/- Cuts read back from their text: the reference model. -/
import Derived.Test.YtikoehjalcljnaaDoorRdC
import Derived.Test.YtikoehjalcljnaaDoorCutSpec
set_option linter.unusedVariables false
namespace Go.Proofs.YtikoehjalcljnaaDoor
open Go.ChangeShapes Go.WideShapes Go.ChangeAt Go.RowKit Go.Deep

theorem dash_list : dashB.toList = [45] := by rw [ByteArray.toList_eq]; rfl
theorem ret_qb {v : Value} {a b : Bool} (h : a = b) : Ending.returned (.tuple #[v, .bool a]) = .returned (.tuple #[v, .bool b]) := by rw [h]
theorem no_blk {v5 v : Value} {W : World} {g1 : Nat} (hat : v5.ownBlock = v.ownBlock ∨ v5.ownBlock = some W.heap.size) (h : ∀ q, v.ownBlock = some q → q ≠ g1) (hg : g1 < W.heap.size) : ∀ q, v5.ownBlock = some q → q ≠ g1 := by
  intro q hq
  rcases hat with e | e
  · exact h q (e ▸ hq)
  · rw [e] at hq
    have := Option.some.inj hq
    omega
set_option maxRecDepth 100000 in
set_option maxHeartbeats 4000000 in
theorem specRdC_any (s : ByteArray) (w : World) (hs : s.size ≤ 1048576) :
    Calls Tryd.prog 6 #[.string s] w (CB (rsL s) (rsO s) w) := by
  obtain ⟨i0, hi, hz0, hz1, hz2⟩ := info_parts infoC
  by_cases hd : s = dashB
  · obtain ⟨E1, E2⟩ := rs_dash hd
    rw [E1, E2]
    have hq : (s.toList == [45]) = true := by rw [hd, dash_list]; rfl
    clear hd
    go_enter Tryd.func6, Tryd.ntmps6
    go_wp2
    go_ret2
    exact ⟨_, rfl, cv_of_row (by simpa [i64s, flatC] using World.ownsRow_made w #[] 0 (Nat.le_refl _) (by simp) (by simp)), (Below.refl _ _).alloc (Nat.le_refl _) _⟩
  · have hq := bytesC_f hd
    rw [dash_list] at hq
    have HD := Lib.hid hd
    obtain ⟨L, hL⟩ : ∃ L, rsL s = L := ⟨_, rfl⟩
    obtain ⟨o, ho⟩ : ∃ o, rsO s = o := ⟨_, rfl⟩
    rw [hL, ho]
    have HL0 := Lib.hid hL
    have HO0 := Lib.hid ho
    clear hL ho hd
    go_enter Tryd.func6, Tryd.ntmps6
    go_wp2_with fail
    have HR0 := Lib.hid (show RowC (w.alloc (.cells #[] 47)) w.heap.size (.slice (some ⟨w.heap.size, 0, none⟩) 0 0) [] by simpa [RowC, i64s, flatC] using World.ownsRow_made w #[] 0 (Nat.le_refl _) (by simp) (by simp))
    have HBA := Lib.hid ((Below.refl w.heap.size w).alloc (Nat.le_refl _) (.cells #[] 47))
    have hlA : w.heap.size < (w.alloc (.cells #[] 47)).heap.size := by rw [World.size_alloc]; omega
    generalize w.alloc (.cells #[] 47) = wA at *
    refine (split_any s 44 _ hs).mono ?_
    rintro en w1 ⟨v, ps, rfl, hps, ⟨g1, c1, rfl, hB1, hlt1, hown1⟩, hb1⟩
    obtain ⟨n, hn⟩ : ∃ n, ps.length = n := ⟨_, rfl⟩
    rw [hn] at hown1 ⊢
    have HN := Lib.hid hn
    have HPS := Lib.hid hps
    have HO1 := Lib.hid hown1
    have hnb : n ≤ 1048577 := by
      have h0 := splitL_len 44 s.data.toList
      rw [← hps, List.length_map, hn, size_list] at h0
      omega
    have HB1 := Lib.hid (below_of HBA.out hb1 HBA.out.size)
    have HR1 := Lib.hid (show RowC w1 w.heap.size (.slice (some ⟨w.heap.size, 0, none⟩) 0 0) [] from row_keepC hb1 HR0.out)
    have hwg : w.heap.size < g1 := Nat.lt_of_lt_of_le hlA hB1
    clear hps hown1 hb1 hn HR0
    go_wp2
    go_loopw [4, 6] (fun v i wr => ∃ (k : Nat) (rs : List Ct), k ≤ n ∧ i = .int .i64 k ∧ Hid (rs.length = k) ∧ Hid (∀ j, j < k → rdC (ps.getD j ByteArray.empty) = some (rs.getD j zC)) ∧ Hid (RowC wr w.heap.size v rs) ∧ Hid (∀ q, v.ownBlock = some q → q ≠ g1) ∧ (∀ j, j < n → wr.cell? ⟨g1, j, none⟩ = some (.string (ps.getD j ByteArray.empty))) ∧ Below w.heap.size w wr) (fun _ i _ => n - (intOf i).toNat)
    case atStart => exact ⟨0, [], by omega, rfl, rfl, fun j hj => by omega, HR1, Lib.hid (fun q hq => by simp only [Value.ownBlock, Option.some.injEq] at hq; omega), fun j hj => strs_atC HN.out HO1.out j hj, HB1.out⟩
    case round =>
      obtain ⟨k, rs, hk, rfl, HL, HA, HR, HNG, hcells, hbw⟩ := hrel
      have HB := Lib.hid hbw
      have hsz := hbw.size
      have HCE := Lib.hid hcells
      clear hbw hcells
      by_cases hlt : k < n
      · have hcell := HCE.out k hlt
        have hg1 := Lib.lt_of_cell hcell
        have hq1 := partC_size HPS.out k (by rw [HN.out]; exact hlt)
        have HNO := Lib.hid (show rdC (ps.getD k ByteArray.empty) = none → L = [] ∧ o = false from fun h => by
          have := rs_none HD.out HPS.out (by rw [HN.out]; exact hlt) h
          rw [HL0.out, HO0.out] at this; exact this)
        have HKEEP := Lib.hid (show ∀ z, rdC (ps.getD k ByteArray.empty) = some z → ∀ j, j < k + 1 → rdC (ps.getD j ByteArray.empty) = some ((rs ++ [z]).getD j zC) from fun z hz j hj => by
          by_cases e : j = k
          · subst e
            rw [hz, snocC_last rs z j HL.out]
          · rw [snocC_get rs z j (by rw [HL.out]; omega)]; exact HA.out j (by omega))
        have hkn : (k : Int) < (n : Int) := by omega
        have hk0 : (0 : Int) ≤ (k : Int) := by omega
        generalize ps.getD k ByteArray.empty = q at *
        go_wp2_with fail
        refine (split_any q 120 _ (by omega)).mono ?_
        rintro en w3 ⟨v3, ps3, rfl, hps3, ⟨g3, c3, rfl, hB3, hlt3, hown3⟩, hb3⟩
        obtain ⟨m, hm⟩ : ∃ m, ps3.length = m := ⟨_, rfl⟩
        rw [hm] at hown3 ⊢
        have HM := Lib.hid hm
        have HPS3 := Lib.hid hps3
        have HO3 := Lib.hid hown3
        have hg3 : g1 < w3.heap.size := Nat.lt_of_lt_of_le hg1 hb3.size
        have HRow := Lib.hid (show RowC w3 w.heap.size u4 rs from row_keepC hb3 HR.out)
        have HBx := Lib.hid (below_of HB.out hb3 HB.out.size)
        have HCX := Lib.hid (show ∀ j, j < n → w3.cell? ⟨g1, j, none⟩ = some (.string (ps.getD j ByteArray.empty)) from fun j hj => (below_cell hb3 g1 j hg1).trans (HCE.out j hj))
        clear hps3 hown3 hb3 hm hcell
        by_cases h2 : m = 2
        · subst h2
          obtain ⟨a, b, rfl⟩ := list_two HM.out
          obtain ⟨za, zb⟩ := part2 HPS3.out
          have ea : w3.cell? ⟨g3, 0, none⟩ = some (.string a) := strs_atC rfl HO3.out 0 (by simp)
          have eb : w3.cell? ⟨g3, 1, none⟩ = some (.string b) := strs_atC rfl HO3.out 1 (by simp)
          have HRD := Lib.hid (rdC_ps HPS3.out)
          have HSA := Lib.hid (fun w => specNumber_any a w (by omega))
          have HSB := Lib.hid (fun w => specNumber_any b w (by omega))
          unfold NumRet at HSA HSB
          clear za zb HO3 HPS3 HM
          generalize numV a = x at *
          generalize numV b = y at *
          generalize numOk a = oa at *
          generalize numOk b = ob at *
          cases oa
          · have HE := Lib.hid (HNO.out (by rw [HRD.out, if_neg (by simp)]))
            go_wp2_with fail
            refine (HSA.out _).mono ?_
            rintro en w4 ⟨rfl, rfl⟩
            go_wp2_with fail
            refine (HSB.out _).mono ?_
            rintro en w4 ⟨rfl, rfl⟩
            go_wp2
            go_ret2
            exact ⟨_, ret_qb HE.out.2.symm, by rw [HE.out.1]; exact .inl ⟨rfl, rfl⟩, HBx.out⟩
          · cases ob
            · have HE := Lib.hid (HNO.out (by rw [HRD.out, if_neg (by simp)]))
              go_wp2_with fail
              refine (HSA.out _).mono ?_
              rintro en w4 ⟨rfl, rfl⟩
              go_wp2_with fail
              refine (HSB.out _).mono ?_
              rintro en w4 ⟨rfl, rfl⟩
              go_wp2
              go_ret2
              exact ⟨_, ret_qb HE.out.2.symm, by rw [HE.out.1]; exact .inl ⟨rfl, rfl⟩, HBx.out⟩
            · have HK2 := Lib.hid (HKEEP.out (x, y) (by rw [HRD.out, if_pos ⟨rfl, rfl⟩]))
              have HLL := Lib.hid (show (rs ++ [(x, y)]).length = k + 1 by rw [List.length_append, HL.out]; rfl)
              have hrl : rs.length ≤ 1048577 := by rw [HL.out]; omega
              go_wp2_with fail
              refine (HSA.out _).mono ?_
              rintro en w4 ⟨rfl, rfl⟩
              go_wp2_with fail
              refine (HSB.out _).mono ?_
              rintro en w4 ⟨rfl, rfl⟩
              go_wp2_with (at_builtin; refine wpList_append_own_at _ rfl (.tmp 52) (.tmp 56) 22 rfl w.heap.size 47 i0 _ 2 16 Tryd.underlying22 hi hz0 hz1 hz2 rfl (by omega) _ rs.length (i64s (flatC rs)) rfl (HRow.out.alloc (.cells #[.int .i64 x, .int .i64 y] 47)) ⟨_, 0, none⟩ 1 1 [.int .i64 x, .int .i64 y] rfl rfl (newsN (by simp)) (by intro u hu; simp at hu; rcases hu with rfl | rfl <;> rfl) (by unfold maxLen; omega) (by omega) (base_al HBx.out.size) ?_; intro v5 wv5 hown hgrow hnil hat; have HOv5 := Lib.hid (show RowC wv5 w.heap.size v5 (rs ++ [(x, y)]) from by unfold RowC; rw [rowC_push, List.length_append]; exact hown); have HBv5 := Lib.hid ((HBx.out.alloc HBx.out.size (.cells #[.int .i64 x, .int .i64 y] 47)).grown hgrow (base_al HBx.out.size) (fun k hk => (HRow.out.lt k hk).1)); have HCv5 := Lib.hid (show ∀ j, j < n → wv5.cell? ⟨g1, j, none⟩ = some (.string (ps.getD j ByteArray.empty)) from fun j hj => far_cellC hgrow HNG.out (by rw [World.size_alloc]; omega) ((below_cell ((Below.refl _ _).alloc (Nat.le_refl _) _) g1 j hg3).trans (HCX.out j hj))); have HNv5 := Lib.hid (no_blk hat HNG.out (by rw [World.size_alloc]; omega)); clear hown hgrow hnil hat)
              go_roundw
              case rel => exact ⟨k + 1, rs ++ [(x, y)], by omega, by go_num, HLL, HK2, HOv5, HNv5, HCv5.out, HBv5.out⟩
              case measure => simp [intOf]; omega
        · have HE := Lib.hid (HNO.out (rdC_len HPS3.out (by rw [HM.out]; exact h2)))
          have hne : ((m : Int) != 2) = true := by simp; omega
          clear h2
          go_wp2
          go_ret2
          exact ⟨_, ret_qb HE.out.2.symm, by rw [HE.out.1]; exact .inl ⟨rfl, rfl⟩, HBx.out⟩
      · obtain rfl : k = n := by omega
        have HSM := Lib.hid (rs_some HD.out HPS.out (by rw [HL.out, HN.out]) (fun j hj => HA.out j (by rw [HN.out] at hj; exact hj)))
        have HV := Lib.hid (cv_of_row HR.out)
        have HAT := Lib.hid (cv_at (by
          rw [HL.out]
          by_cases h0 : 0 < k
          · have := parts_bound HPS.out (HA.out 0 h0) (by rw [HN.out]; exact h0)
            rw [HN.out] at this
            omega
          · omega) HV.out)
        obtain ⟨av, cv, rfl⟩ := cv_form HV.out
        rcases Bool.eq_false_or_eq_true (cutsB rs) with hv | hv
        · have HE := Lib.hid (show L = rs ∧ o = true by have := rs_yes HSM.out hv; rw [HL0.out, HO0.out] at this; exact this)
          have HV2 := Lib.hid hv
          clear hv
          go_wp2_with fail
          refine (l09Cuts_any rs _ _ HAT.out).mono ?_
          rintro en w6 ⟨rfl, hb6⟩
          rw [HV2.out]
          have HV6 := Lib.hid (cv_kept hb6 HV.out)
          have HB6 := Lib.hid (below_of HB.out hb6 HB.out.size)
          clear hb6
          go_wp2
          go_ret2
          exact ⟨_, ret_qb HE.out.2.symm, by rw [HE.out.1]; exact HV6.out, HB6.out⟩
        · have HE := Lib.hid (show L = [] ∧ o = false by have := rs_no HSM.out hv; rw [HL0.out, HO0.out] at this; exact this)
          have HV2 := Lib.hid hv
          clear hv
          go_wp2_with fail
          refine (l09Cuts_any rs _ _ HAT.out).mono ?_
          rintro en w6 ⟨rfl, hb6⟩
          rw [HV2.out]
          have HB6 := Lib.hid (below_of HB.out hb6 HB.out.size)
          clear hb6
          go_wp2
          go_ret2
          exact ⟨_, ret_qb HE.out.2.symm, by rw [HE.out.1]; exact .inl ⟨rfl, rfl⟩, HB6.out⟩
end Go.Proofs.YtikoehjalcljnaaDoor
