/- Melts: when one is valid; the program's answer. -/
import Derived.Test.YtjicnfgpbbganabDoorMeltV
import Derived.Test.YtjicnfgpbbganabDoorNameImplE
set_option linter.unusedVariables false
namespace Go.Proofs.YtjicnfgpbbganabDoor
open Go.ChangeShapes Go.WideShapes Go.ChangeAt Go.RowKit

theorem allT1 (lo hi c : Int) : allIn lo hi [c] = inB c lo hi := by simp [allIn]
theorem cellT1 (w : World) (x : Int) (T : TypeId) (n : Nat) (hn : n = w.heap.size) : ∀ j, j < 1 → (w.alloc (.cells #[.int .i64 x] T)).cell? ⟨n, 0 + j, none⟩ = some (.int .i64 ([x].getD j 0)) := by
  subst hn
  intro j hj
  match j, hj with
  | 0, _ => go_simp
set_option maxRecDepth 20000 in
set_option maxHeartbeats 4000000 in
theorem areNames_some (ss : List ByteArray) (b off cap n : Nat) (w : World) (hn : Hid (ss.length = n)) (hn0 : 1 ≤ n) (hn1 : n ≤ 16) (hbl : b < w.heap.size) (hc : ∀ j, j < n → w.cell? ⟨b, off + j, none⟩ = some (.string (ss.getD j ByteArray.empty))) (hz : SzSt ss) :
    Calls Tryd.prog 24 #[.slice (some ⟨b, off, none⟩) n cap] w fun e w' => e = .returned (.bool (chainN ss)) ∧ Below w.heap.size w w' := by
  have HC := Lib.hid hc
  have HZ := Lib.hid hz
  have HNO := Lib.hid (fun i (hi : i < ss.length) h => chainN_no (ss := ss) (i := i) hi h)
  have HIN := Lib.hid (show inB (n : Int) 1 16 = true from inB_iff.2 (by omega))
  have HB0 := Lib.hid (below_alT w (.cells #[.int .i64 (n : Int)] 3))
  clear hc hz
  go_enter Tryd.func24, Tryd.ntmps24
  go_wp2_with fail
  refine (within_int _ _ [(n : Int)] _ 0 1 1 _ rfl (by omega) (cellT1 _ _ _ _ rfl)).mono ?_
  rintro e w2 ⟨rfl, rfl⟩
  rw [allT1, HIN.out]
  have hbl0 : b < (w.alloc (.cells #[.int .i64 (n : Int)] 3)).heap.size := Nat.lt_of_lt_of_le hbl HB0.out.size
  generalize (w.alloc (.cells #[.int .i64 (n : Int)] 3)) = wA at *
  go_wp2
  go_loopw [12] (fun i wr => ∃ k : Nat, k ≤ n ∧ i = .int .i64 k ∧ Hid (∀ j, j < k → okN ss j = true) ∧ Below w.heap.size w wr) (fun i _ => n - (intOf i).toNat)
  case atStart => exact ⟨0, by omega, rfl, Lib.hid (fun j hj => by omega), HB0.out⟩
  case round =>
    obtain ⟨k, hk, rfl, HA, hbw⟩ := hrel
    have HBW := Lib.hid hbw
    by_cases hlt : k < n
    · have d0 : wr.cell? ⟨b, off + k, none⟩ = some (.string (ss.getD k ByteArray.empty)) := (below_cell hbw _ _ hbl).trans (HC.out k hlt)
      have hs' := HZ.out k (by rw [hn.out]; exact hlt)
      obtain ⟨x, hx⟩ : ∃ x, ss.getD k ByteArray.empty = x := ⟨_, rfl⟩
      have hkm : (k : Int) < (n : Int) := by omega
      have hk0 : (0 : Int) ≤ (k : Int) := by omega
      rw [hx] at d0 hs'
      have HS := Lib.hid (show x.size ≤ maxLen from hs')
      clear hs' hbw
      rcases Bool.eq_false_or_eq_true (nameB x) with h4 | h4
      · have H4 := Lib.hid h4
        by_cases hkz : k = 0
        · have HOK := Lib.hid (show okN ss k = true by unfold okN; rw [hx, h4, decide_eq_true hkz]; rfl)
          have hg2 : ¬ (0 : Int) < (k : Int) := by omega
          clear hx h4 hkz
          go_wp2_with fail
          refine (implIsName_any x _ HS.out).mono ?_
          rintro e w2 ⟨rfl, hb⟩
          rw [H4.out]
          have HB2 := Lib.hid (below_of HBW.out hb HBW.out.size)
          clear hb
          go_wp2
          go_roundw
          case rel => exact ⟨k + 1, by omega, by go_num, Lib.hid (fun j hj => by
            by_cases e : j = k
            · subst e; exact HOK.out
            · exact HA.out j (by omega)), HB2.out⟩
          case measure => simp [intOf]; omega
        · obtain ⟨q, hq⟩ : ∃ q, k = q + 1 := ⟨k - 1, by omega⟩
          obtain ⟨y, hy⟩ : ∃ y, ss.getD q ByteArray.empty = y := ⟨_, rfl⟩
          have HY := Lib.hid (show ∀ w', Below w.heap.size w w' → w'.cell? ⟨b, off + q, none⟩ = some (.string y) from fun w' h => by rw [← hy]; exact (below_cell h _ _ hbl).trans (HC.out q (by omega)))
          have hg : (0 : Int) < (k : Int) := by omega
          have hq0 : (0 : Int) ≤ (q : Int) := by omega
          have hq1 : (q : Int) < (n : Int) := by omega
          have hqe : (k : Int) - 1 = (q : Int) := by omega
          obtain ⟨jj, h5⟩ : ∃ jj, (Op.bytesLess x.toList y.toList || x.toList == y.toList) = jj := ⟨_, rfl⟩
          have HJ := Lib.hid (show okN ss k = !jj by
            unfold okN; rw [hx, h4, decide_eq_false hkz, show k - 1 = q by omega, hy, ← h5, flipT]
            simp [lessT])
          clear hx hy h4 hq hkz
          go_wp2_with fail
          refine (implIsName_any x _ HS.out).mono ?_
          rintro e w2 ⟨rfl, hb⟩
          rw [H4.out]
          have HB2 := Lib.hid (below_of HBW.out hb HBW.out.size)
          have e0 := HY.out w2 HB2.out
          clear hb
          cases jj
          · have HOK := Lib.hid (show okN ss k = true by rw [HJ.out]; rfl)
            go_wp2
            go_roundw
            case rel => exact ⟨k + 1, by omega, by go_num, Lib.hid (fun j hj => by
              by_cases e : j = k
              · subst e; exact HOK.out
              · exact HA.out j (by omega)), HB2.out⟩
            case measure => simp [intOf]; omega
          · have HF := Lib.hid (HNO.out k (by rw [hn.out]; exact hlt) (by rw [HJ.out]; rfl))
            go_wp2
            go_ret
            exact ⟨retT_b HF.out.symm, HB2.out⟩
      · have H4 := Lib.hid h4
        have HF := Lib.hid (HNO.out k (by rw [hn.out]; exact hlt) (by unfold okN; rw [hx, h4]; rfl))
        clear hx h4
        go_wp2_with fail
        refine (implIsName_any x _ HS.out).mono ?_
        rintro e w2 ⟨rfl, hb⟩
        rw [H4.out]
        have HB2 := Lib.hid (below_of HBW.out hb HBW.out.size)
        clear hb
        go_wp2
        go_ret
        exact ⟨retT_b HF.out.symm, HB2.out⟩
    · obtain rfl : k = n := by omega
      have HF := Lib.hid (chainN_iff.2 (fun j hj => HA.out j (by rw [hn.out] at hj; exact hj)))
      clear hbw
      go_wp2
      go_ret
      exact ⟨retT_b HF.out.symm, HBW.out⟩
theorem areNames_len (a : Option Addr) (n c : Nat) (w : World) (hn : n ≤ 1048576) (h : ¬ (1 ≤ n ∧ n ≤ 16)) :
    Calls Tryd.prog 24 #[.slice a n c] w fun e w' => e = .returned (.bool false) ∧ Below w.heap.size w w' := by
  have HIN := Lib.hid (show inB (n : Int) 1 16 = false from inB_false (by omega))
  have HB0 := Lib.hid (below_alT w (.cells #[.int .i64 (n : Int)] 3))
  go_enter Tryd.func24, Tryd.ntmps24
  go_wp2_with fail
  refine (within_int _ _ [(n : Int)] _ 0 1 1 _ rfl (by omega) (cellT1 _ _ _ _ rfl)).mono ?_
  rintro e w2 ⟨rfl, rfl⟩
  rw [allT1, HIN.out]
  go_wp2
  go_ret
  exact ⟨rfl, HB0.out⟩
theorem areNames_any (v : Value) (ss : List ByteArray) (w : World) (h : StAt w v ss) (hz : SzSt ss) :
    Calls Tryd.prog 24 #[v] w fun e w' => e = .returned (.bool (namesB ss)) ∧ Below w.heap.size w w' := by
  have hl := h.1
  by_cases hlen : 1 ≤ ss.length ∧ ss.length ≤ 16
  · rw [namesB_in hlen]
    obtain ⟨_, ⟨a, c, rfl, rfl⟩ | ⟨b2, off, cap, rfl, hb, hc⟩⟩ := h
    · simp at hlen
    · exact areNames_some ss b2 off cap _ w (Lib.hid rfl) hlen.1 hlen.2 hb hc hz
  · rw [namesB_len hlen]
    obtain ⟨a, c, rfl⟩ := st_form h
    exact areNames_len a _ c w hl hlen
set_option maxHeartbeats 2000000 in
theorem implMeltValid_any (s : ByteArray) (v : Value) (ss : List ByteArray) (z : Int) (w : World) (hv : StAt w v ss) (hs : s.size ≤ maxLen) (hz : SzSt ss) :
    Calls Tryd.prog 12 #[.agg #[.string s, v, .int .i64 z]] w fun e w' => e = .returned (.bool (meltB s ss z)) ∧ Below w.heap.size w w' := by
  have HV := Lib.hid (st_alloc (.cells #[.string s, v, .int .i64 z] 24) hv)
  have HB := Lib.hid (below_alT w (.cells #[.string s, v, .int .i64 z] 24))
  have hl := alloc_ltT w (.cells #[.string s, v, .int .i64 z] 24)
  have k1 : (w.alloc (.cells #[.string s, v, .int .i64 z] 24)).cell? ⟨w.heap.size, 1, none⟩ = some v := by go_simp
  have k2 : (w.alloc (.cells #[.string s, v, .int .i64 z] 24)).cell? ⟨w.heap.size, 2, none⟩ = some (.int .i64 z) := by go_simp
  have HN := Lib.hid (fun w' h => areNames_any v ss w' h hz)
  clear hv hz
  rcases Bool.eq_false_or_eq_true (nameB s) with h1 | h1
  · have H1 := Lib.hid h1
    rcases Bool.eq_false_or_eq_true (namesB ss) with h2 | h2
    · have H2 := Lib.hid h2
      have HF := Lib.hid (show meltB s ss z = inB z 1 320000000 by unfold meltB; rw [h1, h2]; rfl)
      clear h1 h2
      go_enter Tryd.func12, Tryd.ntmps12
      go_wp2_with fail
      generalize (w.alloc (Obj.cells #[Value.string s, v, Value.int IntKind.i64 z] 24)) = wA at *
      refine (implIsName_any s _ hs).mono ?_
      rintro e w2 ⟨rfl, hb⟩
      rw [H1.out]
      have k1' : w2.cell? ⟨w.heap.size, 1, none⟩ = some v := (below_cell hb _ _ hl).trans k1
      have k2' : w2.cell? ⟨w.heap.size, 2, none⟩ = some (.int .i64 z) := (below_cell hb _ _ hl).trans k2
      have hl2 := Nat.lt_of_lt_of_le hl hb.size
      have HV2 := Lib.hid (st_kept hb HV.out)
      have HB2 := Lib.hid (below_of HB.out hb HB.out.size)
      clear hb k1 k2
      go_wp2_with fail
      refine (HN.out _ HV2.out).mono ?_
      rintro e w3 ⟨rfl, hb⟩
      rw [H2.out]
      have k3 : w3.cell? ⟨w.heap.size, 2, none⟩ = some (.int .i64 z) := (below_cell hb _ _ hl2).trans k2'
      have HB3 := Lib.hid (below_of HB2.out hb HB2.out.size)
      have hba := below_alT w3 (.cells #[.int .i64 z] 2)
      have HB4 := Lib.hid (below_of HB3.out hba HB3.out.size)
      have HC5 := Lib.hid (cellT1 w3 z 2 _ rfl)
      clear hb hba k1' k2'
      go_wp2_with fail
      refine (within_i64 _ _ [z] _ 0 1 1 _ rfl (by omega) HC5.out).mono ?_
      rintro e w4 ⟨rfl, rfl⟩
      rw [allT1]
      generalize (w3.alloc (.cells #[.int .i64 z] 2)) = w4 at *
      generalize inB z 1 320000000 = rr at *
      go_wp2
      go_ret
      exact ⟨retT_b HF.out.symm, HB4.out⟩
    · have H2 := Lib.hid h2
      have HF := Lib.hid (show meltB s ss z = false by unfold meltB; rw [h2, Bool.false_and, Bool.and_false])
      clear h1 h2
      go_enter Tryd.func12, Tryd.ntmps12
      go_wp2_with fail
      generalize (w.alloc (Obj.cells #[Value.string s, v, Value.int IntKind.i64 z] 24)) = wA at *
      refine (implIsName_any s _ hs).mono ?_
      rintro e w2 ⟨rfl, hb⟩
      rw [H1.out]
      have k1' : w2.cell? ⟨w.heap.size, 1, none⟩ = some v := (below_cell hb _ _ hl).trans k1
      have HV2 := Lib.hid (st_kept hb HV.out)
      have HB2 := Lib.hid (below_of HB.out hb HB.out.size)
      clear hb k1 k2
      go_wp2_with fail
      refine (HN.out _ HV2.out).mono ?_
      rintro e w3 ⟨rfl, hb⟩
      rw [H2.out]
      have HB3 := Lib.hid (below_of HB2.out hb HB2.out.size)
      clear hb
      go_wp2
      go_ret
      exact ⟨retT_b HF.out.symm, HB3.out⟩
  · have H1 := Lib.hid h1
    have HF := Lib.hid (show meltB s ss z = false by unfold meltB; rw [h1]; rfl)
    clear h1
    go_enter Tryd.func12, Tryd.ntmps12
    go_wp2_with fail
    generalize (w.alloc (Obj.cells #[Value.string s, v, Value.int IntKind.i64 z] 24)) = wA at *
    refine (implIsName_any s _ hs).mono ?_
    rintro e w2 ⟨rfl, hb⟩
    rw [H1.out]
    have HB2 := Lib.hid (below_of HB.out hb HB.out.size)
    clear hb
    go_wp2
    go_ret
    exact ⟨retT_b HF.out.symm, HB2.out⟩
end Go.Proofs.YtjicnfgpbbganabDoor
