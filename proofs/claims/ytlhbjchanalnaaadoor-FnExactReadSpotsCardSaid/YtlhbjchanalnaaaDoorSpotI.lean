/- Spots: the program's validity. -/
import Derived.Test.YtlhbjchanalnaaaDoorSpotV
import Derived.Test.YtlhbjchanalnaaaDoorHand
set_option linter.unusedVariables false
namespace Go.Proofs.YtlhbjchanalnaaaDoor
open Go.ChangeShapes Go.WideShapes Go.ChangeAt Go.RowKit

theorem below_drewQ {w w' : World} (hb : Below w.drew.heap.size w.drew w') : Below w.heap.size w w' := ⟨hb.os, hb.tape, hb.output, hb.size, hb.block⟩
theorem keepQ {w w' : World} {g : Nat} {u0 u1 : Value} (hz : g < w.heap.size) (g0 : w.cell? ⟨g, 0, none⟩ = some u0) (g1 : w.cell? ⟨g, 1, none⟩ = some u1) (hb : Below w.heap.size w w') :
    w'.cell? ⟨g, 0, none⟩ = some u0 ∧ w'.cell? ⟨g, 1, none⟩ = some u1 ∧ Below w.heap.size w w' :=
  ⟨(hb.cell (p := ⟨g, 0, none⟩) hz).trans g0, (hb.cell (p := ⟨g, 1, none⟩) hz).trans g1, hb⟩
theorem keepQ2 {w w' : World} {g b o : Nat} {u0 u1 u2 : Value} (hz : g < w.heap.size) (hbl : b < w.heap.size) (g0 : w.cell? ⟨g, 0, none⟩ = some u0) (g1 : w.cell? ⟨g, 1, none⟩ = some u1) (q0 : w.cell? ⟨b, o, none⟩ = some u2) (hb : Below w.heap.size w w') :
    w'.cell? ⟨g, 0, none⟩ = some u0 ∧ w'.cell? ⟨g, 1, none⟩ = some u1 ∧ w'.cell? ⟨b, o, none⟩ = some u2 ∧ Below w.heap.size w w' :=
  ⟨(hb.cell (p := ⟨g, 0, none⟩) hz).trans g0, (hb.cell (p := ⟨g, 1, none⟩) hz).trans g1, (hb.cell (p := ⟨b, o, none⟩) hbl).trans q0, hb⟩
theorem isWeight_any (y : Int) (w : World) :
    Calls Tryd.prog 30 #[.int .i64 y] w fun e w' => e = .returned (.bool (wgtB y)) ∧ Below w.heap.size w w' := by
  by_cases h0 : y = 0
  · subst h0
    go_enter Tryd.func30, Tryd.ntmps30
    go_wp2
    go_ret
    exact ⟨rfl, Below.refl _ _⟩
  · have HF := Lib.hid (show wgtB y = inB y (-1000) 1000 by unfold wgtB; rw [decide_eq_true h0]; rfl)
    have hne : (y != 0) = true := by simpa using h0
    clear h0
    go_enter Tryd.func30, Tryd.ntmps30
    go_wp2_with fail
    refine (within_i64 _ _ [y] _ 0 1 1 _ rfl (by omega) (cellI1Q _ _ _ _ rfl)).mono ?_
    rintro e w2 ⟨rfl, rfl⟩
    rw [allI1Q]
    generalize inB y (-1000) 1000 = c at *
    go_wp2
    go_ret
    exact ⟨retQ_b HF.out.symm, (Below.refl _ _).alloc (Nat.le_refl _) _⟩
set_option maxHeartbeats 1000000 in
theorem implSpotValid_any (x y : Int) (w : World) :
    Calls Tryd.prog 21 #[.agg #[.int .i64 x, .int .i64 y]] w fun e w' => e = .returned (.bool (spotB (x, y))) ∧ Below w.heap.size w w' := by
  have hB0 := ((Below.refl w.heap.size w).alloc (Nat.le_refl _) (.cells #[.int .i64 x, .int .i64 y] 33)).alloc (by simp) (.cells #[.int .i64 x] 2)
  have HB0 := Lib.hid hB0
  clear hB0
  rcases Bool.eq_false_or_eq_true (inB x 0 359) with h1 | h1
  · have HF := Lib.hid (show spotB (x, y) = wgtB y by unfold spotB; rw [h1]; rfl)
    have H1 := Lib.hid h1
    clear h1
    go_enter Tryd.func21, Tryd.ntmps21
    go_wp2_with fail
    refine (within_i64 _ _ [x] _ 0 1 1 _ rfl (by omega) (cellI1Q _ _ _ _ (by simp))).mono ?_
    rintro e w2 ⟨rfl, rfl⟩
    rw [allI1Q, H1.out]
    go_wp2_with fail
    refine (isWeight_any y _).mono ?_
    rintro e w3 ⟨rfl, hb⟩
    have HB := Lib.hid (below_of HB0.out hb HB0.out.size)
    clear hb
    generalize wgtB y = c at *
    go_wp2
    go_ret
    exact ⟨retQ_b HF.out.symm, HB.out⟩
  · have HF := Lib.hid (show spotB (x, y) = false by unfold spotB; rw [h1]; rfl)
    have H1 := Lib.hid h1
    clear h1
    go_enter Tryd.func21, Tryd.ntmps21
    go_wp2_with fail
    refine (within_i64 _ _ [x] _ 0 1 1 _ rfl (by omega) (cellI1Q _ _ _ _ (by simp))).mono ?_
    rintro e w2 ⟨rfl, rfl⟩
    rw [allI1Q, H1.out]
    go_wp2
    go_ret
    exact ⟨retQ_b HF.out.symm, HB0.out⟩
set_option maxRecDepth 20000 in
set_option maxHeartbeats 4000000 in
theorem implVS_some (b off cap n : Nat) (rs : List Qt) (w : World) (hn : Hid (rs.length = n)) (hn0 : n ≤ 16) (hbl : b < w.heap.size) (hc : ∀ i, i < n → QIn w b (off + i * 2) (rs.getD i zQ)) :
    Calls Tryd.prog 14 #[.slice (some ⟨b, off, none⟩) n cap] w fun e w' => e = .returned (.bool (spotsB rs)) ∧ Below w.heap.size w w' := by
  have HC := Lib.hid hc
  have HNO := Lib.hid (fun i (hi : i < rs.length) h => spots_no (rs := rs) (i := i) hi h)
  have hm : ¬ 16 < (n : Int) := by omega
  clear hc
  go_enter Tryd.func14, Tryd.ntmps14
  go_wp2
  go_loopw [10] (fun i wr => ∃ k : Nat, k ≤ n ∧ i = .int .i64 k ∧ Hid (∀ j, j < k → okQ rs j = true) ∧ Below w.heap.size w wr) (fun i _ => n - (intOf i).toNat)
  case atStart => exact ⟨0, by omega, rfl, Lib.hid (fun j hj => by omega), Below.refl _ _⟩
  case round =>
    obtain ⟨k, hk, rfl, HA, hbw⟩ := hrel
    have HBW := Lib.hid hbw
    clear hbw
    by_cases hlt : k < n
    · have hr := HC.out k hlt
      obtain ⟨⟨x, y⟩, hxyz⟩ : ∃ r, rs.getD k zQ = r := ⟨_, rfl⟩
      rw [hxyz] at hr
      have HXYZ := Lib.hid hxyz
      have e0 : wr.cell? ⟨b, off + k * 2, none⟩ = some (.int .i64 x) := (below_cell HBW.out _ _ hbl).trans hr.c0
      have e1 : wr.cell? ⟨b, off + k * 2 + 1, none⟩ = some (.int .i64 y) := (below_cell HBW.out _ _ hbl).trans hr.c1
      have hkm : (k : Int) < (n : Int) := by omega
      have hk0 : (0 : Int) ≤ (k : Int) := by omega
      clear hr hxyz
      go_wp2
      have hzA : wr.heap.size < (wr.alloc (Obj.cells #[Value.int IntKind.i64 x, Value.int IntKind.i64 y] 33)).heap.size := by simp
      have hbA := (Below.refl wr.heap.size wr).alloc (Nat.le_refl _) (Obj.cells #[Value.int IntKind.i64 x, Value.int IntKind.i64 y] 33)
      have g0 : (wr.alloc (Obj.cells #[Value.int IntKind.i64 x, Value.int IntKind.i64 y] 33)).cell? ⟨wr.heap.size, 0, none⟩ = some (.int .i64 x) := by go_simp
      have g1 : (wr.alloc (Obj.cells #[Value.int IntKind.i64 x, Value.int IntKind.i64 y] 33)).cell? ⟨wr.heap.size, 1, none⟩ = some (.int .i64 y) := by go_simp
      have HBA := Lib.hid (below_of HBW.out hbA HBW.out.size)
      clear hbA e0 e1
      generalize (wr.alloc (Obj.cells #[Value.int IntKind.i64 x, Value.int IntKind.i64 y] 33)) = wA at *
      rcases Bool.eq_false_or_eq_true (spotB (x, y)) with h4 | h4
      · have H4 := Lib.hid h4
        by_cases hkz : k = 0
        · have HOK := Lib.hid (show okQ rs k = true by unfold okQ; rw [HXYZ.out, h4, decide_eq_true hkz]; rfl)
          have hg2 : decide ((0 : Int) < (k : Int)) = false := decide_eq_false (by omega)
          have hg3 : decide (0 < k) = false := decide_eq_false (by omega)
          clear h4 hkz
          refine wp_region_held_drew (S := (fun w' => w'.cell? ⟨wr.heap.size, 0, none⟩ = some (.int .i64 x) ∧ w'.cell? ⟨wr.heap.size, 1, none⟩ = some (.int .i64 y) ∧ Below wA.heap.size wA w')) (by kernel_rfl) (⟨g0, g1, ⟨rfl, rfl, rfl, Nat.le_refl _, fun _ _ => rfl⟩⟩) (fun hHeld => ?_)
          refine takeH 0 (some 15) (.agg #[.int .i64 x, .int .i64 y]) hHeld rfl rfl (by rfl) (by kernel_rfl) (by kernel_rfl) (by kernel_rfl) (fun _ _ _ h => h) (fun wS hSw => ?_) ?_
          · ((try dsimp only at hSw); go_simp; try with_reducible rfl)
          simp only [Act.put, List.setIfInBounds_toArray, List.set_cons_zero, List.set_cons_succ]
          refine loneH 1 (some 16) rfl rfl (by kernel_rfl) (by rfl) (fun K hK => ?_)
          go_simp; refine (implSpotValid_any x y wA.drew).mono ?_; rintro e w6 ⟨rfl, hb6⟩; rw [H4.out]
          refine hK.out _ _ (keepQ hzA g0 g1 (below_drewQ hb6)) (fun hHeld2 => ?_)
          clear hK K hHeld
          have hHeld := hHeld2
          clear hHeld2
          simp only [Act.put, List.setIfInBounds_toArray, List.set_cons_zero, List.set_cons_succ]
          refine takeH 2 (some 17) (.bool false) hHeld rfl rfl (by rfl) (by kernel_rfl) (by kernel_rfl) (by kernel_rfl) (fun _ _ _ h => h) (fun wS hSw => ?_) ?_
          · ((try dsimp only at hSw); go_simp; try with_reducible rfl)
          simp only [Act.put, List.setIfInBounds_toArray, List.set_cons_zero, List.set_cons_succ]
          refine takeH 3 (some 18) (.bool false) hHeld rfl rfl (by rfl) (by kernel_rfl) (by kernel_rfl) (by kernel_rfl) (fun _ _ _ h => h) (fun wS hSw => ?_) ?_
          · ((try dsimp only at hSw); go_simp; try with_reducible rfl)
          simp only [Act.put, List.setIfInBounds_toArray, List.set_cons_zero, List.set_cons_succ]
          refine takeH 4 (some 19) (.int .i64 k) hHeld rfl rfl (by rfl) (by kernel_rfl) (by kernel_rfl) (by kernel_rfl) (fun _ _ _ h => h) (fun wS hSw => ?_) ?_
          · ((try dsimp only at hSw); go_simp; try with_reducible rfl)
          simp only [Act.put, List.setIfInBounds_toArray, List.set_cons_zero, List.set_cons_succ]
          refine takeH 5 (some 20) (.bool false) hHeld rfl rfl (by rfl) (by kernel_rfl) (by kernel_rfl) (by kernel_rfl) (fun _ _ _ h => h) (fun wS hSw => ?_) ?_
          · ((try dsimp only at hSw); go_simp; try with_reducible rfl)
          simp only [Act.put, List.setIfInBounds_toArray, List.set_cons_zero, List.set_cons_succ]
          refine takeH 6 (some 21) (.bool false) hHeld rfl rfl (by rfl) (by kernel_rfl) (by kernel_rfl) (by kernel_rfl) (fun _ _ _ h => h) (fun wS hSw => ?_) ?_
          · ((try dsimp only at hSw); go_simp; try with_reducible rfl)
          simp only [Act.put, List.setIfInBounds_toArray, List.set_cons_zero, List.set_cons_succ]
          refine skipH 7 (some 22) hHeld rfl (by rfl) (by kernel_rfl) (by kernel_rfl) (by kernel_rfl) (fun _ _ _ h => h) ?_
          simp only [Act.put, List.setIfInBounds_toArray, List.set_cons_zero, List.set_cons_succ]
          refine skipH 8 (some 23) hHeld rfl (by rfl) (by kernel_rfl) (by kernel_rfl) (by kernel_rfl) (fun _ _ _ h => h) ?_
          simp only [Act.put, List.setIfInBounds_toArray, List.set_cons_zero, List.set_cons_succ]
          refine skipH 9 (some 24) hHeld rfl (by rfl) (by kernel_rfl) (by kernel_rfl) (by kernel_rfl) (fun _ _ _ h => h) ?_
          simp only [Act.put, List.setIfInBounds_toArray, List.set_cons_zero, List.set_cons_succ]
          refine skipH 10 (some 25) hHeld rfl (by rfl) (by kernel_rfl) (by kernel_rfl) (by kernel_rfl) (fun _ _ _ h => h) ?_
          simp only [Act.put, List.setIfInBounds_toArray, List.set_cons_zero, List.set_cons_succ]
          refine skipH 11 (some 26) hHeld rfl (by rfl) (by kernel_rfl) (by kernel_rfl) (by kernel_rfl) (fun _ _ _ h => h) ?_
          simp only [Act.put, List.setIfInBounds_toArray, List.set_cons_zero, List.set_cons_succ]
          refine skipH 12 (some 27) hHeld rfl (by rfl) (by kernel_rfl) (by kernel_rfl) (by kernel_rfl) (fun _ _ _ h => h) ?_
          simp only [Act.put, List.setIfInBounds_toArray, List.set_cons_zero, List.set_cons_succ]
          refine skipH 13 (some 28) hHeld rfl (by rfl) (by kernel_rfl) (by kernel_rfl) (by kernel_rfl) (fun _ _ _ h => h) ?_
          simp only [Act.put, List.setIfInBounds_toArray, List.set_cons_zero, List.set_cons_succ]
          refine skipH 14 (some 29) hHeld rfl (by rfl) (by kernel_rfl) (by kernel_rfl) (by kernel_rfl) (fun _ _ _ h => h) ?_
          simp only [Act.put, List.setIfInBounds_toArray, List.set_cons_zero, List.set_cons_succ]
          refine skipH 15 (some 30) hHeld rfl (by rfl) (by kernel_rfl) (by kernel_rfl) (by kernel_rfl) (fun _ _ _ h => h) ?_
          simp only [Act.put, List.setIfInBounds_toArray, List.set_cons_zero, List.set_cons_succ]
          refine takeH 16 (some 31) (.bool false) hHeld rfl rfl (by rfl) (by kernel_rfl) (by kernel_rfl) (by kernel_rfl) (fun _ _ _ h => h) (fun wS hSw => ?_) ?_
          · ((try dsimp only at hSw); go_simp; try with_reducible rfl)
          simp only [Act.put, List.setIfInBounds_toArray, List.set_cons_zero, List.set_cons_succ]
          refine takeH 17 (some 32) (.bool false) hHeld rfl rfl (by rfl) (by kernel_rfl) (by kernel_rfl) (by kernel_rfl) (fun _ _ _ h => h) (fun wS hSw => ?_) ?_
          · ((try dsimp only at hSw); go_simp; try with_reducible rfl)
          simp only [Act.put, List.setIfInBounds_toArray, List.set_cons_zero, List.set_cons_succ]
          refine wpAnyH_done (by kernel_rfl) ?_ _
          obtain ⟨k0, k1, kb⟩ := hHeld
          have HBR := Lib.hid (below_of HBA.out kb HBA.out.size)
          clear g0 g1 kb
          go_wp2
          go_roundw
          case rel => exact ⟨k + 1, by omega, by go_num, Lib.hid (fun j hj => by
            by_cases e : j = k
            · subst e; exact HOK.out
            · exact HA.out j (by omega)), HBR.out⟩
          case measure => simp [intOf]; omega
        · obtain ⟨q, hq⟩ : ∃ q, k = q + 1 := ⟨k - 1, by omega⟩
          have hr2 := HC.out q (by omega)
          obtain ⟨⟨x2, y2⟩, hx2⟩ : ∃ r, rs.getD q zQ = r := ⟨_, rfl⟩
          rw [hx2] at hr2
          have hblA : b < wA.heap.size := by have := HBA.out.size; omega
          have q0 : wA.cell? ⟨b, off + q * 2, none⟩ = some (.int .i64 x2) := (below_cell HBA.out _ _ hbl).trans hr2.c0
          have hg : (0 : Int) < (k : Int) := by omega
          have hg2 : 0 < k := by omega
          have hg3 : decide (0 < k) = true := decide_eq_true hg2
          have hq0 : (0 : Int) ≤ (q : Int) := by omega
          have hq1 : (q : Int) < (n : Int) := by omega
          have hw1 : IntKind.i64.wrap ((k : Int) - 1) = (q : Int) := by rw [show ((k : Int) - 1) = (q : Int) by omega]; exact IntWalk.i64_in _ (by omega)
          have HQ := Lib.hid hq
          obtain ⟨jj, h5⟩ : ∃ jj, decide (x ≤ x2) = jj := ⟨_, rfl⟩
          have HJ := Lib.hid (show okQ rs k = !jj by
            unfold okQ; rw [HXYZ.out, h4, decide_eq_false hkz, show k - 1 = q by omega, hx2, ← h5]
            by_cases hh : x ≤ x2
            · simp [hh]
            · simp [hh]; omega)
          clear hr2 hx2 h4 hq hkz
          go_region_held3 (fun w' => w'.cell? ⟨wr.heap.size, 0, none⟩ = some (.int .i64 x) ∧ w'.cell? ⟨wr.heap.size, 1, none⟩ = some (.int .i64 y) ∧ w'.cell? ⟨b, off + q * 2, none⟩ = some (.int .i64 x2) ∧ Below wA.heap.size wA w')
            (first | exact ⟨g0, g1, q0, ⟨rfl, rfl, rfl, Nat.le_refl _, fun _ _ => rfl⟩⟩ | exact keepQ2 hzA hblA g0 g1 q0 (below_drewQ hb6) | assumption)
            (first | (go_at_call 21; refine (implSpotValid_any x y wA.drew).mono ?_; rintro e w6 ⟨rfl, hb6⟩; rw [H4.out]))
          have kb : Below wA.heap.size wA w6 := below_drewQ hb6
          clear hb6
          have HBR := Lib.hid (below_of HBA.out kb HBA.out.size)
          clear kb g0 g1 q0
          cases jj
          · have HOK := Lib.hid (show okQ rs k = true by rw [HJ.out]; rfl)
            try rw [h5]
            go_wp2
            go_roundw
            case rel => exact ⟨k + 1, by omega, by go_num, Lib.hid (fun j hj => by
              by_cases e : j = k
              · subst e; exact HOK.out
              · exact HA.out j (by omega)), HBR.out⟩
            case measure => simp [intOf]; omega
          · have HF := Lib.hid (HNO.out k (by rw [hn.out]; exact hlt) (by rw [HJ.out]; rfl))
            try rw [h5]
            go_wp2
            go_ret
            exact ⟨retQ_b HF.out.symm, HBR.out⟩
      · have H4 := Lib.hid h4
        have HF := Lib.hid (HNO.out k (by rw [hn.out]; exact hlt) (by unfold okQ; rw [HXYZ.out, h4]; rfl))
        clear h4
        refine wp_region_held_drew (S := (fun w' => w'.cell? ⟨wr.heap.size, 0, none⟩ = some (.int .i64 x) ∧ w'.cell? ⟨wr.heap.size, 1, none⟩ = some (.int .i64 y) ∧ Below wA.heap.size wA w')) (by kernel_rfl) (⟨g0, g1, ⟨rfl, rfl, rfl, Nat.le_refl _, fun _ _ => rfl⟩⟩) (fun hHeld => ?_)
        refine takeH 0 (some 15) (.agg #[.int .i64 x, .int .i64 y]) hHeld rfl rfl (by rfl) (by kernel_rfl) (by kernel_rfl) (by kernel_rfl) (fun _ _ _ h => h) (fun wS hSw => ?_) ?_
        · ((try dsimp only at hSw); go_simp; try with_reducible rfl)
        simp only [Act.put, List.setIfInBounds_toArray, List.set_cons_zero, List.set_cons_succ]
        refine loneH 1 (some 16) rfl rfl (by kernel_rfl) (by rfl) (fun K hK => ?_)
        go_simp; refine (implSpotValid_any x y wA.drew).mono ?_; rintro e w6 ⟨rfl, hb6⟩; rw [H4.out]
        refine hK.out _ _ (keepQ hzA g0 g1 (below_drewQ hb6)) (fun hHeld2 => ?_)
        clear hK K hHeld
        have hHeld := hHeld2
        clear hHeld2
        simp only [Act.put, List.setIfInBounds_toArray, List.set_cons_zero, List.set_cons_succ]
        refine takeH 2 (some 17) (.bool true) hHeld rfl rfl (by rfl) (by kernel_rfl) (by kernel_rfl) (by kernel_rfl) (fun _ _ _ h => h) (fun wS hSw => ?_) ?_
        · ((try dsimp only at hSw); go_simp; try with_reducible rfl)
        simp only [Act.put, List.setIfInBounds_toArray, List.set_cons_zero, List.set_cons_succ]
        refine takeH 3 (some 18) (.bool true) hHeld rfl rfl (by rfl) (by kernel_rfl) (by kernel_rfl) (by kernel_rfl) (fun _ _ _ h => h) (fun wS hSw => ?_) ?_
        · ((try dsimp only at hSw); go_simp; try with_reducible rfl)
        simp only [Act.put, List.setIfInBounds_toArray, List.set_cons_zero, List.set_cons_succ]
        refine skipH 4 (some 19) hHeld rfl (by rfl) (by kernel_rfl) (by kernel_rfl) (by kernel_rfl) (fun _ _ _ h => h) ?_
        simp only [Act.put, List.setIfInBounds_toArray, List.set_cons_zero, List.set_cons_succ]
        refine skipH 5 (some 20) hHeld rfl (by rfl) (by kernel_rfl) (by kernel_rfl) (by kernel_rfl) (fun _ _ _ h => h) ?_
        simp only [Act.put, List.setIfInBounds_toArray, List.set_cons_zero, List.set_cons_succ]
        refine skipH 6 (some 21) hHeld rfl (by rfl) (by kernel_rfl) (by kernel_rfl) (by kernel_rfl) (fun _ _ _ h => h) ?_
        simp only [Act.put, List.setIfInBounds_toArray, List.set_cons_zero, List.set_cons_succ]
        refine skipH 7 (some 22) hHeld rfl (by rfl) (by kernel_rfl) (by kernel_rfl) (by kernel_rfl) (fun _ _ _ h => h) ?_
        simp only [Act.put, List.setIfInBounds_toArray, List.set_cons_zero, List.set_cons_succ]
        refine skipH 8 (some 23) hHeld rfl (by rfl) (by kernel_rfl) (by kernel_rfl) (by kernel_rfl) (fun _ _ _ h => h) ?_
        simp only [Act.put, List.setIfInBounds_toArray, List.set_cons_zero, List.set_cons_succ]
        refine skipH 9 (some 24) hHeld rfl (by rfl) (by kernel_rfl) (by kernel_rfl) (by kernel_rfl) (fun _ _ _ h => h) ?_
        simp only [Act.put, List.setIfInBounds_toArray, List.set_cons_zero, List.set_cons_succ]
        refine skipH 10 (some 25) hHeld rfl (by rfl) (by kernel_rfl) (by kernel_rfl) (by kernel_rfl) (fun _ _ _ h => h) ?_
        simp only [Act.put, List.setIfInBounds_toArray, List.set_cons_zero, List.set_cons_succ]
        refine skipH 11 (some 26) hHeld rfl (by rfl) (by kernel_rfl) (by kernel_rfl) (by kernel_rfl) (fun _ _ _ h => h) ?_
        simp only [Act.put, List.setIfInBounds_toArray, List.set_cons_zero, List.set_cons_succ]
        refine skipH 12 (some 27) hHeld rfl (by rfl) (by kernel_rfl) (by kernel_rfl) (by kernel_rfl) (fun _ _ _ h => h) ?_
        simp only [Act.put, List.setIfInBounds_toArray, List.set_cons_zero, List.set_cons_succ]
        refine skipH 13 (some 28) hHeld rfl (by rfl) (by kernel_rfl) (by kernel_rfl) (by kernel_rfl) (fun _ _ _ h => h) ?_
        simp only [Act.put, List.setIfInBounds_toArray, List.set_cons_zero, List.set_cons_succ]
        refine skipH 14 (some 29) hHeld rfl (by rfl) (by kernel_rfl) (by kernel_rfl) (by kernel_rfl) (fun _ _ _ h => h) ?_
        simp only [Act.put, List.setIfInBounds_toArray, List.set_cons_zero, List.set_cons_succ]
        refine skipH 15 (some 30) hHeld rfl (by rfl) (by kernel_rfl) (by kernel_rfl) (by kernel_rfl) (fun _ _ _ h => h) ?_
        simp only [Act.put, List.setIfInBounds_toArray, List.set_cons_zero, List.set_cons_succ]
        refine skipH 16 (some 31) hHeld rfl (by rfl) (by kernel_rfl) (by kernel_rfl) (by kernel_rfl) (fun _ _ _ h => h) ?_
        simp only [Act.put, List.setIfInBounds_toArray, List.set_cons_zero, List.set_cons_succ]
        refine takeH 17 (some 32) (.bool true) hHeld rfl rfl (by rfl) (by kernel_rfl) (by kernel_rfl) (by kernel_rfl) (fun _ _ _ h => h) (fun wS hSw => ?_) ?_
        · ((try dsimp only at hSw); go_simp; try with_reducible rfl)
        simp only [Act.put, List.setIfInBounds_toArray, List.set_cons_zero, List.set_cons_succ]
        refine wpAnyH_done (by kernel_rfl) ?_ _
        obtain ⟨k0, k1, kb⟩ := hHeld
        have HBR := Lib.hid (below_of HBA.out kb HBA.out.size)
        clear kb
        go_wp2
        go_ret
        exact ⟨retQ_b HF.out.symm, HBR.out⟩
    · obtain rfl : k = n := by omega
      have HF := Lib.hid (show spotsB rs = true from spots_iff.2 ⟨by rw [hn.out]; exact hn0, fun j hj => HA.out j (by rw [hn.out] at hj; exact hj)⟩)
      go_wp2
      go_ret
      exact ⟨retQ_b HF.out.symm, HBW.out⟩
theorem implVS_long (a : Option Addr) (c n : Nat) (rs : List Qt) (w : World) (hn : Hid (rs.length = n)) (hn0 : 16 < n) (hn1 : n ≤ 1048576) :
    Calls Tryd.prog 14 #[.slice a n c] w fun e w' => e = .returned (.bool (spotsB rs)) ∧ Below w.heap.size w w' := by
  have HF := Lib.hid (spots_long (rs := rs) (by rw [hn.out]; exact hn0))
  have hm : 16 < (n : Int) := by omega
  go_enter Tryd.func14, Tryd.ntmps14
  go_wp2
  go_ret
  exact ⟨retQ_b HF.out.symm, Below.refl _ _⟩
theorem implVS_none (a : Option Addr) (c : Nat) (w : World) :
    Calls Tryd.prog 14 #[.slice a 0 c] w fun e w' => e = .returned (.bool (spotsB [])) ∧ Below w.heap.size w w' := by
  go_enter Tryd.func14, Tryd.ntmps14
  go_wp2
  refine wp_loop_rounds 1 ?_
  rw [rounds_succ]
  go_wp2
  go_ret
  exact ⟨rfl, Below.refl _ _⟩
theorem implVS_any (rs : List Qt) (v : Value) (w : World) (h : SpotsAt w v rs) :
    Calls Tryd.prog 14 #[v] w fun e w' => e = .returned (.bool (spotsB rs)) ∧ Below w.heap.size w w' := by
  by_cases h0 : rs.length = 0
  · obtain rfl : rs = [] := List.length_eq_zero_iff.1 h0
    obtain ⟨a, c, rfl⟩ := spots_form h
    exact implVS_none a c w
  · by_cases h1 : rs.length ≤ 16
    · obtain ⟨b, off, cap, rfl, hb, hc⟩ := spots_cells h (by omega)
      exact implVS_some b off cap _ rs w (Lib.hid rfl) h1 hb hc
    · have hl := h.1
      obtain ⟨a, c, rfl⟩ := spots_form h
      exact implVS_long a c _ rs w (Lib.hid rfl) (by omega) hl
end Go.Proofs.YtlhbjchanalnaaaDoor
