/- Ingots: the program's validity. -/
import Derived.Test.YtikoehjalcljnaaIngV
import Derived.Test.YtikoehjalcljnaaNameImplE
import Derived.Test.YtikoehjalcljnaaHand
set_option linter.unusedVariables false
namespace Go.Proofs.Ytikoehjalcljnaa
open Go.ChangeShapes Go.WideShapes Go.ChangeAt Go.RowKit

theorem below_drewG {w w' : World} (hb : Below w.drew.heap.size w.drew w') : Below w.heap.size w w' := ⟨hb.os, hb.tape, hb.output, hb.size, hb.block⟩
theorem keepG {w w' : World} {g : Nat} {u0 u1 u2 u3 u4 : Value} (hz : g < w.heap.size) (g0 : w.cell? ⟨g, 0, none⟩ = some u0) (g1 : w.cell? ⟨g, 1, none⟩ = some u1) (g2 : w.cell? ⟨g, 2, none⟩ = some u2) (g3 : w.cell? ⟨g, 3, none⟩ = some u3) (g4 : w.cell? ⟨g, 4, none⟩ = some u4) (hb : Below w.heap.size w w') :
    w'.cell? ⟨g, 0, none⟩ = some u0 ∧ w'.cell? ⟨g, 1, none⟩ = some u1 ∧ w'.cell? ⟨g, 2, none⟩ = some u2 ∧ w'.cell? ⟨g, 3, none⟩ = some u3 ∧ w'.cell? ⟨g, 4, none⟩ = some u4 ∧ Below w.heap.size w w' :=
  ⟨(hb.cell (p := ⟨g, 0, none⟩) hz).trans g0, (hb.cell (p := ⟨g, 1, none⟩) hz).trans g1, (hb.cell (p := ⟨g, 2, none⟩) hz).trans g2, (hb.cell (p := ⟨g, 3, none⟩) hz).trans g3, (hb.cell (p := ⟨g, 4, none⟩) hz).trans g4, hb⟩
theorem keepG2 {w w' : World} {g b o : Nat} {u0 u1 u2 u3 u4 u5 : Value} (hz : g < w.heap.size) (hbl : b < w.heap.size) (g0 : w.cell? ⟨g, 0, none⟩ = some u0) (g1 : w.cell? ⟨g, 1, none⟩ = some u1) (g2 : w.cell? ⟨g, 2, none⟩ = some u2) (g3 : w.cell? ⟨g, 3, none⟩ = some u3) (g4 : w.cell? ⟨g, 4, none⟩ = some u4) (q0 : w.cell? ⟨b, o, none⟩ = some u5) (hb : Below w.heap.size w w') :
    w'.cell? ⟨g, 0, none⟩ = some u0 ∧ w'.cell? ⟨g, 1, none⟩ = some u1 ∧ w'.cell? ⟨g, 2, none⟩ = some u2 ∧ w'.cell? ⟨g, 3, none⟩ = some u3 ∧ w'.cell? ⟨g, 4, none⟩ = some u4 ∧ w'.cell? ⟨b, o, none⟩ = some u5 ∧ Below w.heap.size w w' :=
  ⟨(hb.cell (p := ⟨g, 0, none⟩) hz).trans g0, (hb.cell (p := ⟨g, 1, none⟩) hz).trans g1, (hb.cell (p := ⟨g, 2, none⟩) hz).trans g2, (hb.cell (p := ⟨g, 3, none⟩) hz).trans g3, (hb.cell (p := ⟨g, 4, none⟩) hz).trans g4, (hb.cell (p := ⟨b, o, none⟩) hbl).trans q0, hb⟩
theorem cellI3G (w : World) (x y z : Int) (T : TypeId) (n : Nat) (hn : n = w.heap.size) : ∀ j, j < 3 → (w.alloc (.cells #[.int .i64 x, .int .i64 y, .int .i64 z] T)).cell? ⟨n, 0 + j, none⟩ = some (.int .i64 ([x, y, z].getD j 0)) := by
  subst hn
  intro j hj
  match j, hj with
  | 0, _ => go_simp
  | 1, _ => go_simp
  | 2, _ => go_simp
theorem cellI1G (w : World) (x : Int) (T : TypeId) (n : Nat) (hn : n = w.heap.size) : ∀ j, j < 1 → (w.alloc (.cells #[.int .i64 x] T)).cell? ⟨n, 0 + j, none⟩ = some (.int .i64 ([x].getD j 0)) := by
  subst hn
  intro j hj
  match j, hj with
  | 0, _ => go_simp
theorem cellI1W (W : World) (x : Int) (n : Nat) (h : W.cell? ⟨n, 0, none⟩ = some (.int .i64 x)) : ∀ j, j < 1 → W.cell? ⟨n, 0 + j, none⟩ = some (.int .i64 ([x].getD j 0)) := by
  intro j hj
  match j, hj with
  | 0, _ => exact h
theorem allI1G (lo hi c : Int) : allIn lo hi [c] = inB c lo hi := by simp [allIn]
theorem allI3G (lo hi x y z : Int) : allIn lo hi [x, y, z] = (inB x lo hi && (inB y lo hi && inB z lo hi)) := by simp [allIn]
set_option maxHeartbeats 1000000 in
theorem implVA_any (x y z : Int) (w : World) :
    Calls Try.prog 21 #[.agg #[.int .i64 x, .int .i64 y, .int .i64 z]] w fun e w' => e = .returned (.bool (alloyB x y z)) ∧ Below w.heap.size w w' := by
  have hB0 := ((Below.refl w.heap.size w).alloc (Nat.le_refl _) (.cells #[.int .i64 x, .int .i64 y, .int .i64 z] 38)).alloc (by simp) (.cells #[.int .i64 x, .int .i64 y, .int .i64 z] 2)
  have HB0 := Lib.hid hB0
  clear hB0
  rcases Bool.eq_false_or_eq_true (inB x 0 1000000 && (inB y 0 1000000 && inB z 0 1000000)) with h1 | h1
  · have HF := Lib.hid (show alloyB x y z = (x + y + z == 1000000) by
      have h1' := h1
      simp only [Bool.and_eq_true] at h1'
      unfold alloyB; rw [h1'.1, h1'.2.1, h1'.2.2]; rfl)
    have H1 := Lib.hid h1
    simp only [Bool.and_eq_true, inB_iff] at h1
    obtain ⟨⟨x0, x1⟩, ⟨y0, y1⟩, z0, z1⟩ := h1
    have hw1 : IntKind.i64.wrap (x + y) = x + y := IntWalk.i64_in _ (by omega)
    have hw2 : IntKind.i64.wrap (x + y + z) = x + y + z := IntWalk.i64_in _ (by omega)
    go_enter Try.func21, Try.ntmps21
    go_wp2_with fail
    refine (within_i64 _ _ [x, y, z] _ 0 3 3 _ rfl (by omega) (cellI3G _ _ _ _ _ _ (by simp))).mono ?_
    rintro e w2 ⟨rfl, rfl⟩
    rw [allI3G, H1.out]
    go_wp2
    go_ret
    exact ⟨retG_b (by first | exact HF.out.symm | (simp only [hw1, hw2]; exact HF.out.symm)), HB0.out⟩
  · have HF := Lib.hid (show alloyB x y z = false by
      unfold alloyB
      revert h1
      cases inB x 0 1000000 <;> cases inB y 0 1000000 <;> cases inB z 0 1000000 <;> simp)
    have H1 := Lib.hid h1
    clear h1
    go_enter Try.func21, Try.ntmps21
    go_wp2_with fail
    refine (within_i64 _ _ [x, y, z] _ 0 3 3 _ rfl (by omega) (cellI3G _ _ _ _ _ _ (by simp))).mono ?_
    rintro e w2 ⟨rfl, rfl⟩
    rw [allI3G, H1.out]
    go_wp2
    go_ret
    exact ⟨retG_b HF.out.symm, HB0.out⟩
set_option maxHeartbeats 2000000 in
theorem implIngValid_any (s : ByteArray) (a x y z : Int) (w : World) (hs : s.size ≤ maxLen) :
    Calls Try.prog 54 #[.agg #[.string s, .int .i64 a, .int .i64 x, .int .i64 y, .int .i64 z]] w fun e w' => e = .returned (.bool (ingB (s, a, x, y, z))) ∧ Below w.heap.size w w' := by
  have HM := Lib.hid (Gblk_new w (s, a, x, y, z) 60)
  have hl : w.heap.size < (w.alloc (Obj.cells #[Value.string s, Value.int IntKind.i64 a, Value.int IntKind.i64 x, Value.int IntKind.i64 y, Value.int IntKind.i64 z] 60)).heap.size := by simp
  have HB := Lib.hid ((Below.refl w.heap.size w).alloc (Nat.le_refl _) (Obj.cells #[Value.string s, Value.int IntKind.i64 a, Value.int IntKind.i64 x, Value.int IntKind.i64 y, Value.int IntKind.i64 z] 60))
  rcases Bool.eq_false_or_eq_true (nameB s) with h1 | h1
  · have H1 := Lib.hid h1
    rcases Bool.eq_false_or_eq_true (inB a 1 20000000) with h2 | h2
    · have H2 := Lib.hid h2
      have HF := Lib.hid (show ingB (s, a, x, y, z) = alloyB x y z by unfold ingB; simp only; rw [h1, h2]; rfl)
      clear h1 h2
      go_enter Try.func54, Try.ntmps54
      go_wp2_with fail
      generalize (w.alloc (Obj.cells #[Value.string s, Value.int IntKind.i64 a, Value.int IntKind.i64 x, Value.int IntKind.i64 y, Value.int IntKind.i64 z] 60)) = wA at *
      refine (implIsName_any s _ hs).mono ?_
      rintro e w2 ⟨rfl, hb⟩
      rw [H1.out]
      obtain ⟨c0, c1, c2, c3, c4⟩ := Gin_kept hb hl HM.out
      simp only at c0 c1 c2 c3 c4
      have hl2 := Nat.lt_of_lt_of_le hl hb.size
      have HB2 := Lib.hid (below_of HB.out hb HB.out.size)
      have hba := below_alG w2 (.cells #[.int .i64 a] 2)
      have HC5 := Lib.hid (cellI1G w2 a 2 _ rfl)
      obtain ⟨d0, d1, d2, d3, d4⟩ := Gin_kept (r := (s, a, x, y, z)) hba hl2 ⟨c0, c1, c2, c3, c4⟩
      simp only at d0 d1 d2 d3 d4
      have HB3 := Lib.hid (below_of HB2.out hba HB2.out.size)
      clear hb hba
      go_wp2_with fail
      refine (within_i64 _ _ [a] _ 0 1 1 _ rfl (by omega) HC5.out).mono ?_
      rintro e w3 ⟨rfl, rfl⟩
      rw [allI1G, H2.out]
      clear c0 c1 c2 c3 c4
      generalize (w2.alloc (.cells #[.int .i64 a] 2)) = w3 at *
      go_wp2_with fail
      refine (implVA_any x y z _).mono ?_
      rintro e w4 ⟨rfl, hb⟩
      have HB4 := Lib.hid (below_of HB3.out hb HB3.out.size)
      clear hb
      go_wp2
      go_ret
      exact ⟨retG_b HF.out.symm, HB4.out⟩
    · have H2 := Lib.hid h2
      have HF := Lib.hid (show ingB (s, a, x, y, z) = false by unfold ingB; simp only; rw [h1, h2]; rfl)
      clear h1 h2
      go_enter Try.func54, Try.ntmps54
      go_wp2_with fail
      generalize (w.alloc (Obj.cells #[Value.string s, Value.int IntKind.i64 a, Value.int IntKind.i64 x, Value.int IntKind.i64 y, Value.int IntKind.i64 z] 60)) = wA at *
      refine (implIsName_any s _ hs).mono ?_
      rintro e w2 ⟨rfl, hb⟩
      rw [H1.out]
      obtain ⟨c0, c1, c2, c3, c4⟩ := Gin_kept hb hl HM.out
      simp only at c0 c1 c2 c3 c4
      have hl2 := Nat.lt_of_lt_of_le hl hb.size
      have HB2 := Lib.hid (below_of HB.out hb HB.out.size)
      have hba := below_alG w2 (.cells #[.int .i64 a] 2)
      have HC5 := Lib.hid (cellI1G w2 a 2 _ rfl)
      have HB3 := Lib.hid (below_of HB2.out hba HB2.out.size)
      clear hb hba
      go_wp2_with fail
      refine (within_i64 _ _ [a] _ 0 1 1 _ rfl (by omega) HC5.out).mono ?_
      rintro e w3 ⟨rfl, rfl⟩
      rw [allI1G, H2.out]
      clear c0 c1 c2 c3 c4
      generalize (w2.alloc (.cells #[.int .i64 a] 2)) = w3 at *
      go_wp2
      go_ret
      exact ⟨retG_b HF.out.symm, HB3.out⟩
  · have H1 := Lib.hid h1
    have HF := Lib.hid (show ingB (s, a, x, y, z) = false by unfold ingB; simp only; rw [h1]; rfl)
    clear h1
    go_enter Try.func54, Try.ntmps54
    go_wp2_with fail
    generalize (w.alloc (Obj.cells #[Value.string s, Value.int IntKind.i64 a, Value.int IntKind.i64 x, Value.int IntKind.i64 y, Value.int IntKind.i64 z] 60)) = wA at *
    refine (implIsName_any s _ hs).mono ?_
    rintro e w2 ⟨rfl, hb⟩
    rw [H1.out]
    have HB2 := Lib.hid (below_of HB.out hb HB.out.size)
    clear hb
    go_wp2
    go_ret
    exact ⟨retG_b HF.out.symm, HB2.out⟩
set_option maxRecDepth 20000 in
set_option maxHeartbeats 8000000 in
theorem implVI_some (b off cap n : Nat) (rs : List Gt) (w : World) (hn : Hid (rs.length = n)) (hn0 : n ≤ 16) (hbl : b < w.heap.size) (hc : ∀ i, i < n → GIn w b (off + i * 5) (rs.getD i zG)) (hz : SzOkG rs) :
    Calls Try.prog 25 #[.slice (some ⟨b, off, none⟩) n cap] w fun e w' => e = .returned (.bool (ingsB rs)) ∧ Below w.heap.size w w' := by
  have HC := Lib.hid hc
  have HZ := Lib.hid hz
  have HNO := Lib.hid (fun i (hi : i < rs.length) h => ings_no (rs := rs) (i := i) hi h)
  have hm : ¬ 16 < (n : Int) := by omega
  clear hc hz
  go_enter Try.func25, Try.ntmps25
  go_wp2
  go_loopw [10] (fun i wr => ∃ k : Nat, k ≤ n ∧ i = .int .i64 k ∧ Hid (∀ j, j < k → okG rs j = true) ∧ Below w.heap.size w wr) (fun i _ => n - (intOf i).toNat)
  case atStart => exact ⟨0, by omega, rfl, Lib.hid (fun j hj => by omega), Below.refl _ _⟩
  case round =>
    obtain ⟨k, hk, rfl, HA, hbw⟩ := hrel
    have HBW := Lib.hid hbw
    clear hbw
    by_cases hlt : k < n
    · have hr := HC.out k hlt
      have hs := HZ.out k (by rw [hn.out]; exact hlt)
      obtain ⟨⟨s, a, x, y, z⟩, hxyz⟩ : ∃ r, rs.getD k zG = r := ⟨_, rfl⟩
      rw [hxyz] at hr hs
      have HXYZ := Lib.hid hxyz
      have HS := Lib.hid (show s.size ≤ maxLen from hs)
      have e0 : wr.cell? ⟨b, off + k * 5, none⟩ = some (.string s) := (below_cell HBW.out _ _ hbl).trans hr.c0
      have e1 : wr.cell? ⟨b, off + k * 5 + 1, none⟩ = some (.int .i64 a) := (below_cell HBW.out _ _ hbl).trans hr.c1
      have e2 : wr.cell? ⟨b, off + k * 5 + 2, none⟩ = some (.int .i64 x) := (below_cell HBW.out _ _ hbl).trans hr.c2
      have e3 : wr.cell? ⟨b, off + k * 5 + 3, none⟩ = some (.int .i64 y) := (below_cell HBW.out _ _ hbl).trans hr.c3
      have e4 : wr.cell? ⟨b, off + k * 5 + 4, none⟩ = some (.int .i64 z) := (below_cell HBW.out _ _ hbl).trans hr.c4
      have hkm : (k : Int) < (n : Int) := by omega
      have hk0 : (0 : Int) ≤ (k : Int) := by omega
      clear hr hxyz hs
      go_wp2
      have hzA : wr.heap.size < (wr.alloc (Obj.cells #[Value.string s, Value.int IntKind.i64 a, Value.int IntKind.i64 x, Value.int IntKind.i64 y, Value.int IntKind.i64 z] 60)).heap.size := by simp
      have hbA := (Below.refl wr.heap.size wr).alloc (Nat.le_refl _) (Obj.cells #[Value.string s, Value.int IntKind.i64 a, Value.int IntKind.i64 x, Value.int IntKind.i64 y, Value.int IntKind.i64 z] 60)
      have g0 : (wr.alloc (Obj.cells #[Value.string s, Value.int IntKind.i64 a, Value.int IntKind.i64 x, Value.int IntKind.i64 y, Value.int IntKind.i64 z] 60)).cell? ⟨wr.heap.size, 0, none⟩ = some (.string s) := by go_simp
      have g1 : (wr.alloc (Obj.cells #[Value.string s, Value.int IntKind.i64 a, Value.int IntKind.i64 x, Value.int IntKind.i64 y, Value.int IntKind.i64 z] 60)).cell? ⟨wr.heap.size, 1, none⟩ = some (.int .i64 a) := by go_simp
      have g2 : (wr.alloc (Obj.cells #[Value.string s, Value.int IntKind.i64 a, Value.int IntKind.i64 x, Value.int IntKind.i64 y, Value.int IntKind.i64 z] 60)).cell? ⟨wr.heap.size, 2, none⟩ = some (.int .i64 x) := by go_simp
      have g3 : (wr.alloc (Obj.cells #[Value.string s, Value.int IntKind.i64 a, Value.int IntKind.i64 x, Value.int IntKind.i64 y, Value.int IntKind.i64 z] 60)).cell? ⟨wr.heap.size, 3, none⟩ = some (.int .i64 y) := by go_simp
      have g4 : (wr.alloc (Obj.cells #[Value.string s, Value.int IntKind.i64 a, Value.int IntKind.i64 x, Value.int IntKind.i64 y, Value.int IntKind.i64 z] 60)).cell? ⟨wr.heap.size, 4, none⟩ = some (.int .i64 z) := by go_simp
      have HBA := Lib.hid (below_of HBW.out hbA HBW.out.size)
      clear hbA e0 e1 e2 e3 e4
      generalize (wr.alloc (Obj.cells #[Value.string s, Value.int IntKind.i64 a, Value.int IntKind.i64 x, Value.int IntKind.i64 y, Value.int IntKind.i64 z] 60)) = wA at *
      rcases Bool.eq_false_or_eq_true (ingB (s, a, x, y, z)) with h4 | h4
      · have H4 := Lib.hid h4
        by_cases hkz : k = 0
        · have HOK := Lib.hid (show okG rs k = true by unfold okG; rw [HXYZ.out, h4, decide_eq_true hkz]; rfl)
          have hg2 : decide ((0 : Int) < (k : Int)) = false := decide_eq_false (by omega)
          have hg3 : decide (0 < k) = false := decide_eq_false (by omega)
          clear h4 hkz
          refine wp_region_held_drew (S := fun w' => w'.cell? ⟨wr.heap.size, 0, none⟩ = some (.string s) ∧ w'.cell? ⟨wr.heap.size, 1, none⟩ = some (.int .i64 a) ∧ w'.cell? ⟨wr.heap.size, 2, none⟩ = some (.int .i64 x) ∧ w'.cell? ⟨wr.heap.size, 3, none⟩ = some (.int .i64 y) ∧ w'.cell? ⟨wr.heap.size, 4, none⟩ = some (.int .i64 z) ∧ Below wA.heap.size wA w') (by kernel_rfl) (⟨g0, g1, g2, g3, g4, ⟨rfl, rfl, rfl, Nat.le_refl _, fun _ _ => rfl⟩⟩) (fun hHeld => ?_)
          refine takeH 0 (some 15) (.agg #[.string s, .int .i64 a, .int .i64 x, .int .i64 y, .int .i64 z]) hHeld rfl rfl (by rfl) (by kernel_rfl) (by kernel_rfl) (by kernel_rfl) (fun _ _ _ h => h) (fun wS hSw => ?_) ?_
          · ((try dsimp only at hSw); go_simp; try with_reducible rfl)
          simp only [Act.put, List.setIfInBounds_toArray, List.set_cons_zero, List.set_cons_succ]
          refine loneH 1 (some 16) rfl rfl (by kernel_rfl) (by rfl) (fun K hK => ?_)
          go_simp; refine (implIngValid_any s a x y z wA.drew HS.out).mono ?_; rintro e w6 ⟨rfl, hb6⟩; rw [H4.out]
          refine hK.out _ _ (keepG hzA g0 g1 g2 g3 g4 (below_drewG hb6)) (fun hHeld2 => ?_)
          clear hK K hHeld
          have hHeld := hHeld2
          clear hHeld2
          simp only [Act.put, List.setIfInBounds_toArray, List.set_cons_zero, List.set_cons_succ]
          refine takeH 2 (some 17) (.bool false) hHeld rfl rfl (by rfl) (by kernel_rfl) (by kernel_rfl) (by kernel_rfl) (fun _ _ _ h => h) (fun wS hSw => ?_) ?_
          · ((try dsimp only at hSw); go_simp; try with_reducible rfl)
          simp only [Act.put, List.setIfInBounds_toArray, List.set_cons_zero, List.set_cons_succ]
          refine takeH 3 (some 18) (.bool false) hHeld rfl rfl (by rfl) (by kernel_rfl) (by kernel_rfl) (by kernel_rfl) (fun _ _ _ h => h) (fun wS hSw => ?_) ?_
          · ((try dsimp only at hSw); go_simp; try with_reducible rfl)
          simp only [Act.put, List.setIfInBounds_toArray, List.set_cons_zero, List.set_cons_succ]
          refine takeH 4 (some 19) (.int .i64 k) hHeld rfl rfl (by rfl) (by kernel_rfl) (by kernel_rfl) (by kernel_rfl) (fun _ _ _ h => h) (fun wS hSw => ?_) ?_
          · ((try dsimp only at hSw); go_simp; try with_reducible rfl)
          simp only [Act.put, List.setIfInBounds_toArray, List.set_cons_zero, List.set_cons_succ]
          refine takeH 5 (some 20) (.bool false) hHeld rfl rfl (by rfl) (by kernel_rfl) (by kernel_rfl) (by kernel_rfl) (fun _ _ _ h => h) (fun wS hSw => ?_) ?_
          · ((try dsimp only at hSw); go_simp; try with_reducible rfl)
          simp only [Act.put, List.setIfInBounds_toArray, List.set_cons_zero, List.set_cons_succ]
          refine takeH 6 (some 21) (.bool false) hHeld rfl rfl (by rfl) (by kernel_rfl) (by kernel_rfl) (by kernel_rfl) (fun _ _ _ h => h) (fun wS hSw => ?_) ?_
          · ((try dsimp only at hSw); go_simp; try with_reducible rfl)
          simp only [Act.put, List.setIfInBounds_toArray, List.set_cons_zero, List.set_cons_succ]
          refine skipH 7 (some 22) hHeld rfl (by rfl) (by kernel_rfl) (by kernel_rfl) (by kernel_rfl) (fun _ _ _ h => h) ?_
          simp only [Act.put, List.setIfInBounds_toArray, List.set_cons_zero, List.set_cons_succ]
          refine skipH 8 (some 23) hHeld rfl (by rfl) (by kernel_rfl) (by kernel_rfl) (by kernel_rfl) (fun _ _ _ h => h) ?_
          simp only [Act.put, List.setIfInBounds_toArray, List.set_cons_zero, List.set_cons_succ]
          refine skipH 9 (some 24) hHeld rfl (by rfl) (by kernel_rfl) (by kernel_rfl) (by kernel_rfl) (fun _ _ _ h => h) ?_
          simp only [Act.put, List.setIfInBounds_toArray, List.set_cons_zero, List.set_cons_succ]
          refine skipH 10 (some 25) hHeld rfl (by rfl) (by kernel_rfl) (by kernel_rfl) (by kernel_rfl) (fun _ _ _ h => h) ?_
          simp only [Act.put, List.setIfInBounds_toArray, List.set_cons_zero, List.set_cons_succ]
          refine skipH 11 (some 26) hHeld rfl (by rfl) (by kernel_rfl) (by kernel_rfl) (by kernel_rfl) (fun _ _ _ h => h) ?_
          simp only [Act.put, List.setIfInBounds_toArray, List.set_cons_zero, List.set_cons_succ]
          refine skipH 12 (some 27) hHeld rfl (by rfl) (by kernel_rfl) (by kernel_rfl) (by kernel_rfl) (fun _ _ _ h => h) ?_
          simp only [Act.put, List.setIfInBounds_toArray, List.set_cons_zero, List.set_cons_succ]
          refine skipH 13 (some 28) hHeld rfl (by rfl) (by kernel_rfl) (by kernel_rfl) (by kernel_rfl) (fun _ _ _ h => h) ?_
          simp only [Act.put, List.setIfInBounds_toArray, List.set_cons_zero, List.set_cons_succ]
          refine skipH 14 (some 29) hHeld rfl (by rfl) (by kernel_rfl) (by kernel_rfl) (by kernel_rfl) (fun _ _ _ h => h) ?_
          simp only [Act.put, List.setIfInBounds_toArray, List.set_cons_zero, List.set_cons_succ]
          refine skipH 15 (some 30) hHeld rfl (by rfl) (by kernel_rfl) (by kernel_rfl) (by kernel_rfl) (fun _ _ _ h => h) ?_
          simp only [Act.put, List.setIfInBounds_toArray, List.set_cons_zero, List.set_cons_succ]
          refine takeH 16 (some 31) (.bool false) hHeld rfl rfl (by rfl) (by kernel_rfl) (by kernel_rfl) (by kernel_rfl) (fun _ _ _ h => h) (fun wS hSw => ?_) ?_
          · ((try dsimp only at hSw); go_simp; try with_reducible rfl)
          simp only [Act.put, List.setIfInBounds_toArray, List.set_cons_zero, List.set_cons_succ]
          refine takeH 17 (some 32) (.bool false) hHeld rfl rfl (by rfl) (by kernel_rfl) (by kernel_rfl) (by kernel_rfl) (fun _ _ _ h => h) (fun wS hSw => ?_) ?_
          · ((try dsimp only at hSw); go_simp; try with_reducible rfl)
          simp only [Act.put, List.setIfInBounds_toArray, List.set_cons_zero, List.set_cons_succ]
          refine wpAnyH_done (by kernel_rfl) ?_ _
          obtain ⟨k0, k1, k2, k3, k4, kb⟩ := hHeld
          have HBR := Lib.hid (below_of HBA.out kb HBA.out.size)
          clear g0 g1 g2 g3 g4 kb
          go_wp2
          go_roundw
          case rel => exact ⟨k + 1, by omega, by go_num, Lib.hid (fun j hj => by
            by_cases e : j = k
            · subst e; exact HOK.out
            · exact HA.out j (by omega)), HBR.out⟩
          case measure => simp [intOf]; omega
        · obtain ⟨q, hq⟩ : ∃ q, k = q + 1 := ⟨k - 1, by omega⟩
          have hr2 := HC.out q (by omega)
          obtain ⟨⟨s2, a2, x2, y2, z2⟩, hx2⟩ : ∃ r, rs.getD q zG = r := ⟨_, rfl⟩
          rw [hx2] at hr2
          have hblA : b < wA.heap.size := by have := HBA.out.size; omega
          have q0 : wA.cell? ⟨b, off + q * 5, none⟩ = some (.string s2) := (below_cell HBA.out _ _ hbl).trans hr2.c0
          have hg : (0 : Int) < (k : Int) := by omega
          have hg2 : 0 < k := by omega
          have hg3 : decide (0 < k) = true := decide_eq_true hg2
          have hq0 : (0 : Int) ≤ (q : Int) := by omega
          have hq1 : (q : Int) < (n : Int) := by omega
          have hw1 : IntKind.i64.wrap ((k : Int) - 1) = (q : Int) := by rw [show ((k : Int) - 1) = (q : Int) by omega]; exact IntWalk.i64_in _ (by omega)
          have HQ := Lib.hid hq
          obtain ⟨jj, h5⟩ : ∃ jj, (Op.bytesLess s.toList s2.toList || s.toList == s2.toList) = jj := ⟨_, rfl⟩
          have HJ := Lib.hid (show okG rs k = !jj by
            unfold okG; rw [HXYZ.out, h4, decide_eq_false hkz, show k - 1 = q by omega, hx2, ← h5, less_flip]
            simp [lessS])
          clear hr2 hx2 h4 hq hkz
          go_region_held3 (fun w' => w'.cell? ⟨wr.heap.size, 0, none⟩ = some (.string s) ∧ w'.cell? ⟨wr.heap.size, 1, none⟩ = some (.int .i64 a) ∧ w'.cell? ⟨wr.heap.size, 2, none⟩ = some (.int .i64 x) ∧ w'.cell? ⟨wr.heap.size, 3, none⟩ = some (.int .i64 y) ∧ w'.cell? ⟨wr.heap.size, 4, none⟩ = some (.int .i64 z) ∧ w'.cell? ⟨b, off + q * 5, none⟩ = some (.string s2) ∧ Below wA.heap.size wA w')
            (first | exact ⟨g0, g1, g2, g3, g4, q0, ⟨rfl, rfl, rfl, Nat.le_refl _, fun _ _ => rfl⟩⟩ | exact keepG2 hzA hblA g0 g1 g2 g3 g4 q0 (below_drewG hb6) | assumption)
            (first | (go_at_call 54; refine (implIngValid_any s a x y z wA.drew HS.out).mono ?_; rintro e w6 ⟨rfl, hb6⟩; rw [H4.out]))
          have kb : Below wA.heap.size wA w6 := below_drewG hb6
          clear hb6
          have HBR := Lib.hid (below_of HBA.out kb HBA.out.size)
          clear kb g0 g1 g2 g3 g4 q0
          cases jj
          · have HOK := Lib.hid (show okG rs k = true by rw [HJ.out]; rfl)
            try rw [h5]
            go_wp2
            go_roundw
            case rel => exact ⟨k + 1, by omega, by go_num, Lib.hid (fun j hj => by
              by_cases e : j = k
              · subst e; exact HOK.out
              · exact HA.out j (by omega)), HBR.out⟩
            case measure => simp [intOf]; omega
          · have HF := Lib.hid (HNO.out k (by rw [hn.out]; exact hlt) (by rw [HJ.out]; rfl))
            try rw [h5]
            go_wp2
            go_ret
            exact ⟨retG_b HF.out.symm, HBR.out⟩
      · have H4 := Lib.hid h4
        have HF := Lib.hid (HNO.out k (by rw [hn.out]; exact hlt) (by unfold okG; rw [HXYZ.out, h4]; rfl))
        clear h4
        refine wp_region_held_drew (S := fun w' => w'.cell? ⟨wr.heap.size, 0, none⟩ = some (.string s) ∧ w'.cell? ⟨wr.heap.size, 1, none⟩ = some (.int .i64 a) ∧ w'.cell? ⟨wr.heap.size, 2, none⟩ = some (.int .i64 x) ∧ w'.cell? ⟨wr.heap.size, 3, none⟩ = some (.int .i64 y) ∧ w'.cell? ⟨wr.heap.size, 4, none⟩ = some (.int .i64 z) ∧ Below wA.heap.size wA w') (by kernel_rfl) (⟨g0, g1, g2, g3, g4, ⟨rfl, rfl, rfl, Nat.le_refl _, fun _ _ => rfl⟩⟩) (fun hHeld => ?_)
        refine takeH 0 (some 15) (.agg #[.string s, .int .i64 a, .int .i64 x, .int .i64 y, .int .i64 z]) hHeld rfl rfl (by rfl) (by kernel_rfl) (by kernel_rfl) (by kernel_rfl) (fun _ _ _ h => h) (fun wS hSw => ?_) ?_
        · ((try dsimp only at hSw); go_simp; try with_reducible rfl)
        simp only [Act.put, List.setIfInBounds_toArray, List.set_cons_zero, List.set_cons_succ]
        refine loneH 1 (some 16) rfl rfl (by kernel_rfl) (by rfl) (fun K hK => ?_)
        go_simp; refine (implIngValid_any s a x y z wA.drew HS.out).mono ?_; rintro e w6 ⟨rfl, hb6⟩; rw [H4.out]
        refine hK.out _ _ (keepG hzA g0 g1 g2 g3 g4 (below_drewG hb6)) (fun hHeld2 => ?_)
        clear hK K hHeld
        have hHeld := hHeld2
        clear hHeld2
        simp only [Act.put, List.setIfInBounds_toArray, List.set_cons_zero, List.set_cons_succ]
        refine takeH 2 (some 17) (.bool true) hHeld rfl rfl (by rfl) (by kernel_rfl) (by kernel_rfl) (by kernel_rfl) (fun _ _ _ h => h) (fun wS hSw => ?_) ?_
        · ((try dsimp only at hSw); go_simp; try with_reducible rfl)
        simp only [Act.put, List.setIfInBounds_toArray, List.set_cons_zero, List.set_cons_succ]
        refine takeH 3 (some 18) (.bool true) hHeld rfl rfl (by rfl) (by kernel_rfl) (by kernel_rfl) (by kernel_rfl) (fun _ _ _ h => h) (fun wS hSw => ?_) ?_
        · ((try dsimp only at hSw); go_simp; try with_reducible rfl)
        simp only [Act.put, List.setIfInBounds_toArray, List.set_cons_zero, List.set_cons_succ]
        refine skipH 4 (some 19) hHeld rfl (by rfl) (by kernel_rfl) (by kernel_rfl) (by kernel_rfl) (fun _ _ _ h => h) ?_
        simp only [Act.put, List.setIfInBounds_toArray, List.set_cons_zero, List.set_cons_succ]
        refine skipH 5 (some 20) hHeld rfl (by rfl) (by kernel_rfl) (by kernel_rfl) (by kernel_rfl) (fun _ _ _ h => h) ?_
        simp only [Act.put, List.setIfInBounds_toArray, List.set_cons_zero, List.set_cons_succ]
        refine skipH 6 (some 21) hHeld rfl (by rfl) (by kernel_rfl) (by kernel_rfl) (by kernel_rfl) (fun _ _ _ h => h) ?_
        simp only [Act.put, List.setIfInBounds_toArray, List.set_cons_zero, List.set_cons_succ]
        refine skipH 7 (some 22) hHeld rfl (by rfl) (by kernel_rfl) (by kernel_rfl) (by kernel_rfl) (fun _ _ _ h => h) ?_
        simp only [Act.put, List.setIfInBounds_toArray, List.set_cons_zero, List.set_cons_succ]
        refine skipH 8 (some 23) hHeld rfl (by rfl) (by kernel_rfl) (by kernel_rfl) (by kernel_rfl) (fun _ _ _ h => h) ?_
        simp only [Act.put, List.setIfInBounds_toArray, List.set_cons_zero, List.set_cons_succ]
        refine skipH 9 (some 24) hHeld rfl (by rfl) (by kernel_rfl) (by kernel_rfl) (by kernel_rfl) (fun _ _ _ h => h) ?_
        simp only [Act.put, List.setIfInBounds_toArray, List.set_cons_zero, List.set_cons_succ]
        refine skipH 10 (some 25) hHeld rfl (by rfl) (by kernel_rfl) (by kernel_rfl) (by kernel_rfl) (fun _ _ _ h => h) ?_
        simp only [Act.put, List.setIfInBounds_toArray, List.set_cons_zero, List.set_cons_succ]
        refine skipH 11 (some 26) hHeld rfl (by rfl) (by kernel_rfl) (by kernel_rfl) (by kernel_rfl) (fun _ _ _ h => h) ?_
        simp only [Act.put, List.setIfInBounds_toArray, List.set_cons_zero, List.set_cons_succ]
        refine skipH 12 (some 27) hHeld rfl (by rfl) (by kernel_rfl) (by kernel_rfl) (by kernel_rfl) (fun _ _ _ h => h) ?_
        simp only [Act.put, List.setIfInBounds_toArray, List.set_cons_zero, List.set_cons_succ]
        refine skipH 13 (some 28) hHeld rfl (by rfl) (by kernel_rfl) (by kernel_rfl) (by kernel_rfl) (fun _ _ _ h => h) ?_
        simp only [Act.put, List.setIfInBounds_toArray, List.set_cons_zero, List.set_cons_succ]
        refine skipH 14 (some 29) hHeld rfl (by rfl) (by kernel_rfl) (by kernel_rfl) (by kernel_rfl) (fun _ _ _ h => h) ?_
        simp only [Act.put, List.setIfInBounds_toArray, List.set_cons_zero, List.set_cons_succ]
        refine skipH 15 (some 30) hHeld rfl (by rfl) (by kernel_rfl) (by kernel_rfl) (by kernel_rfl) (fun _ _ _ h => h) ?_
        simp only [Act.put, List.setIfInBounds_toArray, List.set_cons_zero, List.set_cons_succ]
        refine skipH 16 (some 31) hHeld rfl (by rfl) (by kernel_rfl) (by kernel_rfl) (by kernel_rfl) (fun _ _ _ h => h) ?_
        simp only [Act.put, List.setIfInBounds_toArray, List.set_cons_zero, List.set_cons_succ]
        refine takeH 17 (some 32) (.bool true) hHeld rfl rfl (by rfl) (by kernel_rfl) (by kernel_rfl) (by kernel_rfl) (fun _ _ _ h => h) (fun wS hSw => ?_) ?_
        · ((try dsimp only at hSw); go_simp; try with_reducible rfl)
        simp only [Act.put, List.setIfInBounds_toArray, List.set_cons_zero, List.set_cons_succ]
        refine wpAnyH_done (by kernel_rfl) ?_ _
        obtain ⟨k0, k1, k2, k3, k4, kb⟩ := hHeld
        have HBR := Lib.hid (below_of HBA.out kb HBA.out.size)
        clear kb
        go_wp2
        go_ret
        exact ⟨retG_b HF.out.symm, HBR.out⟩
    · obtain rfl : k = n := by omega
      have HF := Lib.hid (show ingsB rs = true from ings_iff.2 ⟨by rw [hn.out]; exact hn0, fun j hj => HA.out j (by rw [hn.out] at hj; exact hj)⟩)
      go_wp2
      go_ret
      exact ⟨retG_b HF.out.symm, HBW.out⟩
theorem implVI_long (a : Option Addr) (c n : Nat) (rs : List Gt) (w : World) (hn : Hid (rs.length = n)) (hn0 : 16 < n) (hn1 : n ≤ 1048576) :
    Calls Try.prog 25 #[.slice a n c] w fun e w' => e = .returned (.bool (ingsB rs)) ∧ Below w.heap.size w w' := by
  have HF := Lib.hid (ings_long (rs := rs) (by rw [hn.out]; exact hn0))
  have hm : 16 < (n : Int) := by omega
  go_enter Try.func25, Try.ntmps25
  go_wp2
  go_ret
  exact ⟨retG_b HF.out.symm, Below.refl _ _⟩
theorem implVI_none (a : Option Addr) (c : Nat) (w : World) :
    Calls Try.prog 25 #[.slice a 0 c] w fun e w' => e = .returned (.bool (ingsB [])) ∧ Below w.heap.size w w' := by
  go_enter Try.func25, Try.ntmps25
  go_wp2
  refine wp_loop_rounds 1 ?_
  rw [rounds_succ]
  go_wp2
  go_ret
  exact ⟨rfl, Below.refl _ _⟩
theorem implVI_any (rs : List Gt) (v : Value) (w : World) (h : IngsAt w v rs) (hz : SzOkG rs) :
    Calls Try.prog 25 #[v] w fun e w' => e = .returned (.bool (ingsB rs)) ∧ Below w.heap.size w w' := by
  by_cases h0 : rs.length = 0
  · obtain rfl : rs = [] := List.length_eq_zero_iff.1 h0
    obtain ⟨a, c, rfl⟩ := ings_form h
    exact implVI_none a c w
  · have hl := h.1
    by_cases hlong : 16 < rs.length
    · obtain ⟨a, c, rfl⟩ := ings_form h
      exact implVI_long a c _ rs w (Lib.hid rfl) hlong hl
    · obtain ⟨b, off, cap, rfl, hb, hc⟩ := ings_cells h (by omega)
      exact implVI_some b off cap _ rs w (Lib.hid rfl) (by omega) hb hc hz
end Go.Proofs.Ytikoehjalcljnaa
