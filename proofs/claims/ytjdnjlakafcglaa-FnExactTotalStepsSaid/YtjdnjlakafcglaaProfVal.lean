/- Profiles: the program's validity. -/
import Derived.Test.YtjdnjlakafcglaaProfImpl
import Derived.Test.YtjdnjlakafcglaaHand
namespace Go.Proofs.Ytjdnjlakafcglaa
open Go.ChangeShapes Go.WideShapes Go.ChangeAt Go.RowKit

theorem cell_int1 (w : World) (x : Int) (T : TypeId) (n : Nat) (hn : n = w.heap.size) : ∀ j, j < 1 → (w.alloc (.cells #[.int .i64 x] T)).cell? ⟨n, 0 + j, none⟩ = some (.int .i64 ([x].getD j 0)) := cell_int w x T n hn
theorem ok_ring {rs : List Rg} {i : Nat} (h : okAt rs i = true) : ringB (rs.getD i zR) = true := by
  unfold okAt at h
  rw [Bool.and_eq_true] at h
  exact h.1
theorem heights_bd2 {rs : List Rg} (k : Nat) (h : ∀ i, i < k → ringB (rs.getD i zR) = true) (hk : k ≤ rs.length) : 0 ≤ heights (rs.take k) ∧ heights (rs.take k) ≤ 300000 * k := by
  induction k with
  | zero => simp [heights]
  | succ k ih =>
    have i1 := ih (fun i hi => h i (by omega)) (by omega)
    have i2 := (ring_iff.1 (h k (by omega))).2.2
    rw [heights_next rs k (by omega)]
    omega
theorem keepA {w w' : World} {g : Nat} {u0 u1 u2 : Value} (hz : g < w.heap.size) (g0 : w.cell? ⟨g, 0, none⟩ = some u0) (g1 : w.cell? ⟨g, 1, none⟩ = some u1) (g2 : w.cell? ⟨g, 2, none⟩ = some u2) (hb : Below w.heap.size w w') :
    w'.cell? ⟨g, 0, none⟩ = some u0 ∧ w'.cell? ⟨g, 1, none⟩ = some u1 ∧ w'.cell? ⟨g, 2, none⟩ = some u2 ∧ Below w.heap.size w w' :=
  ⟨(hb.cell (p := ⟨g, 0, none⟩) hz).trans g0, (hb.cell (p := ⟨g, 1, none⟩) hz).trans g1, (hb.cell (p := ⟨g, 2, none⟩) hz).trans g2, hb⟩
theorem keepA2 {w w' : World} {g p m : Nat} {u0 u1 u2 u3 : Value} (hz : g < w.heap.size) (hp : p < w.heap.size) (g0 : w.cell? ⟨g, 0, none⟩ = some u0) (g1 : w.cell? ⟨g, 1, none⟩ = some u1) (g2 : w.cell? ⟨g, 2, none⟩ = some u2) (p1 : w.cell? ⟨p, m, none⟩ = some u3) (hb : Below w.heap.size w w') :
    w'.cell? ⟨g, 0, none⟩ = some u0 ∧ w'.cell? ⟨g, 1, none⟩ = some u1 ∧ w'.cell? ⟨g, 2, none⟩ = some u2 ∧ w'.cell? ⟨p, m, none⟩ = some u3 ∧ Below w.heap.size w w' :=
  ⟨(hb.cell (p := ⟨g, 0, none⟩) hz).trans g0, (hb.cell (p := ⟨g, 1, none⟩) hz).trans g1, (hb.cell (p := ⟨g, 2, none⟩) hz).trans g2, (hb.cell (p := ⟨p, m, none⟩) hp).trans p1, hb⟩
theorem keepB {w w' : World} {g p b o m : Nat} {u0 u1 u2 u3 u4 u5 u6 : Value} (hz : g < w.heap.size) (hp : p < w.heap.size) (hbl : b < w.heap.size) (g0 : w.cell? ⟨g, 0, none⟩ = some u0) (g1 : w.cell? ⟨g, 1, none⟩ = some u1) (g2 : w.cell? ⟨g, 2, none⟩ = some u2)
    (p1 : w.cell? ⟨p, m, none⟩ = some u3) (q0 : w.cell? ⟨b, o, none⟩ = some u4) (q1 : w.cell? ⟨b, o + 1, none⟩ = some u5) (q2 : w.cell? ⟨b, o + 2, none⟩ = some u6) (hb : Below w.heap.size w w') :
    w'.cell? ⟨g, 0, none⟩ = some u0 ∧ w'.cell? ⟨g, 1, none⟩ = some u1 ∧ w'.cell? ⟨g, 2, none⟩ = some u2 ∧ w'.cell? ⟨p, m, none⟩ = some u3 ∧ w'.cell? ⟨b, o, none⟩ = some u4 ∧ w'.cell? ⟨b, o + 1, none⟩ = some u5 ∧ w'.cell? ⟨b, o + 2, none⟩ = some u6 ∧ Below w.heap.size w w' :=
  ⟨(hb.cell (p := ⟨g, 0, none⟩) hz).trans g0, (hb.cell (p := ⟨g, 1, none⟩) hz).trans g1, (hb.cell (p := ⟨g, 2, none⟩) hz).trans g2, (hb.cell (p := ⟨p, m, none⟩) hp).trans p1,
    (hb.cell (p := ⟨b, o, none⟩) hbl).trans q0, (hb.cell (p := ⟨b, o + 1, none⟩) hbl).trans q1, (hb.cell (p := ⟨b, o + 2, none⟩) hbl).trans q2, hb⟩
theorem below_drew {w w' : World} (hb : Below w.drew.heap.size w.drew w') : Below w.heap.size w w' := ⟨hb.os, hb.tape, hb.output, hb.size, hb.block⟩
set_option maxRecDepth 20000 in
set_option maxHeartbeats 4000000 in
theorem implValidP_any (s : ByteArray) (v : Value) (rs : List Rg) (w : World) (h : RingsAt w v rs) (hs : s.size ≤ maxLen) :
    Calls Try.prog 94 #[.agg #[.string s, v]] w fun e w' => e = .returned (.bool (profB s rs)) ∧ Below w.heap.size w w' := by
  have HI := Lib.hid h
  obtain ⟨a, c, rfl⟩ := rings_form h
  have hl := h.1
  clear h
  generalize hn : rs.length = n at *
  have HN := Lib.hid hn
  clear hn
  rcases Bool.eq_false_or_eq_true (nameB s) with h1 | h1
  · by_cases h2 : 1 ≤ n ∧ n ≤ 32
    · obtain ⟨n1, n2⟩ := h2
      have HE := Lib.hid (fun h3 => prof_end (s := s) (rs := rs) h1 (by rw [HN.out]; exact ⟨n1, n2⟩) h3)
      have HNO := Lib.hid (fun i (hi : i < rs.length) h => prof_no3 (s := s) (rs := rs) (i := i) hi h)
      have HW := Lib.hid (show inB (n : Int) 1 32 = true from inB_true (by omega))
      have HT := Lib.hid h1
      clear h1
      go_enter Try.func94, Try.ntmps94
      go_wp2_with fail
      refine (implIsName_any s _ hs).mono ?_
      rintro e w1 ⟨rfl, hb⟩
      rw [HT.out]
      have c0 : w1.cell? ⟨w.heap.size, 0, none⟩ = some (.string s) := by rw [below_cell hb _ _ (by simp)]; go_simp
      have c1 : w1.cell? ⟨w.heap.size, 1, none⟩ = some (.slice a n c) := by rw [below_cell hb _ _ (by simp)]; go_simp
      have hz1 : w.heap.size < w1.heap.size := by have := hb.size; simp at this; omega
      have HB := Lib.hid (below_of ((Below.refl _ _).alloc (Nat.le_refl _) _) hb (by simp))
      clear hb
      go_wp2_with fail
      refine (within_int _ _ [(n : Int)] _ 0 1 1 _ rfl (by omega) (cell_int _ _ _ _ rfl)).mono ?_
      rintro e w2 ⟨rfl, rfl⟩
      rw [all_one, HW.out]
      go_wp2
      obtain ⟨-, ⟨a', c', hv, h0⟩ | ⟨b, off, cap, hv, hbl, hc⟩⟩ := HI.out
      · exfalso; have := HN.out; rw [h0] at this; simp at this; omega
      simp only [Value.slice.injEq] at hv
      obtain ⟨rfl, -, rfl⟩ := hv
      have HC := Lib.hid (fun i (hi : i < n) => ring_in hc i (by rw [HN.out]; exact hi))
      clear hc
      go_loopw [3, 21] (fun L i wr => ∃ k : Nat, k ≤ n ∧ i = .int .i64 k ∧ L = .int .i64 (heights (rs.take k)) ∧ Hid (∀ j, j < k → okAt rs j = true) ∧ Below w.heap.size w wr ∧ wr.cell? ⟨w.heap.size, 0, none⟩ = some (.string s) ∧ wr.cell? ⟨w.heap.size, 1, none⟩ = some (.slice (some ⟨b, off, none⟩) n c) ∧ w.heap.size < wr.heap.size) (fun _ i _ => n - (intOf i).toNat)
      case atStart => exact ⟨0, by omega, rfl, by simp [heights], Lib.hid (fun j hj => by omega), HB.out.alloc (by omega) _, by go_simp, by go_simp, by simp; omega⟩
      case round =>
        obtain ⟨k, hk, rfl, rfl, HA, hbw, d0, d1, hzr⟩ := hrel
        have HBW := Lib.hid hbw
        clear hbw
        by_cases hlt : k < n
        · have hr := HC.out k hlt
          obtain ⟨⟨x, y, z⟩, hxyz⟩ : ∃ r, rs.getD k zR = r := ⟨_, rfl⟩
          rw [hxyz] at hr
          have HXYZ := Lib.hid hxyz
          have e0 : wr.cell? ⟨b, off + k * 3, none⟩ = some (.int .i64 x) := (below_cell HBW.out _ _ hbl).trans hr.c0
          have e1 : wr.cell? ⟨b, off + k * 3 + 1, none⟩ = some (.int .i64 y) := (below_cell HBW.out _ _ hbl).trans hr.c1
          have e2 : wr.cell? ⟨b, off + k * 3 + 2, none⟩ = some (.int .i64 z) := (below_cell HBW.out _ _ hbl).trans hr.c2
          have hkm : (k : Int) < (n : Int) := by omega
          have hk0 : (0 : Int) ≤ (k : Int) := by omega
          clear hr hxyz c0 c1
          go_wp2
          have hzA : wr.heap.size < (wr.alloc (Obj.cells #[Value.int IntKind.i64 x, Value.int IntKind.i64 y, Value.int IntKind.i64 z] 121)).heap.size := by simp
          have hbA := (Below.refl wr.heap.size wr).alloc (Nat.le_refl _) (Obj.cells #[Value.int IntKind.i64 x, Value.int IntKind.i64 y, Value.int IntKind.i64 z] 121)
          have g0 : (wr.alloc (Obj.cells #[Value.int IntKind.i64 x, Value.int IntKind.i64 y, Value.int IntKind.i64 z] 121)).cell? ⟨wr.heap.size, 0, none⟩ = some (.int .i64 x) := by go_simp
          have g1 : (wr.alloc (Obj.cells #[Value.int IntKind.i64 x, Value.int IntKind.i64 y, Value.int IntKind.i64 z] 121)).cell? ⟨wr.heap.size, 1, none⟩ = some (.int .i64 y) := by go_simp
          have g2 : (wr.alloc (Obj.cells #[Value.int IntKind.i64 x, Value.int IntKind.i64 y, Value.int IntKind.i64 z] 121)).cell? ⟨wr.heap.size, 2, none⟩ = some (.int .i64 z) := by go_simp
          have p0 := (below_cell hbA _ _ hzr).trans d0
          have p1 := (below_cell hbA _ _ hzr).trans d1
          have HBA := Lib.hid (below_of HBW.out hbA HBW.out.size)
          have hzw : wr.heap.size < (wr.alloc (Obj.cells #[Value.int IntKind.i64 x, Value.int IntKind.i64 y, Value.int IntKind.i64 z] 121)).heap.size := hzA
          clear hbA d0 d1 e0 e1 e2
          generalize (wr.alloc (Obj.cells #[Value.int IntKind.i64 x, Value.int IntKind.i64 y, Value.int IntKind.i64 z] 121)) = wA at *
          have hzp : w.heap.size < wA.heap.size := by omega
          rcases Bool.eq_false_or_eq_true (ringB (x, y, z)) with h4 | h4
          · have H4 := Lib.hid h4
            have HRI := Lib.hid (ring_iff.1 h4)
            by_cases hkz : k = 0
            · have HOK := Lib.hid (show okAt rs k = true by unfold okAt; rw [HXYZ.out, h4, decide_eq_true hkz]; rfl)
              have hg2 : decide ((0 : Int) < (k : Int)) = false := decide_eq_false (by omega)
              have hg3 : decide (0 < k) = false := decide_eq_false (by omega)
              clear h4 hkz
              refine wp_region_held_drew (S := (fun w' => w'.cell? ⟨wr.heap.size, 0, none⟩ = some (.int .i64 x) ∧ w'.cell? ⟨wr.heap.size, 1, none⟩ = some (.int .i64 y) ∧ w'.cell? ⟨wr.heap.size, 2, none⟩ = some (.int .i64 z) ∧ Below wA.heap.size wA w')) (by kernel_rfl) (⟨g0, g1, g2, ⟨rfl, rfl, rfl, Nat.le_refl _, fun _ _ => rfl⟩⟩) (fun hHeld => ?_)
              refine takeH 0 (some 26) (.agg #[.int .i64 x, .int .i64 y, .int .i64 z]) hHeld rfl rfl (by rfl) (by kernel_rfl) (by kernel_rfl) (by kernel_rfl) (fun _ _ _ h => h) (fun wS hSw => ?_) ?_
              · ((try dsimp only at hSw); go_simp; try with_reducible rfl)
              simp only [Act.put, List.setIfInBounds_toArray, List.set_cons_zero, List.set_cons_succ]
              refine loneH 1 (some 27) rfl rfl (by kernel_rfl) (by rfl) (fun K hK => ?_)
              go_simp; refine (implValidRing_any x y z wA.drew).mono ?_; rintro e w6 ⟨rfl, hb6⟩; rw [H4.out]
              refine hK.out _ _ (keepA hzA g0 g1 g2 (below_drew hb6)) (fun hHeld2 => ?_)
              clear hK K hHeld
              have hHeld := hHeld2
              clear hHeld2
              simp only [Act.put, List.setIfInBounds_toArray, List.set_cons_zero, List.set_cons_succ]
              refine takeH 2 (some 28) (.bool false) hHeld rfl rfl (by rfl) (by kernel_rfl) (by kernel_rfl) (by kernel_rfl) (fun _ _ _ h => h) (fun wS hSw => ?_) ?_
              · ((try dsimp only at hSw); go_simp; try with_reducible rfl)
              simp only [Act.put, List.setIfInBounds_toArray, List.set_cons_zero, List.set_cons_succ]
              refine takeH 3 (some 29) (.bool false) hHeld rfl rfl (by rfl) (by kernel_rfl) (by kernel_rfl) (by kernel_rfl) (fun _ _ _ h => h) (fun wS hSw => ?_) ?_
              · ((try dsimp only at hSw); go_simp; try with_reducible rfl)
              simp only [Act.put, List.setIfInBounds_toArray, List.set_cons_zero, List.set_cons_succ]
              refine takeH 4 (some 30) (.int .i64 k) hHeld rfl rfl (by rfl) (by kernel_rfl) (by kernel_rfl) (by kernel_rfl) (fun _ _ _ h => h) (fun wS hSw => ?_) ?_
              · ((try dsimp only at hSw); go_simp; try with_reducible rfl)
              simp only [Act.put, List.setIfInBounds_toArray, List.set_cons_zero, List.set_cons_succ]
              refine takeH 5 (some 31) (.bool false) hHeld rfl rfl (by rfl) (by kernel_rfl) (by kernel_rfl) (by kernel_rfl) (fun _ _ _ h => h) (fun wS hSw => ?_) ?_
              · ((try dsimp only at hSw); go_simp; try with_reducible rfl)
              simp only [Act.put, List.setIfInBounds_toArray, List.set_cons_zero, List.set_cons_succ]
              refine takeH 6 (some 32) (.bool false) hHeld rfl rfl (by rfl) (by kernel_rfl) (by kernel_rfl) (by kernel_rfl) (fun _ _ _ h => h) (fun wS hSw => ?_) ?_
              · ((try dsimp only at hSw); go_simp; try with_reducible rfl)
              simp only [Act.put, List.setIfInBounds_toArray, List.set_cons_zero, List.set_cons_succ]
              refine skipH 7 (some 33) hHeld rfl (by rfl) (by kernel_rfl) (by kernel_rfl) (by kernel_rfl) (fun _ _ _ h => h) ?_
              simp only [Act.put, List.setIfInBounds_toArray, List.set_cons_zero, List.set_cons_succ]
              refine skipH 8 (some 34) hHeld rfl (by rfl) (by kernel_rfl) (by kernel_rfl) (by kernel_rfl) (fun _ _ _ h => h) ?_
              simp only [Act.put, List.setIfInBounds_toArray, List.set_cons_zero, List.set_cons_succ]
              refine skipH 9 (some 35) hHeld rfl (by rfl) (by kernel_rfl) (by kernel_rfl) (by kernel_rfl) (fun _ _ _ h => h) ?_
              simp only [Act.put, List.setIfInBounds_toArray, List.set_cons_zero, List.set_cons_succ]
              refine skipH 10 (some 36) hHeld rfl (by rfl) (by kernel_rfl) (by kernel_rfl) (by kernel_rfl) (fun _ _ _ h => h) ?_
              simp only [Act.put, List.setIfInBounds_toArray, List.set_cons_zero, List.set_cons_succ]
              refine skipH 11 (some 37) hHeld rfl (by rfl) (by kernel_rfl) (by kernel_rfl) (by kernel_rfl) (fun _ _ _ h => h) ?_
              simp only [Act.put, List.setIfInBounds_toArray, List.set_cons_zero, List.set_cons_succ]
              refine skipH 12 (some 38) hHeld rfl (by rfl) (by kernel_rfl) (by kernel_rfl) (by kernel_rfl) (fun _ _ _ h => h) ?_
              simp only [Act.put, List.setIfInBounds_toArray, List.set_cons_zero, List.set_cons_succ]
              refine skipH 13 (some 39) hHeld rfl (by rfl) (by kernel_rfl) (by kernel_rfl) (by kernel_rfl) (fun _ _ _ h => h) ?_
              simp only [Act.put, List.setIfInBounds_toArray, List.set_cons_zero, List.set_cons_succ]
              refine skipH 14 (some 40) hHeld rfl (by rfl) (by kernel_rfl) (by kernel_rfl) (by kernel_rfl) (fun _ _ _ h => h) ?_
              simp only [Act.put, List.setIfInBounds_toArray, List.set_cons_zero, List.set_cons_succ]
              refine skipH 15 (some 41) hHeld rfl (by rfl) (by kernel_rfl) (by kernel_rfl) (by kernel_rfl) (fun _ _ _ h => h) ?_
              simp only [Act.put, List.setIfInBounds_toArray, List.set_cons_zero, List.set_cons_succ]
              refine takeH 16 (some 42) (.bool false) hHeld rfl rfl (by rfl) (by kernel_rfl) (by kernel_rfl) (by kernel_rfl) (fun _ _ _ h => h) (fun wS hSw => ?_) ?_
              · ((try dsimp only at hSw); go_simp; try with_reducible rfl)
              simp only [Act.put, List.setIfInBounds_toArray, List.set_cons_zero, List.set_cons_succ]
              refine takeH 17 (some 43) (.bool false) hHeld rfl rfl (by rfl) (by kernel_rfl) (by kernel_rfl) (by kernel_rfl) (fun _ _ _ h => h) (fun wS hSw => ?_) ?_
              · ((try dsimp only at hSw); go_simp; try with_reducible rfl)
              simp only [Act.put, List.setIfInBounds_toArray, List.set_cons_zero, List.set_cons_succ]
              refine wpAnyH_done (by kernel_rfl) ?_ _
              obtain ⟨k0, k1, k2, kb⟩ := hHeld
              have HBR := Lib.hid (below_of HBA.out kb HBA.out.size)
              have d0 := (below_cell kb _ _ hzp).trans p0
              have d1 := (below_cell kb _ _ hzp).trans p1
              have hz6 := Nat.lt_of_lt_of_le hzp kb.size
              have hbd := heights_bd2 (rs := rs) k (fun i hi => ok_ring (HA.out i hi)) (by rw [HN.out]; exact hk)
              have HX := Lib.hid (show heights (rs.take (k + 1)) = heights (rs.take k) + z by rw [heights_next rs k (by rw [HN.out]; exact hlt), HXYZ.out])
              obtain ⟨y9, hy9⟩ : ∃ y9, heights (rs.take k) = y9 := ⟨_, rfl⟩
              rw [hy9] at hbd HX
              have HY9 := Lib.hid hy9
              have hrz := HRI.out.2.2
              try simp only at hrz
              have hwr : IntKind.i64.wrap (y9 + z) = y9 + z := IntWalk.i64_in _ (by omega)
              try rw [hy9]
              clear hy9 hbd p0 p1 g0 g1
              go_wp2
              go_roundw
              case rel => exact ⟨k + 1, by omega, by go_num, by rw [HX.out], Lib.hid (fun j hj => by
                by_cases e : j = k
                · subst e; exact HOK.out
                · exact HA.out j (by omega)), HBR.out, d0, d1, hz6⟩
              case measure => simp [intOf]; omega
            · obtain ⟨q, hq⟩ : ∃ q, k = q + 1 := ⟨k - 1, by omega⟩
              have hr2 := HC.out q (by omega)
              obtain ⟨⟨x2, y2, z2⟩, hx2⟩ : ∃ r, rs.getD q zR = r := ⟨_, rfl⟩
              rw [hx2] at hr2
              have hblA : b < wA.heap.size := by have := HBA.out.size; omega
              have q0 : wA.cell? ⟨b, off + q * 3, none⟩ = some (.int .i64 x2) := (below_cell HBA.out _ _ hbl).trans hr2.c0
              have q1 : wA.cell? ⟨b, off + q * 3 + 1, none⟩ = some (.int .i64 y2) := (below_cell HBA.out _ _ hbl).trans hr2.c1
              have q2 : wA.cell? ⟨b, off + q * 3 + 2, none⟩ = some (.int .i64 z2) := (below_cell HBA.out _ _ hbl).trans hr2.c2
              have hg : (0 : Int) < (k : Int) := by omega
              have hg2 : 0 < k := by omega
              have hg3 : decide (0 < k) = true := decide_eq_true hg2
              have hq0 : (0 : Int) ≤ (q : Int) := by omega
              have hq1 : (q : Int) < (n : Int) := by omega
              have hw1 : IntKind.i64.wrap ((k : Int) - 1) = (q : Int) := by rw [show ((k : Int) - 1) = (q : Int) by omega]; exact IntWalk.i64_in _ (by omega)
              obtain ⟨jj, h5⟩ : ∃ jj, joinB (x2, y2, z2) (x, y, z) = jj := ⟨_, rfl⟩
              have H5 := Lib.hid h5
              have HJ := Lib.hid (show okAt rs k = jj by unfold okAt; rw [HXYZ.out, h4, decide_eq_false hkz, show k - 1 = q by omega, hx2, h5]; rfl)
              have HQ := Lib.hid hq
              clear hr2 hx2 h4 h5 hq hkz
              go_region_held3 (fun w' => w'.cell? ⟨wr.heap.size, 0, none⟩ = some (.int .i64 x) ∧ w'.cell? ⟨wr.heap.size, 1, none⟩ = some (.int .i64 y) ∧ w'.cell? ⟨wr.heap.size, 2, none⟩ = some (.int .i64 z) ∧ w'.cell? ⟨w.heap.size, 1, none⟩ = some (.slice (some ⟨b, off, none⟩) n c) ∧ w'.cell? ⟨b, off + q * 3, none⟩ = some (.int .i64 x2) ∧ w'.cell? ⟨b, off + q * 3 + 1, none⟩ = some (.int .i64 y2) ∧ w'.cell? ⟨b, off + q * 3 + 2, none⟩ = some (.int .i64 z2) ∧ Below wA.heap.size wA w')
                (first | exact ⟨g0, g1, g2, p1, q0, q1, q2, ⟨rfl, rfl, rfl, Nat.le_refl _, fun _ _ => rfl⟩⟩ | exact keepB hzA hzp hblA g0 g1 g2 p1 q0 q1 q2 (below_drew hb6) | exact keepB hzA hzp hblA g0 g1 g2 p1 q0 q1 q2 (below_of (below_drew hb6) hb7 (below_drew hb6).size) | assumption)
                (first | (go_at_call 129; refine (implValidRing_any x y z wA.drew).mono ?_; rintro e w6 ⟨rfl, hb6⟩; rw [H4.out]) | (go_at_call 130; refine (implCarries_any x2 y2 z2 x y z w6).mono ?_; rintro e w7 ⟨rfl, hb7⟩; rw [H5.out]))
              have kb : Below wA.heap.size wA w7 := below_of (below_drew hb6) hb7 (below_drew hb6).size
              have k2 : w7.cell? ⟨wr.heap.size, 2, none⟩ = some (.int .i64 z) := (below_cell kb _ _ hzA).trans g2
              clear hb6 hb7
              cases jj
              · have HF := Lib.hid (HNO.out k (by rw [HN.out]; exact hlt) HJ.out)
                have HBR := Lib.hid (below_of HBA.out kb HBA.out.size)
                clear kb
                go_wp2
                go_ret
                exact ⟨ret_bool HF.out.symm, HBR.out⟩
              · have HOK := Lib.hid HJ.out
                have HBR := Lib.hid (below_of HBA.out kb HBA.out.size)
                have d0 := (below_cell kb _ _ hzp).trans p0
                have d1 := (below_cell kb _ _ hzp).trans p1
                have hz6 := Nat.lt_of_lt_of_le hzp kb.size
                have hbd := heights_bd2 (rs := rs) k (fun i hi => ok_ring (HA.out i hi)) (by rw [HN.out]; exact hk)
                have HX := Lib.hid (show heights (rs.take (k + 1)) = heights (rs.take k) + z by rw [heights_next rs k (by rw [HN.out]; exact hlt), HXYZ.out])
                obtain ⟨y9, hy9⟩ : ∃ y9, heights (rs.take k) = y9 := ⟨_, rfl⟩
                rw [hy9] at hbd HX
                have HY9 := Lib.hid hy9
                have hrz := HRI.out.2.2
                try simp only at hrz
                have hwr : IntKind.i64.wrap (y9 + z) = y9 + z := IntWalk.i64_in _ (by omega)
                try rw [hy9]
                clear hy9 hbd p0 p1 g0 g1
                go_wp2
                go_roundw
                case rel => exact ⟨k + 1, by omega, by go_num, by rw [HX.out], Lib.hid (fun j hj => by
                  by_cases e : j = k
                  · subst e; exact HOK.out
                  · exact HA.out j (by omega)), HBR.out, d0, d1, hz6⟩
                case measure => simp [intOf]; omega
          · have H4 := Lib.hid h4
            have HF := Lib.hid (HNO.out k (by rw [HN.out]; exact hlt) (by unfold okAt; rw [HXYZ.out, h4]; rfl))
            clear h4
            refine wp_region_held_drew (S := (fun w' => w'.cell? ⟨wr.heap.size, 0, none⟩ = some (.int .i64 x) ∧ w'.cell? ⟨wr.heap.size, 1, none⟩ = some (.int .i64 y) ∧ w'.cell? ⟨wr.heap.size, 2, none⟩ = some (.int .i64 z) ∧ Below wA.heap.size wA w')) (by kernel_rfl) (⟨g0, g1, g2, ⟨rfl, rfl, rfl, Nat.le_refl _, fun _ _ => rfl⟩⟩) (fun hHeld => ?_)
            refine takeH 0 (some 26) (.agg #[.int .i64 x, .int .i64 y, .int .i64 z]) hHeld rfl rfl (by rfl) (by kernel_rfl) (by kernel_rfl) (by kernel_rfl) (fun _ _ _ h => h) (fun wS hSw => ?_) ?_
            · ((try dsimp only at hSw); go_simp; try with_reducible rfl)
            simp only [Act.put, List.setIfInBounds_toArray, List.set_cons_zero, List.set_cons_succ]
            refine loneH 1 (some 27) rfl rfl (by kernel_rfl) (by rfl) (fun K hK => ?_)
            go_simp; refine (implValidRing_any x y z wA.drew).mono ?_; rintro e w6 ⟨rfl, hb6⟩; rw [H4.out]
            refine hK.out _ _ (keepA hzA g0 g1 g2 (below_drew hb6)) (fun hHeld2 => ?_)
            clear hK K hHeld
            have hHeld := hHeld2
            clear hHeld2
            simp only [Act.put, List.setIfInBounds_toArray, List.set_cons_zero, List.set_cons_succ]
            refine takeH 2 (some 28) (.bool true) hHeld rfl rfl (by rfl) (by kernel_rfl) (by kernel_rfl) (by kernel_rfl) (fun _ _ _ h => h) (fun wS hSw => ?_) ?_
            · ((try dsimp only at hSw); go_simp; try with_reducible rfl)
            simp only [Act.put, List.setIfInBounds_toArray, List.set_cons_zero, List.set_cons_succ]
            refine takeH 3 (some 29) (.bool true) hHeld rfl rfl (by rfl) (by kernel_rfl) (by kernel_rfl) (by kernel_rfl) (fun _ _ _ h => h) (fun wS hSw => ?_) ?_
            · ((try dsimp only at hSw); go_simp; try with_reducible rfl)
            simp only [Act.put, List.setIfInBounds_toArray, List.set_cons_zero, List.set_cons_succ]
            refine skipH 4 (some 30) hHeld rfl (by rfl) (by kernel_rfl) (by kernel_rfl) (by kernel_rfl) (fun _ _ _ h => h) ?_
            simp only [Act.put, List.setIfInBounds_toArray, List.set_cons_zero, List.set_cons_succ]
            refine skipH 5 (some 31) hHeld rfl (by rfl) (by kernel_rfl) (by kernel_rfl) (by kernel_rfl) (fun _ _ _ h => h) ?_
            simp only [Act.put, List.setIfInBounds_toArray, List.set_cons_zero, List.set_cons_succ]
            refine skipH 6 (some 32) hHeld rfl (by rfl) (by kernel_rfl) (by kernel_rfl) (by kernel_rfl) (fun _ _ _ h => h) ?_
            simp only [Act.put, List.setIfInBounds_toArray, List.set_cons_zero, List.set_cons_succ]
            refine skipH 7 (some 33) hHeld rfl (by rfl) (by kernel_rfl) (by kernel_rfl) (by kernel_rfl) (fun _ _ _ h => h) ?_
            simp only [Act.put, List.setIfInBounds_toArray, List.set_cons_zero, List.set_cons_succ]
            refine skipH 8 (some 34) hHeld rfl (by rfl) (by kernel_rfl) (by kernel_rfl) (by kernel_rfl) (fun _ _ _ h => h) ?_
            simp only [Act.put, List.setIfInBounds_toArray, List.set_cons_zero, List.set_cons_succ]
            refine skipH 9 (some 35) hHeld rfl (by rfl) (by kernel_rfl) (by kernel_rfl) (by kernel_rfl) (fun _ _ _ h => h) ?_
            simp only [Act.put, List.setIfInBounds_toArray, List.set_cons_zero, List.set_cons_succ]
            refine skipH 10 (some 36) hHeld rfl (by rfl) (by kernel_rfl) (by kernel_rfl) (by kernel_rfl) (fun _ _ _ h => h) ?_
            simp only [Act.put, List.setIfInBounds_toArray, List.set_cons_zero, List.set_cons_succ]
            refine skipH 11 (some 37) hHeld rfl (by rfl) (by kernel_rfl) (by kernel_rfl) (by kernel_rfl) (fun _ _ _ h => h) ?_
            simp only [Act.put, List.setIfInBounds_toArray, List.set_cons_zero, List.set_cons_succ]
            refine skipH 12 (some 38) hHeld rfl (by rfl) (by kernel_rfl) (by kernel_rfl) (by kernel_rfl) (fun _ _ _ h => h) ?_
            simp only [Act.put, List.setIfInBounds_toArray, List.set_cons_zero, List.set_cons_succ]
            refine skipH 13 (some 39) hHeld rfl (by rfl) (by kernel_rfl) (by kernel_rfl) (by kernel_rfl) (fun _ _ _ h => h) ?_
            simp only [Act.put, List.setIfInBounds_toArray, List.set_cons_zero, List.set_cons_succ]
            refine skipH 14 (some 40) hHeld rfl (by rfl) (by kernel_rfl) (by kernel_rfl) (by kernel_rfl) (fun _ _ _ h => h) ?_
            simp only [Act.put, List.setIfInBounds_toArray, List.set_cons_zero, List.set_cons_succ]
            refine skipH 15 (some 41) hHeld rfl (by rfl) (by kernel_rfl) (by kernel_rfl) (by kernel_rfl) (fun _ _ _ h => h) ?_
            simp only [Act.put, List.setIfInBounds_toArray, List.set_cons_zero, List.set_cons_succ]
            refine skipH 16 (some 42) hHeld rfl (by rfl) (by kernel_rfl) (by kernel_rfl) (by kernel_rfl) (fun _ _ _ h => h) ?_
            simp only [Act.put, List.setIfInBounds_toArray, List.set_cons_zero, List.set_cons_succ]
            refine takeH 17 (some 43) (.bool true) hHeld rfl rfl (by rfl) (by kernel_rfl) (by kernel_rfl) (by kernel_rfl) (fun _ _ _ h => h) (fun wS hSw => ?_) ?_
            · ((try dsimp only at hSw); go_simp; try with_reducible rfl)
            simp only [Act.put, List.setIfInBounds_toArray, List.set_cons_zero, List.set_cons_succ]
            refine wpAnyH_done (by kernel_rfl) ?_ _
            obtain ⟨k0, k1, k2, kb⟩ := hHeld
            have HBR := Lib.hid (below_of HBA.out kb HBA.out.size)
            clear kb
            go_wp2
            go_ret
            exact ⟨ret_bool HF.out.symm, HBR.out⟩
        · obtain rfl : k = n := by omega
          have HF := Lib.hid (HE.out (fun i hi => HA.out i (by have := HN.out; omega)))
          have HT2 := Lib.hid (show heights (rs.take k) = heights rs by rw [List.take_of_length_le (by have := HN.out; omega)])
          generalize heights (rs.take k) = y9 at *
          clear c0 c1
          go_wp2
          go_ret
          exact ⟨ret_bool (by rw [HF.out, HT2.out]), HBW.out⟩
    · have HF := Lib.hid (prof_no2 (s := s) (rs := rs) (by rw [HN.out]; exact h2))
      have HW := Lib.hid (show inB (n : Int) 1 32 = false from by rcases Bool.eq_false_or_eq_true (inB (n : Int) 1 32) with h | h; (exfalso; have := inB_iff.1 h; omega); exact h)
      have HT := Lib.hid h1
      rw [HF.out]
      clear h1 h2
      go_enter Try.func94, Try.ntmps94
      go_wp2_with fail
      refine (implIsName_any s _ hs).mono ?_
      rintro e w1 ⟨rfl, hb⟩
      rw [HT.out]
      have c0 : w1.cell? ⟨w.heap.size, 0, none⟩ = some (.string s) := by rw [below_cell hb _ _ (by simp)]; go_simp
      have c1 : w1.cell? ⟨w.heap.size, 1, none⟩ = some (.slice a n c) := by rw [below_cell hb _ _ (by simp)]; go_simp
      have hz1 : w.heap.size < w1.heap.size := by have := hb.size; simp at this; omega
      have HB := Lib.hid (below_of ((Below.refl _ _).alloc (Nat.le_refl _) _) hb (by simp))
      clear hb
      go_wp2_with fail
      refine (within_int _ _ [(n : Int)] _ 0 1 1 _ rfl (by omega) (cell_int _ _ _ _ rfl)).mono ?_
      rintro e w2 ⟨rfl, rfl⟩
      rw [all_one, HW.out]
      go_wp2
      go_ret
      exact ⟨rfl, HB.out.alloc (by omega) _⟩
  · have HF := Lib.hid (prof_no1 (rs := rs) h1)
    have HT := Lib.hid h1
    rw [HF.out]
    clear h1
    go_enter Try.func94, Try.ntmps94
    go_wp2_with fail
    refine (implIsName_any s _ hs).mono ?_
    rintro e w1 ⟨rfl, hb⟩
    rw [HT.out]
    have HB := Lib.hid (below_of ((Below.refl _ _).alloc (Nat.le_refl _) _) hb (by simp))
    clear hb
    go_wp2
    go_ret
    exact ⟨rfl, HB.out⟩
end Go.Proofs.Ytjdnjlakafcglaa
