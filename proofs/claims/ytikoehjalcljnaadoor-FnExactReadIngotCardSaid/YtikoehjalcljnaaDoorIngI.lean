/- Ingots: the program's validity. -/
import Derived.Test.YtikoehjalcljnaaDoorIngV
import Derived.Test.YtikoehjalcljnaaDoorNameImplE
import Derived.Test.YtikoehjalcljnaaDoorHand
set_option linter.unusedVariables false
namespace Go.Proofs.YtikoehjalcljnaaDoor
open Go.ChangeShapes Go.WideShapes Go.ChangeAt Go.RowKit

theorem below_drewG {w w' : World} (hb : Below w.drew.heap.size w.drew w') : Below w.heap.size w w' := ⟨hb.os, hb.tape, hb.output, hb.size, hb.block⟩
theorem keepG {w w' : World} {g : Nat} {u0 u1 u2 u3 u4 : Value} (hz : g < w.heap.size) (g0 : w.cell? ⟨g, 0, none⟩ = some u0) (g1 : w.cell? ⟨g, 1, none⟩ = some u1) (g2 : w.cell? ⟨g, 2, none⟩ = some u2) (g3 : w.cell? ⟨g, 3, none⟩ = some u3) (g4 : w.cell? ⟨g, 4, none⟩ = some u4) (hb : Below w.heap.size w w') :
    w'.cell? ⟨g, 0, none⟩ = some u0 ∧ w'.cell? ⟨g, 1, none⟩ = some u1 ∧ w'.cell? ⟨g, 2, none⟩ = some u2 ∧ w'.cell? ⟨g, 3, none⟩ = some u3 ∧ w'.cell? ⟨g, 4, none⟩ = some u4 ∧ Below w.heap.size w w' :=
  ⟨(hb.cell (p := ⟨g, 0, none⟩) hz).trans g0, (hb.cell (p := ⟨g, 1, none⟩) hz).trans g1, (hb.cell (p := ⟨g, 2, none⟩) hz).trans g2, (hb.cell (p := ⟨g, 3, none⟩) hz).trans g3, (hb.cell (p := ⟨g, 4, none⟩) hz).trans g4, hb⟩
theorem keepG2 {w w' : World} {g b o : Nat} {u0 u1 u2 u3 u4 u5 : Value} (hz : g < w.heap.size) (hbl : b < w.heap.size) (g0 : w.cell? ⟨g, 0, none⟩ = some u0) (g1 : w.cell? ⟨g, 1, none⟩ = some u1) (g2 : w.cell? ⟨g, 2, none⟩ = some u2) (g3 : w.cell? ⟨g, 3, none⟩ = some u3) (g4 : w.cell? ⟨g, 4, none⟩ = some u4) (q0 : w.cell? ⟨b, o, none⟩ = some u5) (hb : Below w.heap.size w w') :
    w'.cell? ⟨g, 0, none⟩ = some u0 ∧ w'.cell? ⟨g, 1, none⟩ = some u1 ∧ w'.cell? ⟨g, 2, none⟩ = some u2 ∧ w'.cell? ⟨g, 3, none⟩ = some u3 ∧ w'.cell? ⟨g, 4, none⟩ = some u4 ∧ w'.cell? ⟨b, o, none⟩ = some u5 ∧ Below w.heap.size w w' :=
  ⟨(hb.cell (p := ⟨g, 0, none⟩) hz).trans g0, (hb.cell (p := ⟨g, 1, none⟩) hz).trans g1, (hb.cell (p := ⟨g, 2, none⟩) hz).trans g2, (hb.cell (p := ⟨g, 3, none⟩) hz).trans g3, (hb.cell (p := ⟨g, 4, none⟩) hz).trans g4, (hb.cell (p := ⟨b, o, none⟩) hbl).trans q0, hb⟩
theorem cellI3G (w : World) (x y z : Int) (T : TypeId) (n : Nat) (hn : n = w.heap.size) : ∀ j, j < 3 → (w.alloc (.cells #[.int .i64 x, .int .i64 y, .int .i64 z] T)).cell? ⟨n, 0 + j, none⟩ = some (.int .i64 ([x, y, z].getD j 0)) := by
  subst hn
  intro j hj
  match j, hj with
  | 0, _ => go_simp
  | 1, _ => go_simp
  | 2, _ => go_simp
theorem cellI1G (w : World) (x : Int) (T : TypeId) (n : Nat) (hn : n = w.heap.size) : ∀ j, j < 1 → (w.alloc (.cells #[.int .i64 x] T)).cell? ⟨n, 0 + j, none⟩ = some (.int .i64 ([x].getD j 0)) := by
  subst hn
  intro j hj
  match j, hj with
  | 0, _ => go_simp
theorem cellI1W (W : World) (x : Int) (n : Nat) (h : W.cell? ⟨n, 0, none⟩ = some (.int .i64 x)) : ∀ j, j < 1 → W.cell? ⟨n, 0 + j, none⟩ = some (.int .i64 ([x].getD j 0)) := by
  intro j hj
  match j, hj with
  | 0, _ => exact h
theorem allI1G (lo hi c : Int) : allIn lo hi [c] = inB c lo hi := by simp [allIn]
theorem allI3G (lo hi x y z : Int) : allIn lo hi [x, y, z] = (inB x lo hi && (inB y lo hi && inB z lo hi)) := by simp [allIn]
set_option maxHeartbeats 1000000 in
theorem implVA_any (x y z : Int) (w : World) :
    Calls Tryd.prog 43 #[.agg #[.int .i64 x, .int .i64 y, .int .i64 z]] w fun e w' => e = .returned (.bool (alloyB x y z)) ∧ Below w.heap.size w w' := by
  have hB0 := ((Below.refl w.heap.size w).alloc (Nat.le_refl _) (.cells #[.int .i64 x, .int .i64 y, .int .i64 z] 34)).alloc (by simp) (.cells #[.int .i64 x, .int .i64 y, .int .i64 z] 2)
  have HB0 := Lib.hid hB0
  clear hB0
  rcases Bool.eq_false_or_eq_true (inB x 0 1000000 && (inB y 0 1000000 && inB z 0 1000000)) with h1 | h1
  · have HF := Lib.hid (show alloyB x y z = (x + y + z == 1000000) by
      have h1' := h1
      simp only [Bool.and_eq_true] at h1'
      unfold alloyB; rw [h1'.1, h1'.2.1, h1'.2.2]; rfl)
    have H1 := Lib.hid h1
    simp only [Bool.and_eq_true, inB_iff] at h1
    obtain ⟨⟨x0, x1⟩, ⟨y0, y1⟩, z0, z1⟩ := h1
    have hw1 : IntKind.i64.wrap (x + y) = x + y := IntWalk.i64_in _ (by omega)
    have hw2 : IntKind.i64.wrap (x + y + z) = x + y + z := IntWalk.i64_in _ (by omega)
    go_enter Tryd.func43, Tryd.ntmps43
    go_wp2_with fail
    refine (within_i64 _ _ [x, y, z] _ 0 3 3 _ rfl (by omega) (cellI3G _ _ _ _ _ _ (by simp))).mono ?_
    rintro e w2 ⟨rfl, rfl⟩
    rw [allI3G, H1.out]
    go_wp2
    go_ret
    exact ⟨retG_b (by first | exact HF.out.symm | (simp only [hw1, hw2]; exact HF.out.symm)), HB0.out⟩
  · have HF := Lib.hid (show alloyB x y z = false by
      unfold alloyB
      revert h1
      cases inB x 0 1000000 <;> cases inB y 0 1000000 <;> cases inB z 0 1000000 <;> simp)
    have H1 := Lib.hid h1
    clear h1
    go_enter Tryd.func43, Tryd.ntmps43
    go_wp2_with fail
    refine (within_i64 _ _ [x, y, z] _ 0 3 3 _ rfl (by omega) (cellI3G _ _ _ _ _ _ (by simp))).mono ?_
    rintro e w2 ⟨rfl, rfl⟩
    rw [allI3G, H1.out]
    go_wp2
    go_ret
    exact ⟨retG_b HF.out.symm, HB0.out⟩
set_option maxHeartbeats 2000000 in
theorem implIngValid_any (s : ByteArray) (a x y z : Int) (w : World) (hs : s.size ≤ maxLen) :
    Calls Tryd.prog 27 #[.agg #[.string s, .int .i64 a, .int .i64 x, .int .i64 y, .int .i64 z]] w fun e w' => e = .returned (.bool (ingB (s, a, x, y, z))) ∧ Below w.heap.size w w' := by
  have HM := Lib.hid (Gblk_new w (s, a, x, y, z) 36)
  have hl : w.heap.size < (w.alloc (Obj.cells #[Value.string s, Value.int IntKind.i64 a, Value.int IntKind.i64 x, Value.int IntKind.i64 y, Value.int IntKind.i64 z] 36)).heap.size := by simp
  have HB := Lib.hid ((Below.refl w.heap.size w).alloc (Nat.le_refl _) (Obj.cells #[Value.string s, Value.int IntKind.i64 a, Value.int IntKind.i64 x, Value.int IntKind.i64 y, Value.int IntKind.i64 z] 36))
  rcases Bool.eq_false_or_eq_true (nameB s) with h1 | h1
  · have H1 := Lib.hid h1
    rcases Bool.eq_false_or_eq_true (inB a 1 20000000) with h2 | h2
    · have H2 := Lib.hid h2
      have HF := Lib.hid (show ingB (s, a, x, y, z) = alloyB x y z by unfold ingB; simp only; rw [h1, h2]; rfl)
      clear h1 h2
      go_enter Tryd.func27, Tryd.ntmps27
      go_wp2_with fail
      generalize (w.alloc (Obj.cells #[Value.string s, Value.int IntKind.i64 a, Value.int IntKind.i64 x, Value.int IntKind.i64 y, Value.int IntKind.i64 z] 36)) = wA at *
      refine (implIsName_any s _ hs).mono ?_
      rintro e w2 ⟨rfl, hb⟩
      rw [H1.out]
      obtain ⟨c0, c1, c2, c3, c4⟩ := Gin_kept hb hl HM.out
      simp only at c0 c1 c2 c3 c4
      have hl2 := Nat.lt_of_lt_of_le hl hb.size
      have HB2 := Lib.hid (below_of HB.out hb HB.out.size)
      have hba := below_alG w2 (.cells #[.int .i64 a] 2)
      have HC5 := Lib.hid (cellI1G w2 a 2 _ rfl)
      obtain ⟨d0, d1, d2, d3, d4⟩ := Gin_kept (r := (s, a, x, y, z)) hba hl2 ⟨c0, c1, c2, c3, c4⟩
      simp only at d0 d1 d2 d3 d4
      have HB3 := Lib.hid (below_of HB2.out hba HB2.out.size)
      clear hb hba
      go_wp2_with fail
      refine (within_i64 _ _ [a] _ 0 1 1 _ rfl (by omega) HC5.out).mono ?_
      rintro e w3 ⟨rfl, rfl⟩
      rw [allI1G, H2.out]
      clear c0 c1 c2 c3 c4
      generalize (w2.alloc (.cells #[.int .i64 a] 2)) = w3 at *
      go_wp2_with fail
      refine (implVA_any x y z _).mono ?_
      rintro e w4 ⟨rfl, hb⟩
      have HB4 := Lib.hid (below_of HB3.out hb HB3.out.size)
      clear hb
      go_wp2
      go_ret
      exact ⟨retG_b HF.out.symm, HB4.out⟩
    · have H2 := Lib.hid h2
      have HF := Lib.hid (show ingB (s, a, x, y, z) = false by unfold ingB; simp only; rw [h1, h2]; rfl)
      clear h1 h2
      go_enter Tryd.func27, Tryd.ntmps27
      go_wp2_with fail
      generalize (w.alloc (Obj.cells #[Value.string s, Value.int IntKind.i64 a, Value.int IntKind.i64 x, Value.int IntKind.i64 y, Value.int IntKind.i64 z] 36)) = wA at *
      refine (implIsName_any s _ hs).mono ?_
      rintro e w2 ⟨rfl, hb⟩
      rw [H1.out]
      obtain ⟨c0, c1, c2, c3, c4⟩ := Gin_kept hb hl HM.out
      simp only at c0 c1 c2 c3 c4
      have hl2 := Nat.lt_of_lt_of_le hl hb.size
      have HB2 := Lib.hid (below_of HB.out hb HB.out.size)
      have hba := below_alG w2 (.cells #[.int .i64 a] 2)
      have HC5 := Lib.hid (cellI1G w2 a 2 _ rfl)
      have HB3 := Lib.hid (below_of HB2.out hba HB2.out.size)
      clear hb hba
      go_wp2_with fail
      refine (within_i64 _ _ [a] _ 0 1 1 _ rfl (by omega) HC5.out).mono ?_
      rintro e w3 ⟨rfl, rfl⟩
      rw [allI1G, H2.out]
      clear c0 c1 c2 c3 c4
      generalize (w2.alloc (.cells #[.int .i64 a] 2)) = w3 at *
      go_wp2
      go_ret
      exact ⟨retG_b HF.out.symm, HB3.out⟩
  · have H1 := Lib.hid h1
    have HF := Lib.hid (show ingB (s, a, x, y, z) = false by unfold ingB; simp only; rw [h1]; rfl)
    clear h1
    go_enter Tryd.func27, Tryd.ntmps27
    go_wp2_with fail
    generalize (w.alloc (Obj.cells #[Value.string s, Value.int IntKind.i64 a, Value.int IntKind.i64 x, Value.int IntKind.i64 y, Value.int IntKind.i64 z] 36)) = wA at *
    refine (implIsName_any s _ hs).mono ?_
    rintro e w2 ⟨rfl, hb⟩
    rw [H1.out]
    have HB2 := Lib.hid (below_of HB.out hb HB.out.size)
    clear hb
    go_wp2
    go_ret
    exact ⟨retG_b HF.out.symm, HB2.out⟩
end Go.Proofs.YtikoehjalcljnaaDoor
