/- Cuts read back from their text: the program's parts. -/
import Derived.Test.YtikoehjalcljnaaDoorRdCS
import Derived.Test.YtikoehjalcljnaaDoorHand
import Derived.Test.YtikoehjalcljnaaDoorShelfD
import Derived.Test.YtikoehjalcljnaaDoorShelfG
set_option linter.unusedVariables false
namespace Go.Proofs.YtikoehjalcljnaaDoor
open Go.ChangeShapes Go.WideShapes Go.ChangeAt Go.RowKit Go.Deep

theorem cellI1X (w : World) (x : Int) (T : TypeId) (n : Nat) (hn : n = w.heap.size) : ∀ j, j < 1 → (w.alloc (.cells #[.int .i64 x] T)).cell? ⟨n, 0 + j, none⟩ = some (.int .i64 ([x].getD j 0)) := by
  subst hn
  intro j hj
  match j, hj with
  | 0, _ => go_simp
theorem alloc_ltX (w : World) (o : Obj) : w.heap.size < (w.alloc o).heap.size := by show _ < (w.heap.push o).size; rw [Array.size_push]; omega
theorem below_alX (w : World) (o : Obj) : Below w.heap.size w (w.alloc o) := (Below.refl _ _).alloc (Nat.le_refl _) o
theorem ret_boolX {a b : Bool} (h : a = b) : Ending.returned (.bool a) = .returned (.bool b) := by rw [h]
set_option maxRecDepth 20000 in
set_option maxHeartbeats 1000000 in
theorem cutValid_any (x y : Int) (w : World) : Calls Tryd.prog 37 #[.agg #[.int .i64 x, .int .i64 y]] w fun e w' => e = .returned (.bool (cutB (x, y))) ∧ Below w.heap.size w w' := by
  rcases Bool.eq_false_or_eq_true (inB x 0 7) with h1 | h1
  · have H1 := Lib.hid (show allIn 0 7 [x] = true by simp [allIn, h1])
    have HR := Lib.hid (show cutB (x, y) = allIn 1 20 [y] by unfold cutB; rw [h1]; simp [allIn])
    clear h1
    go_enter Tryd.func37, Tryd.ntmps37
    go_wp2_with fail
    refine (within_i64 _ _ [x] _ 0 1 1 _ rfl (by omega) (cellI1X _ _ _ _ (by simp))).mono ?_
    rintro e w2 ⟨rfl, rfl⟩
    rw [H1.out]
    go_wp2_with fail
    refine (within_i64 _ _ [y] _ 0 1 1 _ rfl (by omega) (cellI1X _ _ _ _ (by simp))).mono ?_
    rintro e w2 ⟨rfl, rfl⟩
    generalize allIn 1 20 [y] = r at *
    go_wp2
    go_ret
    exact ⟨ret_boolX HR.out.symm, ((below_alX _ _).alloc (by simp) _).alloc (by simp <;> omega) _⟩
  · have H1 := Lib.hid (show allIn 0 7 [x] = false by simp [allIn, h1])
    have HR := Lib.hid (show cutB (x, y) = false by unfold cutB; rw [h1]; rfl)
    clear h1
    go_enter Tryd.func37, Tryd.ntmps37
    go_wp2_with fail
    refine (within_i64 _ _ [x] _ 0 1 1 _ rfl (by omega) (cellI1X _ _ _ _ (by simp))).mono ?_
    rintro e w2 ⟨rfl, rfl⟩
    rw [H1.out]
    go_wp2
    go_ret
    exact ⟨ret_boolX HR.out.symm, (below_alX _ _).alloc (by simp) _⟩
def MaxOk (w : World) : Prop := ∃ m, w.cell? ⟨0, 0, none⟩ = some (.int .i64 m)
theorem mxC_kept {W W' : World} (hb : Below W.heap.size W W') (h : MaxOk W) : MaxOk W' := by
  obtain ⟨m, hm⟩ := h
  exact ⟨m, by rw [hb.cell (p := ⟨_, 0, none⟩) (Lib.lt_of_cell hm)]; exact hm⟩
structure RqOk (W : World) : Prop where
  rd : ReadOk W
  mx : MaxOk W
theorem rq_kept {W W' : World} (hb : Below W.heap.size W W') (h : RqOk W) : RqOk W' := ⟨read_kept hb h.rd, mxC_kept hb h.mx⟩
theorem cutC_any (s : ByteArray) (w : World) (hs : s.size ≤ 1048576) (hm : Hid (MaxOk w)) :
    Calls Tryd.prog 30 #[.string s, .string ⟨#[120]⟩] w fun en w' => en = .returned (.tuple #[.string ⟨(Lib.cut s.data.toList [120]).1.toArray⟩, .string ⟨(Lib.cut s.data.toList [120]).2.1.toArray⟩, .bool (Lib.cut s.data.toList [120]).2.2]) ∧ Below w.heap.size w w' := by
  obtain ⟨mm, hmm⟩ := hm.out
  refine (Tryd.strings_Cut s ⟨#[120]⟩ mm _ (by omega) hmm).mono ?_
  rintro en w1 ⟨rfl, kd, rfl⟩
  exact ⟨rfl, below_drewN w kd⟩
/-- Block g holds no cut yet, and may be written. -/
def CleanC (w : World) (g : Nat) : Prop := CIn w g 0 zC ∧ w.frozen? ⟨g, 0, none⟩ = false ∧ w.frozen? ⟨g, 1, none⟩ = false
theorem cleanC_kept {w w' : World} {B g : Nat} (hb : Below B w w') (hg : g < B) (h : CleanC w g) : CleanC w' g :=
  ⟨⟨by rw [hb.cell (p := ⟨g, 0, none⟩) hg]; exact h.1.c0, by rw [hb.cell (p := ⟨g, 0 + 1, none⟩) hg]; exact h.1.c1⟩, by rw [hb.frozen (p := ⟨g, 0, none⟩) hg]; exact h.2.1, by rw [hb.frozen (p := ⟨g, 1, none⟩) hg]; exact h.2.2⟩
theorem cleanC_alloc (w : World) (T : TypeId) : CleanC (w.alloc (.cells #[.int .i64 0, .int .i64 0] T)) w.heap.size :=
  ⟨⟨by unfold zC; go_simp, by unfold zC; go_simp⟩, by go_simp, by go_simp⟩
theorem rdC_is (q : ByteArray) {a b : ByteArray} (ha : a.data.toList = (Lib.cut q.data.toList [120]).1) (hb : b.data.toList = (Lib.cut q.data.toList [120]).2.1) : rdC q = if numOk a = true ∧ numOk b = true then some (numV a, numV b) else none := by
  unfold rdC
  rw [rdC_cut, ← ha, ← hb, pairC_of]
/-- The valid cut with a text. -/
def rdK (q : ByteArray) : Option Ct := match rdC q with | some z => if cutB z = true then some z else none | none => none
set_option maxRecDepth 20000 in
set_option maxHeartbeats 8000000 in
theorem readCut_any (q : ByteArray) (w : World) (hs : q.size ≤ 1048576) (hp : Hid (RqOk w)) :
    Calls Tryd.prog 22 #[.string q] w fun e w' => (∃ x y, e = .returned (.tuple #[.agg #[.int .i64 x, .int .i64 y], .bool (rdK q).isSome]) ∧ ∀ z, rdK q = some z → z = (x, y)) ∧ Below w.heap.size w w' := by
  obtain ⟨F1, F2⟩ := cut_len120 q.data.toList
  rw [size_list] at F1 F2
  obtain ⟨a, ha⟩ : ∃ a : ByteArray, (⟨(Lib.cut q.data.toList [120]).1.toArray⟩ : ByteArray) = a := ⟨_, rfl⟩
  obtain ⟨b, hb⟩ : ∃ b : ByteArray, (⟨(Lib.cut q.data.toList [120]).2.1.toArray⟩ : ByteArray) = b := ⟨_, rfl⟩
  have hda : a.data.toList = (Lib.cut q.data.toList [120]).1 := by rw [← ha]
  have hdb : b.data.toList = (Lib.cut q.data.toList [120]).2.1 := by rw [← hb]
  have HRD := Lib.hid (rdC_is q hda hdb)
  have hza : a.size ≤ 1048576 := by rw [← size_list a, hda]; omega
  have hzb : b.size ≤ 1048576 := by rw [← size_list b, hdb]; omega
  have HC := Lib.hid (fun w (hm : Hid (MaxOk w)) => cutC_any q w hs hm)
  rw [ha, hb] at HC
  generalize (Lib.cut q.data.toList [120]).2.2 = cc at *
  clear ha hb hda hdb F1 F2
  have HA := Lib.hid (fun w (h : Hid (ReadOk w)) => implReadDecimal_any a w hza h)
  have HBB := Lib.hid (fun w (h : Hid (ReadOk w)) => implReadDecimal_any b w hzb h)
  unfold NumRet at HA HBB
  generalize numV a = x at *
  generalize numV b = y at *
  generalize numOk a = oa at *
  generalize numOk b = ob at *
  obtain ⟨cc2, hcc2⟩ : ∃ c, cutB (x, y) = c := ⟨_, rfl⟩
  have HVC := Lib.hid (fun W => cutValid_any x y W)
  rw [hcc2] at HVC
  have HE := Lib.hid (show (rdK q).isSome = (oa && (ob && cc2)) ∧ ∀ z, rdK q = some z → z = (x, y) by
    unfold rdK
    rw [HRD.out]
    cases oa <;> cases ob <;> cases cc2 <;> simp [hcc2])
  clear hcc2
  rw [HE.out.1]
  clear HRD hza hzb
  go_enter Tryd.func22, Tryd.ntmps22
  go_wp2_with fail
  have hc0 := cleanC_alloc w 47
  have hcl : w.heap.size < (w.alloc (.cells #[.int .i64 0, .int .i64 0] 47)).heap.size := by rw [World.size_alloc]; omega
  have HBA := Lib.hid ((Below.refl w.heap.size w).alloc (Nat.le_refl _) (.cells #[.int .i64 0, .int .i64 0] 47))
  generalize w.alloc (.cells #[.int .i64 0, .int .i64 0] 47) = wA at *
  have HP0 := Lib.hid (rq_kept HBA.out hp.out)
  refine (HC.out _ (Lib.hid HP0.out.mx)).mono ?_
  rintro en w1 ⟨rfl, hb⟩
  have HX1 := Lib.hid (cleanC_kept hb hcl hc0)
  have hcl1 := Nat.lt_of_lt_of_le hcl hb.size
  have HP1 := Lib.hid (rq_kept hb HP0.out)
  have HB1 := Lib.hid (below_of HBA.out hb HBA.out.size)
  clear hb hc0
  go_wp2_with fail
  refine (HA.out _ (Lib.hid HP1.out.rd)).mono ?_
  rintro en w2 ⟨rfl, hb⟩
  have HX2 := Lib.hid (cleanC_kept hb hcl1 HX1.out)
  have hcl2 := Nat.lt_of_lt_of_le hcl1 hb.size
  have HP2 := Lib.hid (rq_kept hb HP1.out)
  have HB2 := Lib.hid (below_of HB1.out hb HB1.out.size)
  clear hb
  go_wp2_with fail
  refine (HBB.out _ (Lib.hid HP2.out.rd)).mono ?_
  rintro en w3 ⟨rfl, hb⟩
  have HX3 := Lib.hid (cleanC_kept hb hcl2 HX2.out)
  have hcl3 := Nat.lt_of_lt_of_le hcl2 hb.size
  have HB3 := Lib.hid (below_of HB2.out hb HB2.out.size)
  clear hb
  have hne : w.heap.size ≠ w3.heap.size := by omega
  have hba := below_alX w3 (.cells #[.int .i64 x, .int .i64 y] 47)
  have hlA := alloc_ltX w3 (.cells #[.int .i64 x, .int .i64 y] 47)
  have HX4 := Lib.hid (cleanC_kept hba hcl3 HX3.out)
  have HB4 := Lib.hid (below_of HB3.out hba HB3.out.size)
  have m0 : (w3.alloc (.cells #[.int .i64 x, .int .i64 y] 47)).cell? ⟨w3.heap.size, 0, none⟩ = some (.int .i64 x) := by go_simp
  have m1 : (w3.alloc (.cells #[.int .i64 x, .int .i64 y] 47)).cell? ⟨w3.heap.size, 1, none⟩ = some (.int .i64 y) := by go_simp
  have hcl4 : w.heap.size < (w3.alloc (.cells #[.int .i64 x, .int .i64 y] 47)).heap.size := Nat.lt_of_lt_of_le hcl3 hba.size
  go_wp2
  generalize w3.alloc (.cells #[.int .i64 x, .int .i64 y] 47) = w4 at *
  clear hba
  have HBD := Lib.hid (show Below w.heap.size w w4.drew from ⟨HB4.out.os, HB4.out.tape, HB4.out.output, HB4.out.size, HB4.out.block⟩)
  have HKV := Lib.hid (fun w2 (hb5 : Below w4.drew.heap.size w4.drew w2) => show w2.cell? ⟨w3.heap.size, 0, none⟩ = some (.int .i64 x) ∧ w2.cell? ⟨w3.heap.size, 1, none⟩ = some (.int .i64 y) ∧ CleanC w2 w.heap.size ∧ Below w.heap.size w w2 from
    (let hb6 : Below w4.heap.size w4 w2 := ⟨hb5.os, hb5.tape, hb5.output, hb5.size, hb5.block⟩
     ⟨(below_cell hb6 _ _ hlA).trans m0, (below_cell hb6 _ _ hlA).trans m1, cleanC_kept hb6 hcl4 HX4.out, below_of HB4.out hb6 HB4.out.size⟩))
  obtain ⟨⟨x0, x1⟩, y0, y1⟩ := HX4.out
  unfold zC at x0 x1
  simp only [Nat.zero_add] at x1
  cases oa
  · skip
    refine wp_region_held_drew (S := fun w' => w'.cell? ⟨w3.heap.size, 0, none⟩ = some (.int .i64 x) ∧ w'.cell? ⟨w3.heap.size, 1, none⟩ = some (.int .i64 y) ∧ Below w.heap.size w w') (by kernel_rfl) (⟨m0, m1, HBD.out⟩) (fun hHeld => ?_)
    refine takeH 0 (some 31) (.agg #[.int .i64 x, .int .i64 y]) hHeld rfl rfl (by rfl) (by kernel_rfl) (by kernel_rfl) (by kernel_rfl) (fun _ _ _ h => h) (fun wS hSw => ?_) ?_
    · ((try dsimp only at hSw); go_simp; try with_reducible rfl)
    simp only [Act.put, List.setIfInBounds_toArray, List.set_cons_zero, List.set_cons_succ]
    refine takeH 1 (some 32) (.bool false) hHeld rfl rfl (by rfl) (by kernel_rfl) (by kernel_rfl) (by kernel_rfl) (fun _ _ _ h => h) (fun wS hSw => ?_) ?_
    · ((try dsimp only at hSw); go_simp; try with_reducible rfl)
    simp only [Act.put, List.setIfInBounds_toArray, List.set_cons_zero, List.set_cons_succ]
    refine takeH 2 (some 33) (.bool false) hHeld rfl rfl (by rfl) (by kernel_rfl) (by kernel_rfl) (by kernel_rfl) (fun _ _ _ h => h) (fun wS hSw => ?_) ?_
    · ((try dsimp only at hSw); go_simp; try with_reducible rfl)
    simp only [Act.put, List.setIfInBounds_toArray, List.set_cons_zero, List.set_cons_succ]
    refine skipH 3 (some 34) hHeld rfl (by rfl) (by kernel_rfl) (by kernel_rfl) (by kernel_rfl) (fun _ _ _ h => h) ?_
    simp only [Act.put, List.setIfInBounds_toArray, List.set_cons_zero, List.set_cons_succ]
    refine takeH 4 (some 35) (.bool false) hHeld rfl rfl (by rfl) (by kernel_rfl) (by kernel_rfl) (by kernel_rfl) (fun _ _ _ h => h) (fun wS hSw => ?_) ?_
    · ((try dsimp only at hSw); go_simp; try with_reducible rfl)
    simp only [Act.put, List.setIfInBounds_toArray, List.set_cons_zero, List.set_cons_succ]
    refine takeH 5 (some 36) (.bool false) hHeld rfl rfl (by rfl) (by kernel_rfl) (by kernel_rfl) (by kernel_rfl) (fun _ _ _ h => h) (fun wS hSw => ?_) ?_
    · ((try dsimp only at hSw); go_simp; try with_reducible rfl)
    simp only [Act.put, List.setIfInBounds_toArray, List.set_cons_zero, List.set_cons_succ]
    refine skipH 6 (some 37) hHeld rfl (by rfl) (by kernel_rfl) (by kernel_rfl) (by kernel_rfl) (fun _ _ _ h => h) ?_
    simp only [Act.put, List.setIfInBounds_toArray, List.set_cons_zero, List.set_cons_succ]
    refine skipH 7 (some 38) hHeld rfl (by rfl) (by kernel_rfl) (by kernel_rfl) (by kernel_rfl) (fun _ _ _ h => h) ?_
    simp only [Act.put, List.setIfInBounds_toArray, List.set_cons_zero, List.set_cons_succ]
    refine takeH 8 (some 39) (.bool false) hHeld rfl rfl (by rfl) (by kernel_rfl) (by kernel_rfl) (by kernel_rfl) (fun _ _ _ h => h) (fun wS hSw => ?_) ?_
    · ((try dsimp only at hSw); go_simp; try with_reducible rfl)
    simp only [Act.put, List.setIfInBounds_toArray, List.set_cons_zero, List.set_cons_succ]
    refine loneH 9 none rfl rfl (by kernel_rfl) (by rfl) (fun K hK => ?_)
    go_simp
    refine hK.out undef _ (⟨(World.cell?_setCell_far _ _ _ _ hne).trans ((World.cell?_setCell_far _ _ _ _ hne).trans m0), (World.cell?_setCell_far _ _ _ _ hne).trans ((World.cell?_setCell_far _ _ _ _ hne).trans m1), (HBD.out.setCell (Nat.le_refl _) _).setCell (Nat.le_refl _) _⟩) (fun hHeld2 => ?_)
    clear hK K hHeld
    have hHeld := hHeld2
    clear hHeld2
    simp only [Act.put]
    refine takeH 10 (some 3) (.bool false) hHeld rfl rfl (by rfl) (by kernel_rfl) (by kernel_rfl) (by kernel_rfl) (fun _ _ _ h => h) (fun wS hSw => ?_) ?_
    · ((try dsimp only at hSw); go_simp; try with_reducible rfl)
    simp only [Act.put, List.setIfInBounds_toArray, List.set_cons_zero, List.set_cons_succ]
    refine wpAnyH_done (by kernel_rfl) ?_ _
    go_wp2
    try simp only [Exit.inBlock, Exit.then]
    refine bodyPost_ret_by (v := .tuple #[.agg #[.int .i64 x, .int .i64 y], .bool (false && (ob && cc2))]) (by rw [results_cell_tmp rfl]; go_simp) rfl ?_
    exact ⟨⟨x, y, rfl, by first | exact HE.out.2 | exact fun a b h => (let e := HE.out.2 _ h; ⟨congrArg Prod.fst e, congrArg Prod.snd e⟩)⟩, (HBD.out.setCell (Nat.le_refl _) _).setCell (Nat.le_refl _) _⟩
  · cases ob
    · skip
      refine wp_region_held_drew (S := fun w' => w'.cell? ⟨w3.heap.size, 0, none⟩ = some (.int .i64 x) ∧ w'.cell? ⟨w3.heap.size, 1, none⟩ = some (.int .i64 y) ∧ Below w.heap.size w w') (by kernel_rfl) (⟨m0, m1, HBD.out⟩) (fun hHeld => ?_)
      refine takeH 0 (some 31) (.agg #[.int .i64 x, .int .i64 y]) hHeld rfl rfl (by rfl) (by kernel_rfl) (by kernel_rfl) (by kernel_rfl) (fun _ _ _ h => h) (fun wS hSw => ?_) ?_
      · ((try dsimp only at hSw); go_simp; try with_reducible rfl)
      simp only [Act.put, List.setIfInBounds_toArray, List.set_cons_zero, List.set_cons_succ]
      refine takeH 1 (some 32) (.bool true) hHeld rfl rfl (by rfl) (by kernel_rfl) (by kernel_rfl) (by kernel_rfl) (fun _ _ _ h => h) (fun wS hSw => ?_) ?_
      · ((try dsimp only at hSw); go_simp; try with_reducible rfl)
      simp only [Act.put, List.setIfInBounds_toArray, List.set_cons_zero, List.set_cons_succ]
      refine takeH 2 (some 33) (.bool true) hHeld rfl rfl (by rfl) (by kernel_rfl) (by kernel_rfl) (by kernel_rfl) (fun _ _ _ h => h) (fun wS hSw => ?_) ?_
      · ((try dsimp only at hSw); go_simp; try with_reducible rfl)
      simp only [Act.put, List.setIfInBounds_toArray, List.set_cons_zero, List.set_cons_succ]
      refine takeH 3 (some 34) (.bool false) hHeld rfl rfl (by rfl) (by kernel_rfl) (by kernel_rfl) (by kernel_rfl) (fun _ _ _ h => h) (fun wS hSw => ?_) ?_
      · ((try dsimp only at hSw); go_simp; try with_reducible rfl)
      simp only [Act.put, List.setIfInBounds_toArray, List.set_cons_zero, List.set_cons_succ]
      refine takeH 4 (some 35) (.bool false) hHeld rfl rfl (by rfl) (by kernel_rfl) (by kernel_rfl) (by kernel_rfl) (fun _ _ _ h => h) (fun wS hSw => ?_) ?_
      · ((try dsimp only at hSw); go_simp; try with_reducible rfl)
      simp only [Act.put, List.setIfInBounds_toArray, List.set_cons_zero, List.set_cons_succ]
      refine takeH 5 (some 36) (.bool false) hHeld rfl rfl (by rfl) (by kernel_rfl) (by kernel_rfl) (by kernel_rfl) (fun _ _ _ h => h) (fun wS hSw => ?_) ?_
      · ((try dsimp only at hSw); go_simp; try with_reducible rfl)
      simp only [Act.put, List.setIfInBounds_toArray, List.set_cons_zero, List.set_cons_succ]
      refine skipH 6 (some 37) hHeld rfl (by rfl) (by kernel_rfl) (by kernel_rfl) (by kernel_rfl) (fun _ _ _ h => h) ?_
      simp only [Act.put, List.setIfInBounds_toArray, List.set_cons_zero, List.set_cons_succ]
      refine skipH 7 (some 38) hHeld rfl (by rfl) (by kernel_rfl) (by kernel_rfl) (by kernel_rfl) (fun _ _ _ h => h) ?_
      simp only [Act.put, List.setIfInBounds_toArray, List.set_cons_zero, List.set_cons_succ]
      refine takeH 8 (some 39) (.bool false) hHeld rfl rfl (by rfl) (by kernel_rfl) (by kernel_rfl) (by kernel_rfl) (fun _ _ _ h => h) (fun wS hSw => ?_) ?_
      · ((try dsimp only at hSw); go_simp; try with_reducible rfl)
      simp only [Act.put, List.setIfInBounds_toArray, List.set_cons_zero, List.set_cons_succ]
      refine loneH 9 none rfl rfl (by kernel_rfl) (by rfl) (fun K hK => ?_)
      go_simp
      refine hK.out undef _ (⟨(World.cell?_setCell_far _ _ _ _ hne).trans ((World.cell?_setCell_far _ _ _ _ hne).trans m0), (World.cell?_setCell_far _ _ _ _ hne).trans ((World.cell?_setCell_far _ _ _ _ hne).trans m1), (HBD.out.setCell (Nat.le_refl _) _).setCell (Nat.le_refl _) _⟩) (fun hHeld2 => ?_)
      clear hK K hHeld
      have hHeld := hHeld2
      clear hHeld2
      simp only [Act.put]
      refine takeH 10 (some 3) (.bool false) hHeld rfl rfl (by rfl) (by kernel_rfl) (by kernel_rfl) (by kernel_rfl) (fun _ _ _ h => h) (fun wS hSw => ?_) ?_
      · ((try dsimp only at hSw); go_simp; try with_reducible rfl)
      simp only [Act.put, List.setIfInBounds_toArray, List.set_cons_zero, List.set_cons_succ]
      refine wpAnyH_done (by kernel_rfl) ?_ _
      go_wp2
      try simp only [Exit.inBlock, Exit.then]
      refine bodyPost_ret_by (v := .tuple #[.agg #[.int .i64 x, .int .i64 y], .bool (true && (false && cc2))]) (by rw [results_cell_tmp rfl]; go_simp) rfl ?_
      exact ⟨⟨x, y, rfl, by first | exact HE.out.2 | exact fun a b h => (let e := HE.out.2 _ h; ⟨congrArg Prod.fst e, congrArg Prod.snd e⟩)⟩, (HBD.out.setCell (Nat.le_refl _) _).setCell (Nat.le_refl _) _⟩
    · skip
      refine wp_region_held_drew (S := fun w' => w'.cell? ⟨w3.heap.size, 0, none⟩ = some (.int .i64 x) ∧ w'.cell? ⟨w3.heap.size, 1, none⟩ = some (.int .i64 y) ∧ Below w.heap.size w w') (by kernel_rfl) (⟨m0, m1, HBD.out⟩) (fun hHeld => ?_)
      refine takeH 0 (some 31) (.agg #[.int .i64 x, .int .i64 y]) hHeld rfl rfl (by rfl) (by kernel_rfl) (by kernel_rfl) (by kernel_rfl) (fun _ _ _ h => h) (fun wS hSw => ?_) ?_
      · ((try dsimp only at hSw); go_simp; try with_reducible rfl)
      simp only [Act.put, List.setIfInBounds_toArray, List.set_cons_zero, List.set_cons_succ]
      refine takeH 1 (some 32) (.bool true) hHeld rfl rfl (by rfl) (by kernel_rfl) (by kernel_rfl) (by kernel_rfl) (fun _ _ _ h => h) (fun wS hSw => ?_) ?_
      · ((try dsimp only at hSw); go_simp; try with_reducible rfl)
      simp only [Act.put, List.setIfInBounds_toArray, List.set_cons_zero, List.set_cons_succ]
      refine takeH 2 (some 33) (.bool true) hHeld rfl rfl (by rfl) (by kernel_rfl) (by kernel_rfl) (by kernel_rfl) (fun _ _ _ h => h) (fun wS hSw => ?_) ?_
      · ((try dsimp only at hSw); go_simp; try with_reducible rfl)
      simp only [Act.put, List.setIfInBounds_toArray, List.set_cons_zero, List.set_cons_succ]
      refine takeH 3 (some 34) (.bool true) hHeld rfl rfl (by rfl) (by kernel_rfl) (by kernel_rfl) (by kernel_rfl) (fun _ _ _ h => h) (fun wS hSw => ?_) ?_
      · ((try dsimp only at hSw); go_simp; try with_reducible rfl)
      simp only [Act.put, List.setIfInBounds_toArray, List.set_cons_zero, List.set_cons_succ]
      refine takeH 4 (some 35) (.bool true) hHeld rfl rfl (by rfl) (by kernel_rfl) (by kernel_rfl) (by kernel_rfl) (fun _ _ _ h => h) (fun wS hSw => ?_) ?_
      · ((try dsimp only at hSw); go_simp; try with_reducible rfl)
      simp only [Act.put, List.setIfInBounds_toArray, List.set_cons_zero, List.set_cons_succ]
      refine takeH 5 (some 36) (.bool true) hHeld rfl rfl (by rfl) (by kernel_rfl) (by kernel_rfl) (by kernel_rfl) (fun _ _ _ h => h) (fun wS hSw => ?_) ?_
      · ((try dsimp only at hSw); go_simp; try with_reducible rfl)
      simp only [Act.put, List.setIfInBounds_toArray, List.set_cons_zero, List.set_cons_succ]
      refine takeH 6 (some 37) (.agg #[.int .i64 x, .int .i64 y]) hHeld rfl rfl (by rfl) (by kernel_rfl) (by kernel_rfl) (by kernel_rfl) (fun _ _ _ h => h) (fun wS hSw => ?_) ?_
      · ((try dsimp only at hSw); go_simp; try with_reducible rfl)
      simp only [Act.put, List.setIfInBounds_toArray, List.set_cons_zero, List.set_cons_succ]
      refine loneH 7 (some 38) rfl rfl (by kernel_rfl) (by rfl) (fun K hK => ?_)
      go_simp; refine (HVC.out w4.drew).mono ?_; rintro en w6 ⟨rfl, hb6⟩; have hk6 := HKV.out _ hb6; obtain ⟨s0, s1, ⟨⟨u0, u1⟩, z0, z1⟩, hbk⟩ := hk6; unfold zC at u0 u1; simp only [Nat.zero_add] at u1
      refine hK.out _ _ (⟨s0, s1, hbk⟩) (fun hHeld2 => ?_)
      clear hK K hHeld
      have hHeld := hHeld2
      clear hHeld2
      simp only [Act.put, List.setIfInBounds_toArray, List.set_cons_zero, List.set_cons_succ]
      refine takeH 8 (some 39) (.bool cc2) hHeld rfl rfl (by rfl) (by kernel_rfl) (by kernel_rfl) (by kernel_rfl) (fun _ _ _ h => h) (fun wS hSw => ?_) ?_
      · ((try dsimp only at hSw); go_simp; try with_reducible rfl)
      simp only [Act.put, List.setIfInBounds_toArray, List.set_cons_zero, List.set_cons_succ]
      refine loneH 9 none rfl rfl (by kernel_rfl) (by rfl) (fun K hK => ?_)
      go_simp
      refine hK.out undef _ (⟨(World.cell?_setCell_far _ _ _ _ hne).trans ((World.cell?_setCell_far _ _ _ _ hne).trans s0), (World.cell?_setCell_far _ _ _ _ hne).trans ((World.cell?_setCell_far _ _ _ _ hne).trans s1), (hbk.setCell (Nat.le_refl _) _).setCell (Nat.le_refl _) _⟩) (fun hHeld2 => ?_)
      clear hK K hHeld
      have hHeld := hHeld2
      clear hHeld2
      simp only [Act.put]
      refine takeH 10 (some 3) (.bool cc2) hHeld rfl rfl (by rfl) (by kernel_rfl) (by kernel_rfl) (by kernel_rfl) (fun _ _ _ h => h) (fun wS hSw => ?_) ?_
      · ((try dsimp only at hSw); go_simp; try with_reducible rfl)
      simp only [Act.put, List.setIfInBounds_toArray, List.set_cons_zero, List.set_cons_succ]
      refine wpAnyH_done (by kernel_rfl) ?_ _
      go_wp2
      try simp only [Exit.inBlock, Exit.then]
      refine bodyPost_ret_by (v := .tuple #[.agg #[.int .i64 x, .int .i64 y], .bool (true && (true && cc2))]) (by rw [results_cell_tmp rfl]; go_simp) rfl ?_
      exact ⟨⟨x, y, rfl, by first | exact HE.out.2 | exact fun a b h => (let e := HE.out.2 _ h; ⟨congrArg Prod.fst e, congrArg Prod.snd e⟩)⟩, (hbk.setCell (Nat.le_refl _) _).setCell (Nat.le_refl _) _⟩
theorem split65X (c : UInt8) (l : List UInt8) : (64 < (splitL c l).length → 64 < (Lib.splitK [c] 0 (min 65 (l.length + 1) - 1) l).length) ∧ ((splitL c l).length ≤ 64 → Lib.splitK [c] 0 (min 65 (l.length + 1) - 1) l = splitL c l) := by
  have hl := splitL_len c l
  obtain ⟨h1, h2⟩ := splitK_spec c (min 65 (l.length + 1) - 1) l
  refine ⟨fun h => ?_, fun h => h1 (by omega)⟩
  by_cases h3 : (splitL c l).length ≤ min 65 (l.length + 1) - 1 + 1
  · rw [h1 h3]; exact h
  · rw [h2 (by omega)]; omega
theorem splitNC_any (s : ByteArray) (w : World) (hm : MaxOk w) (hs : s.size ≤ 1048576) :
    Calls Tryd.prog 35 #[.string s, .string ⟨#[44]⟩, .int .i64 65] w fun e w' => ∃ (g cap : Nat) (qs : List ByteArray), e = .returned (.slice (some ⟨g, 0, none⟩) qs.length cap) ∧ qs.map (·.data.toList) = Lib.splitK [44] 0 (min 65 (s.data.toList.length + 1) - 1) s.data.toList ∧
      g < w'.heap.size ∧ (∀ j, j < qs.length → w'.cell? ⟨g, j, none⟩ = some (.string (qs.getD j ByteArray.empty))) ∧ Below w.heap.size w w' := by
  obtain ⟨m, hm⟩ := hm
  refine (Tryd.strings_SplitN s ⟨#[44]⟩ 65 m w (by omega) hm (by decide) (by decide) (by decide)).mono ?_
  rintro e w' ⟨rfl, rfl⟩
  refine ⟨w.heap.size, _, Lib.splitB ⟨#[44]⟩ 0 (min 65 (s.size + 1) - 1) s, rfl, ?_, by simp, fun j hj => ?_, (Below.refl _ _).alloc (Nat.le_refl _) _⟩
  · rw [Lib.splitB_data, size_list]
  · rw [World.cell?_alloc_new]
    unfold Lib.cellsOf
    rw [List.getElem?_toArray, List.getElem?_append_left (by simpa using hj), List.getElem?_map, List.getD_eq_getElem?_getD, List.getElem?_eq_getElem hj]
    rfl
theorem partsC_many {s : ByteArray} {qs : List ByteArray} (hq : qs.map (·.data.toList) = Lib.splitK [44] 0 (min 65 (s.data.toList.length + 1) - 1) s.data.toList) (h : 64 < qs.length) : 64 < (splitL 44 s.data.toList).length := by
  by_cases hc : 64 < (splitL 44 s.data.toList).length
  · exact hc
  · have e := (split65X 44 s.data.toList).2 (by omega)
    rw [← hq] at e
    have := congrArg List.length e
    rw [List.length_map] at this
    omega
theorem partsC_few {s : ByteArray} {qs : List ByteArray} (hq : qs.map (·.data.toList) = Lib.splitK [44] 0 (min 65 (s.data.toList.length + 1) - 1) s.data.toList) (h : ¬ 64 < qs.length) : qs.map (·.data.toList) = splitL 44 s.data.toList := by
  have hc : ¬ 64 < (splitL 44 s.data.toList).length := by
    intro hc
    have := (split65X 44 s.data.toList).1 hc
    rw [← hq, List.length_map] at this
    exact h this
  have e := (split65X 44 s.data.toList).2 (by omega)
  rwa [← hq] at e
def fC (zs : List Ct) (n : Nat) : List Ct := zs ++ List.replicate (n - zs.length) zC
theorem fC_next (zs : List Ct) (n k : Nat) (z : Ct) (hk : zs.length = k) (h : k < n) : (fC zs n).set k z = fC (zs ++ [z]) n := by
  unfold fC
  rw [List.length_append, List.length_singleton, hk, show n - k = n - (k + 1) + 1 from by omega, List.replicate_succ, List.set_append_right _ _ (by simp [hk]), hk, Nat.sub_self, List.set_cons_zero]
  simp
theorem fC_len (zs : List Ct) (n : Nat) (h : zs.length ≤ n) : (fC zs n).length = n := by unfold fC; rw [List.length_append, List.length_replicate]; omega
theorem fC_all (zs : List Ct) (n : Nat) (h : zs.length = n) : fC zs n = zs := by unfold fC; rw [h, Nat.sub_self]; simp
theorem fC_none (n : Nat) : fC [] n = List.replicate n zC := by unfold fC; simp
/-- All parts of s are read, and there are no more than 64 of them; or none is answered. -/
def PartsC (s : ByteArray) (w : World) (e : Ending) (w' : World) : Prop := Below w.heap.size w w' ∧
  ((e = .returned (.tuple #[.slice none 0 0, .bool false]) ∧ (64 < (splitL 44 s.data.toList).length ∨ ∃ (ps : List ByteArray) (k : Nat), ps.map (·.data.toList) = splitL 44 s.data.toList ∧ k < ps.length ∧ rdK (ps.getD k ByteArray.empty) = none)) ∨
   ∃ (ps : List ByteArray) (zs : List Ct) (v : Value), ps.map (·.data.toList) = splitL 44 s.data.toList ∧ ps.length ≤ 64 ∧ zs.length = ps.length ∧ (∀ j, j < ps.length → rdK (ps.getD j ByteArray.empty) = some (zs.getD j zC)) ∧ e = .returned (.tuple #[v, .bool true]) ∧ RowC w' w.heap.size v zs)
theorem rowC_base {w : World} {B B' : Nat} {v : Value} {xs : List Ct} (h : RowC w B v xs) (hB : B' ≤ B) : RowC w B' v xs := by
  obtain ⟨h1, h2 | ⟨g, cap, cur, h3, h4, h5⟩⟩ := h
  · exact ⟨h1, .inl h2⟩
  · exact ⟨h1, .inr ⟨g, cap, cur, h3, Nat.le_trans hB h4, h5⟩⟩
set_option maxRecDepth 20000 in
set_option maxHeartbeats 2000000 in
theorem readPartsC_any (s : ByteArray) (w : World) (hs : s.size ≤ 1048576) (hp : Hid (RqOk w)) :
    Calls Tryd.prog 21 #[.string s, .string ⟨#[44]⟩, .int .i64 64, .func (.func 22) #[] #[]] w (PartsC s w) := by
  obtain ⟨i0, hi, hz0, hz1, hz2⟩ := info_parts infoC
  have HF := Lib.hid (fun (q : ByteArray) (w1 : World) (h1 : q.size ≤ 1048576) (h2 : Hid (RqOk w1)) => readCut_any q w1 h1 h2)
  go_enter Tryd.func21, Tryd.ntmps21
  go_wp2_with fail
  refine (splitNC_any s _ hp.out.mx hs).mono ?_
  rintro e w1 ⟨g1, c1, qs, rfl, hqs, hlt1, hcells, hb1⟩
  obtain ⟨n, hn⟩ : ∃ n, qs.length = n := ⟨_, rfl⟩
  rw [hn] at hcells ⊢
  have HN := Lib.hid hn
  have HQS := Lib.hid hqs
  have HCE := Lib.hid hcells
  have HB1 := Lib.hid hb1
  have hsz1 := hb1.size
  clear hqs hcells hb1 hn
  by_cases h64 : 64 < n
  · have HV := Lib.hid (partsC_many HQS.out (by rw [HN.out]; exact h64))
    have h64i : (64 : Int) < (n : Int) := by omega
    go_wp2
    go_ret2
    exact ⟨HB1.out, .inl ⟨rfl, .inl HV.out⟩⟩
  · have HV := Lib.hid (partsC_few HQS.out (by rw [HN.out]; exact h64))
    have h64i : ¬ (64 : Int) < (n : Int) := by omega
    go_wp2_with (at_make; refine wpList_make_full _ rfl _ _ 22 rfl w1.heap.size 47 i0 (.agg #[.int .i64 0, .int .i64 0]) 2 Tryd.underlying22 hi hz0 hz1 .i64 .i64 _ _ n rfl rfl rfl rfl (by rw [hz2]; omega) (by unfold maxLen; omega) (Nat.le_refl _) ?_; intro w0 hown hgrow)
    have HB0 := Lib.hid ((Below.refl w1.heap.size w1).grown hgrow (Nat.le_refl _) (fun k hk => by cases hk))
    rw [made_cuts, ← fC_none] at hown
    have HO0 := Lib.hid hown
    clear hgrow hown
    go_wp2
    go_loopw [30] (fun i wr => ∃ (k : Nat) (zs : List Ct), k ≤ n ∧ i = .int .i64 k ∧ Hid (zs.length = k) ∧ Hid (∀ j, j < k → rdK (qs.getD j ByteArray.empty) = some (zs.getD j zC)) ∧ wr.ownsRow w1.heap.size 47 2 (.slice (some ⟨w1.heap.size, 0, none⟩) n n) n (i64s (flatC (fC zs n))) ∧ Below w1.heap.size w1 wr) (fun i _ => n - (intOf i).toNat)
    case atStart => exact ⟨0, [], by omega, rfl, rfl, fun j hj => by omega, HO0.out, HB0.out⟩
    case round =>
      obtain ⟨k, zs, hk, rfl, HL, HA, hown, hbw⟩ := hrel
      have HO := Lib.hid hown
      have HB := Lib.hid hbw
      have hsz := hbw.size
      by_cases hlt : k < n
      · have hcell : wr.cell? ⟨g1, k, none⟩ = some (.string (qs.getD k ByteArray.empty)) := by rw [hbw.cell (p := ⟨g1, k, none⟩) hlt1]; exact HCE.out k hlt
        have hq := partC_size HV.out k (by rw [HN.out]; exact hlt)
        have HP := Lib.hid (rq_kept (HB1.out.trans (hbw.mono hsz1)) hp.out)
        have HNO := Lib.hid (show rdK (qs.getD k ByteArray.empty) = none → ∃ (ps : List ByteArray) (k : Nat), ps.map (·.data.toList) = splitL 44 s.data.toList ∧ k < ps.length ∧ rdK (ps.getD k ByteArray.empty) = none from fun h => ⟨qs, k, HV.out, by rw [HN.out]; exact hlt, h⟩)
        have HKEEP := Lib.hid (show ∀ z, rdK (qs.getD k ByteArray.empty) = some z → ∀ j, j < k + 1 → rdK (qs.getD j ByteArray.empty) = some ((zs ++ [z]).getD j zC) from fun z hz j hj => by
          by_cases e : j = k
          · subst e
            rw [hz, snocC_last zs z j HL.out]
          · rw [snocC_get zs z j (by rw [HL.out]; omega)]; exact HA.out j (by omega))
        have hkn : (k : Int) < (n : Int) := by omega
        have hk0 : (0 : Int) ≤ (k : Int) := by omega
        clear hown hbw
        generalize qs.getD k ByteArray.empty = q at *
        obtain ⟨r, hr⟩ : ∃ r, rdK q = r := ⟨_, rfl⟩
        rw [hr] at HNO HKEEP
        have HR := Lib.hid hr
        clear hr
        go_wp2_with fail
        refine (HF.out q _ (by omega) HP).mono ?_
        rintro e w3 ⟨⟨x, y, rfl, hzr⟩, hb3⟩
        rw [HR.out] at hzr ⊢
        have HZR := Lib.hid hzr
        have HO3 := Lib.hid (row_keepC hb3 HO.out)
        have HB3 := Lib.hid (below_of HB.out hb3 HB.out.size)
        have hs3 := hb3.size
        clear hb3 hcell hzr
        cases r with
        | none =>
          go_wp2
          go_ret2
          exact ⟨HB1.out.trans ((HB3.out.alloc (by omega) _).mono hsz1), .inl ⟨rfl, .inr (HNO.out (by first | rfl | trivial))⟩⟩
        | some z =>
          have HZ := Lib.hid (HZR.out z rfl)
          have HKP := Lib.hid (show ∀ j, j < k + 1 → rdK (qs.getD j ByteArray.empty) = some ((zs ++ [(x, y)]).getD j zC) by rw [← HZ.out]; exact HKEEP.out z rfl)
          have hw3 : w1.heap.size < w3.heap.size := (HO3.out.lt _ rfl).2
          have f0 := HO3.out.frozenAt (k * 2)
          have f1 := HO3.out.frozenAt (k * 2 + 1)
          obtain ⟨d0, d1⟩ := own_inC (fC_len zs n (by rw [HL.out]; omega)) HO3.out k hlt
          have HS := Lib.hid (storeC HO3.out k (x, y))
          rw [fC_next zs n k (x, y) HL.out hlt] at HS
          generalize (fC zs n).getD k zC = old at *
          have HBS := Lib.hid ((HB3.out.setCell (p := ⟨w1.heap.size, k * 2, none⟩) (Nat.le_refl _) (.int .i64 x)).setCell (p := ⟨w1.heap.size, k * 2 + 1, none⟩) (Nat.le_refl _) (.int .i64 y))
          clear HKEEP HNO HZR
          go_wp2
          go_roundw
          case rel => exact ⟨k + 1, zs ++ [(x, y)], by omega, by go_num, (show (zs ++ [(x, y)]).length = k + 1 by rw [List.length_append, HL.out]; rfl), HKP.out, HS.out.alloc _, HBS.out.alloc (by simp; omega) _⟩
          case measure => simp [intOf]; omega
      · obtain rfl : k = n := by omega
        clear hown hbw
        rw [fC_all zs k HL.out] at HO
        go_wp2
        go_ret2
        exact ⟨HB1.out.trans (HB.out.mono hsz1), .inr ⟨qs, zs, _, HV.out, by rw [HN.out]; omega, by rw [HL.out, HN.out], fun j hj => HA.out j (by rw [HN.out] at hj; exact hj), rfl, rowC_base (by unfold RowC; rw [HL.out]; exact HO.out) hsz1⟩⟩
end Go.Proofs.YtikoehjalcljnaaDoor
