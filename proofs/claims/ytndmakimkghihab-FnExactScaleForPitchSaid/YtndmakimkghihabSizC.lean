/- A ring of another size: the program's function. -/
import Derived.Test.YtndmakimkghihabRatio
import Derived.Test.YtndmakimkghihabWithO
import Derived.Test.YtndmakimkghihabHand
import Derived.Test.YtndmakimkghihabSumLie
set_option linter.unusedVariables false
namespace Go.Proofs.Ytndmakimkghihab
open Go.ChangeShapes Go.WideShapes Go.ChangeAt Go.RowKit

def sizF (g1 g2 : Nat) : Value := .func (.func 105) #[] #[.pointer (some ⟨g1, 0, none⟩), .pointer (some ⟨g2, 0, none⟩)]
def SzS (w0 : World) (G g1 g2 : Nat) (num den x y z : Int) (w : World) : Prop :=
  (w.cell? ⟨G, 0, none⟩ = some (sizF g1 g2) ∧ w.cell? ⟨g1, 0, none⟩ = some (.int .i64 num) ∧ w.cell? ⟨g2, 0, none⟩ = some (.int .i64 den) ∧ w.cell? ⟨w0.heap.size, 0, none⟩ = some (.int .i64 x) ∧ w.cell? ⟨w0.heap.size, 1, none⟩ = some (.int .i64 y) ∧ w.cell? ⟨w0.heap.size, 2, none⟩ = some (.int .i64 z)) ∧ w0.heap.size < w.heap.size
theorem cell_ltS {w : World} {b o : Nat} {v : Value} (h : w.cell? ⟨b, o, none⟩ = some v) : b < w.heap.size := by
  rcases Nat.lt_or_ge b w.heap.size with h1 | h1
  · exact h1
  · rw [World.cell?, Array.getElem?_eq_none (by simpa using h1)] at h; cases h
theorem szS_below {w0 w w' : World} {G g1 g2 : Nat} {num den x y z : Int} (h : SzS w0 G g1 g2 num den x y z w) (hb : Below w.heap.size w w') : SzS w0 G g1 g2 num den x y z w' := by
  obtain ⟨⟨a, b, c, d, e, f⟩, g⟩ := h
  exact ⟨⟨(below_cell hb _ _ (cell_ltS a)).trans a, (below_cell hb _ _ (cell_ltS b)).trans b, (below_cell hb _ _ (cell_ltS c)).trans c, (below_cell hb _ _ g).trans d, (below_cell hb _ _ g).trans e, (below_cell hb _ _ g).trans f⟩, Nat.lt_of_lt_of_le g hb.size⟩
theorem szS_set {w0 w : World} {G g1 g2 : Nat} {num den x y z : Int} (h : SzS w0 G g1 g2 num den x y z w) (hn : G < w0.heap.size ∧ g1 < w0.heap.size ∧ g2 < w0.heap.size) (a b c : Value) :
    SzS w0 G g1 g2 num den x y z (((w.setCell ⟨w0.heap.size + 1, 0, none⟩ a).setCell ⟨w0.heap.size + 1, 1, none⟩ b).setCell ⟨w0.heap.size + 1, 2, none⟩ c) := by
  obtain ⟨⟨h1, h2, h3, h4, h5, h6⟩, h7⟩ := h
  have e : ∀ (w : World) (k q j : Nat) (v : Value), q ≠ w0.heap.size + 1 → (w.setCell ⟨w0.heap.size + 1, k, none⟩ v).cell? ⟨q, j, none⟩ = w.cell? ⟨q, j, none⟩ := fun w k q j v hq => World.cell?_of_block (Below.heap_setCell _ _ _ _ hq)
  refine ⟨⟨?_, ?_, ?_, ?_, ?_, ?_⟩, by simpa using h7⟩
  · rw [e _ _ _ _ _ (by omega), e _ _ _ _ _ (by omega), e _ _ _ _ _ (by omega)]; exact h1
  · rw [e _ _ _ _ _ (by omega), e _ _ _ _ _ (by omega), e _ _ _ _ _ (by omega)]; exact h2
  · rw [e _ _ _ _ _ (by omega), e _ _ _ _ _ (by omega), e _ _ _ _ _ (by omega)]; exact h3
  · rw [e _ _ _ _ _ (by omega), e _ _ _ _ _ (by omega), e _ _ _ _ _ (by omega)]; exact h4
  · rw [e _ _ _ _ _ (by omega), e _ _ _ _ _ (by omega), e _ _ _ _ _ (by omega)]; exact h5
  · rw [e _ _ _ _ _ (by omega), e _ _ _ _ _ (by omega), e _ _ _ _ _ (by omega)]; exact h6
def OutR (w : World) (g : Nat) : Prop := (w.cell? ⟨g, 0, none⟩ = some (.int .i64 0) ∧ w.cell? ⟨g, 1, none⟩ = some (.int .i64 0) ∧ w.cell? ⟨g, 2, none⟩ = some (.int .i64 0)) ∧ w.frozen? ⟨g, 0, none⟩ = false ∧ w.frozen? ⟨g, 1, none⟩ = false ∧ w.frozen? ⟨g, 2, none⟩ = false
theorem outR_kept {w w' : World} {g : Nat} (hb : Below w.heap.size w w') (hg : g < w.heap.size) (h : OutR w g) : OutR w' g :=
  ⟨⟨(below_cell hb _ _ hg).trans h.1.1, (below_cell hb _ _ hg).trans h.1.2.1, (below_cell hb _ _ hg).trans h.1.2.2⟩, (below_frozen hb _ _ hg).trans h.2.1, (below_frozen hb _ _ hg).trans h.2.2.1, (below_frozen hb _ _ hg).trans h.2.2.2⟩
theorem results_cellS {P : Program} {fn : Func} {p : Tmp} {ty : TypeId} (h : fn.results = #[.cell p ty]) (tmps : Array Value) (w : World) :
    (results fn tmps).run P w = ((asAddr (tmps.getD p undef)).run P w).andThen fun a w1 => (loadVar ty a).run P w1 := results_cellR h tmps w
set_option maxRecDepth 100000 in
set_option maxHeartbeats 4000000 in
theorem clo_siz (x y z num den : Int) (G g1 g2 : Nat) (w : World) (hG : w.cell? ⟨G, 0, none⟩ = some (sizF g1 g2)) (h1 : w.cell? ⟨g1, 0, none⟩ = some (.int .i64 num)) (h2 : w.cell? ⟨g2, 0, none⟩ = some (.int .i64 den))
    (hx : -4000000000000000000 ≤ x * num ∧ x * num ≤ 4000000000000000000) (hy : -4000000000000000000 ≤ y * num ∧ y * num ≤ 4000000000000000000) (hz : -4000000000000000000 ≤ z * num ∧ z * num ≤ 4000000000000000000) (hd : -4000000000000000000 ≤ den ∧ den ≤ 4000000000000000000) :
    Calls Try.prog 83 #[.agg #[.int .i64 x, .int .i64 y, .int .i64 z], .pointer (some ⟨G, 0, none⟩)] w fun e w' => e = .returned (.agg #[.int .i64 (nq (x * num) den), .int .i64 (nq (y * num) den), .int .i64 (nq (z * num) den)]) ∧ Below w.heap.size w w' := by
  have hbA : Below w.heap.size w ((w.alloc (.cells #[.int .i64 x, .int .i64 y, .int .i64 z] 106)).alloc (.cells #[.int .i64 0, .int .i64 0, .int .i64 0] 106)) := (below_al _ _).alloc (by simp) _
  have HGN := Lib.hid (show G < w.heap.size ∧ g1 < w.heap.size ∧ g2 < w.heap.size from ⟨cell_ltS hG, cell_ltS h1, cell_ltS h2⟩)
  have hS0 : SzS w G g1 g2 num den x y z ((w.alloc (.cells #[.int .i64 x, .int .i64 y, .int .i64 z] 106)).alloc (.cells #[.int .i64 0, .int .i64 0, .int .i64 0] 106)).drew :=
    ⟨⟨(below_cell hbA _ _ HGN.out.1).trans hG, (below_cell hbA _ _ HGN.out.2.1).trans h1, (below_cell hbA _ _ HGN.out.2.2).trans h2, (show ((w.alloc (.cells #[.int .i64 x, .int .i64 y, .int .i64 z] 106)).alloc (.cells #[.int .i64 0, .int .i64 0, .int .i64 0] 106)).cell? ⟨w.heap.size, 0, none⟩ = some (.int .i64 x) by go_simp), (show ((w.alloc (.cells #[.int .i64 x, .int .i64 y, .int .i64 z] 106)).alloc (.cells #[.int .i64 0, .int .i64 0, .int .i64 0] 106)).cell? ⟨w.heap.size, 1, none⟩ = some (.int .i64 y) by go_simp), (show ((w.alloc (.cells #[.int .i64 x, .int .i64 y, .int .i64 z] 106)).alloc (.cells #[.int .i64 0, .int .i64 0, .int .i64 0] 106)).cell? ⟨w.heap.size, 2, none⟩ = some (.int .i64 z) by go_simp)⟩, by show w.heap.size < ((w.alloc _).alloc _).heap.size; simp; omega⟩
  have hO0 : OutR ((w.alloc (.cells #[.int .i64 x, .int .i64 y, .int .i64 z] 106)).alloc (.cells #[.int .i64 0, .int .i64 0, .int .i64 0] 106)) (w.heap.size + 1) := ⟨⟨by go_simp, by go_simp, by go_simp⟩, by go_simp, by go_simp, by go_simp⟩
  have hsz : w.heap.size + 1 < ((w.alloc (.cells #[.int .i64 x, .int .i64 y, .int .i64 z] 106)).alloc (.cells #[.int .i64 0, .int .i64 0, .int .i64 0] 106)).heap.size := by simp
  have HBA := Lib.hid hbA
  have HT1 := Lib.hid (fun W (hS : SzS w G g1 g2 num den x y z W) => show Calls Try.prog 105 #[.int .i64 x, .pointer (some ⟨g1, 0, none⟩), .pointer (some ⟨g2, 0, none⟩)] W fun e W' => e = .returned (.int .i64 (nq (x * num) den)) ∧ SzS w G g1 g2 num den x y z W' ∧ Below W.heap.size W W' from (ratio_any x num den g1 g2 W hS.1.2.1 hS.1.2.2.1 hx hd).mono (fun e W' h => ⟨h.1, szS_below hS h.2, h.2⟩))
  have HT2 := Lib.hid (fun W (hS : SzS w G g1 g2 num den x y z W) => show Calls Try.prog 105 #[.int .i64 y, .pointer (some ⟨g1, 0, none⟩), .pointer (some ⟨g2, 0, none⟩)] W fun e W' => e = .returned (.int .i64 (nq (y * num) den)) ∧ SzS w G g1 g2 num den x y z W' ∧ Below W.heap.size W W' from (ratio_any y num den g1 g2 W hS.1.2.1 hS.1.2.2.1 hy hd).mono (fun e W' h => ⟨h.1, szS_below hS h.2, h.2⟩))
  have HT3 := Lib.hid (fun W (hS : SzS w G g1 g2 num den x y z W) => show Calls Try.prog 105 #[.int .i64 z, .pointer (some ⟨g1, 0, none⟩), .pointer (some ⟨g2, 0, none⟩)] W fun e W' => e = .returned (.int .i64 (nq (z * num) den)) ∧ SzS w G g1 g2 num den x y z W' ∧ Below W.heap.size W W' from (ratio_any z num den g1 g2 W hS.1.2.1 hS.1.2.2.1 hz hd).mono (fun e W' h => ⟨h.1, szS_below hS h.2, h.2⟩))
  clear hG h1 h2 hx hy hz hd hbA
  go_enter Try.func83, Try.ntmps83
  go_wp2
  generalize (w.alloc (.cells #[.int .i64 x, .int .i64 y, .int .i64 z] 106)).alloc (.cells #[.int .i64 0, .int .i64 0, .int .i64 0] 106) = wA at *
  have HOUT := Lib.hid (fun W (hW : Below wA.heap.size wA W) => outR_kept hW hsz hO0)
  have hbd0 : Below wA.heap.size wA wA.drew := ⟨rfl, rfl, rfl, Nat.le_refl _, fun _ _ => rfl⟩
  clear hO0
  obtain ⟨q1, hq1⟩ : ∃ q, nq (x * num) den = q := ⟨_, rfl⟩
  obtain ⟨q2, hq2⟩ : ∃ q, nq (y * num) den = q := ⟨_, rfl⟩
  obtain ⟨q3, hq3⟩ : ∃ q, nq (z * num) den = q := ⟨_, rfl⟩
  have HQ := Lib.hid (And.intro hq1 (And.intro hq2 hq3))
  rw [hq1] at HT1
  rw [hq2] at HT2
  rw [hq3] at HT3
  clear hq1 hq2 hq3
  refine wp_region_held_drew (S := SzS w G g1 g2 num den x y z) (by kernel_rfl) hS0 (fun hHeld => ?_)
  refine takeH 0 (some 4) (.func (.func 105) #[] #[.pointer (some ⟨g1, 0, none⟩), .pointer (some ⟨g2, 0, none⟩)]) hHeld rfl rfl (by rfl) (by kernel_rfl) (by kernel_rfl) (by kernel_rfl) (fun _ _ _ h => h) (fun wS hSw => ?_) ?_
  · (obtain ⟨⟨u0, u1, u2, u3, u4, u5⟩, u6⟩ := hSw; go_simp; try rfl)
  simp only [Act.put, List.setIfInBounds_toArray, List.set_cons_zero, List.set_cons_succ]
  refine takeH 1 (some 5) (.pointer (some ⟨w.heap.size, 0, none⟩)) hHeld rfl rfl (by rfl) (by kernel_rfl) (by kernel_rfl) (by kernel_rfl) (fun _ _ _ h => h) (fun wS hSw => ?_) ?_
  · (obtain ⟨⟨u0, u1, u2, u3, u4, u5⟩, u6⟩ := hSw; go_simp; try rfl)
  simp only [Act.put, List.setIfInBounds_toArray, List.set_cons_zero, List.set_cons_succ]
  refine takeH 2 (some 6) (.int .i64 x) hHeld rfl rfl (by rfl) (by kernel_rfl) (by kernel_rfl) (by kernel_rfl) (fun _ _ _ h => h) (fun wS hSw => ?_) ?_
  · (obtain ⟨⟨u0, u1, u2, u3, u4, u5⟩, u6⟩ := hSw; go_simp; try rfl)
  simp only [Act.put, List.setIfInBounds_toArray, List.set_cons_zero, List.set_cons_succ]
  refine takeH 4 (some 8) (.func (.func 105) #[] #[.pointer (some ⟨g1, 0, none⟩), .pointer (some ⟨g2, 0, none⟩)]) hHeld rfl rfl (by rfl) (by kernel_rfl) (by kernel_rfl) (by kernel_rfl) (fun _ _ _ h => h) (fun wS hSw => ?_) ?_
  · (obtain ⟨⟨u0, u1, u2, u3, u4, u5⟩, u6⟩ := hSw; go_simp; try rfl)
  simp only [Act.put, List.setIfInBounds_toArray, List.set_cons_zero, List.set_cons_succ]
  refine takeH 5 (some 9) (.pointer (some ⟨w.heap.size, 1, none⟩)) hHeld rfl rfl (by rfl) (by kernel_rfl) (by kernel_rfl) (by kernel_rfl) (fun _ _ _ h => h) (fun wS hSw => ?_) ?_
  · (obtain ⟨⟨u0, u1, u2, u3, u4, u5⟩, u6⟩ := hSw; go_simp; try rfl)
  simp only [Act.put, List.setIfInBounds_toArray, List.set_cons_zero, List.set_cons_succ]
  refine takeH 6 (some 10) (.int .i64 y) hHeld rfl rfl (by rfl) (by kernel_rfl) (by kernel_rfl) (by kernel_rfl) (fun _ _ _ h => h) (fun wS hSw => ?_) ?_
  · (obtain ⟨⟨u0, u1, u2, u3, u4, u5⟩, u6⟩ := hSw; go_simp; try rfl)
  simp only [Act.put, List.setIfInBounds_toArray, List.set_cons_zero, List.set_cons_succ]
  refine takeH 8 (some 12) (.func (.func 105) #[] #[.pointer (some ⟨g1, 0, none⟩), .pointer (some ⟨g2, 0, none⟩)]) hHeld rfl rfl (by rfl) (by kernel_rfl) (by kernel_rfl) (by kernel_rfl) (fun _ _ _ h => h) (fun wS hSw => ?_) ?_
  · (obtain ⟨⟨u0, u1, u2, u3, u4, u5⟩, u6⟩ := hSw; go_simp; try rfl)
  simp only [Act.put, List.setIfInBounds_toArray, List.set_cons_zero, List.set_cons_succ]
  refine takeH 9 (some 13) (.pointer (some ⟨w.heap.size, 2, none⟩)) hHeld rfl rfl (by rfl) (by kernel_rfl) (by kernel_rfl) (by kernel_rfl) (fun _ _ _ h => h) (fun wS hSw => ?_) ?_
  · (obtain ⟨⟨u0, u1, u2, u3, u4, u5⟩, u6⟩ := hSw; go_simp; try rfl)
  simp only [Act.put, List.setIfInBounds_toArray, List.set_cons_zero, List.set_cons_succ]
  refine takeH 10 (some 14) (.int .i64 z) hHeld rfl rfl (by rfl) (by kernel_rfl) (by kernel_rfl) (by kernel_rfl) (fun _ _ _ h => h) (fun wS hSw => ?_) ?_
  · (obtain ⟨⟨u0, u1, u2, u3, u4, u5⟩, u6⟩ := hSw; go_simp; try rfl)
  simp only [Act.put, List.setIfInBounds_toArray, List.set_cons_zero, List.set_cons_succ]
  refine wpAnyH_ready (rs := [3]) (by kernel_rfl) (by simp) ?_
  refine AllReadyH.cons rfl (fun K hK => ?_) ?_
  · go_simp
    go_at_call 105
    refine (HT1.out _ hHeld).mono ?_
    rintro e wd1 ⟨rfl, hs1, hb1⟩
    have hbd1 := below_of hbd0 hb1 hbd0.size
    refine hK.out _ _ hs1 (fun hH2 => ?_)
    clear hK K hHeld hs1 hb1
    have hHeld := hH2
    clear hH2
    refine wpAnyH_ready (rs := [7]) (by kernel_rfl) (by simp) ?_
    refine AllReadyH.cons rfl (fun K hK => ?_) ?_
    · go_simp
      go_at_call 105
      refine (HT2.out _ hHeld).mono ?_
      rintro e wd2 ⟨rfl, hs2, hb2⟩
      have hbd2 := below_of hbd1 hb2 hbd1.size
      refine hK.out _ _ hs2 (fun hH2 => ?_)
      clear hK K hHeld hs2 hb2
      have hHeld := hH2
      clear hH2
      refine wpAnyH_ready (rs := [11]) (by kernel_rfl) (by simp) ?_
      refine AllReadyH.cons rfl (fun K hK => ?_) ?_
      · go_simp
        go_at_call 105
        refine (HT3.out _ hHeld).mono ?_
        rintro e wd3 ⟨rfl, hs3, hb3⟩
        have hbd3 := below_of hbd2 hb3 hbd2.size
        refine hK.out _ _ hs3 (fun hH2 => ?_)
        clear hK K hHeld hs3 hb3
        have hHeld := hH2
        clear hH2
        refine takeH 12 (some 16) (.agg #[.int .i64 q1, .int .i64 q2, .int .i64 q3]) hHeld rfl rfl (by rfl) (by kernel_rfl) (by kernel_rfl) (by kernel_rfl) (fun _ _ _ h => h) (fun wS hSw => ?_) ?_
        · (obtain ⟨⟨u0, u1, u2, u3, u4, u5⟩, u6⟩ := hSw; go_simp; try rfl)
        simp only [Act.put, List.setIfInBounds_toArray, List.set_cons_zero, List.set_cons_succ]
        obtain ⟨⟨o0, o1, o2⟩, p0, p1, p2⟩ := HOUT.out _ hbd3
        have HBF := Lib.hid (below_of HBA.out hbd3 HBA.out.size)
        clear hbd0 hbd1 hbd2 hbd3
        refine wpAnyH_ready (rs := [13]) (by kernel_rfl) (by simp) (AllReadyH.cons rfl (fun K hK => ?_) AllReadyH.nil)
        go_simp
        refine hK.out _ _ (szS_set hHeld HGN.out _ _ _) (fun hH2 => ?_)
        clear hK K hH2
        refine wpAnyH_done (by kernel_rfl) ?_ _
        go_wp2
        try simp only [Exit.inBlock, Exit.then]
        refine bodyPost_ret_by (v := .agg #[.int .i64 q1, .int .i64 q2, .int .i64 q3]) (by rw [results_cellS rfl]; go_simp) rfl ?_
        exact ⟨by rw [HQ.out.1, HQ.out.2.1, HQ.out.2.2], ((HBF.out.setCell (by show _ ≤ w.heap.size + 1; omega) _).setCell (by show _ ≤ w.heap.size + 1; omega) _).setCell (by show _ ≤ w.heap.size + 1; omega) _⟩
      exact AllReadyH.nil
    exact AllReadyH.nil
  exact AllReadyH.nil
end Go.Proofs.Ytndmakimkghihab
