/- The cuts of a map of sums, in order: the program's. SortCuts: the program's answer. -/
import Derived.Test.YtpllmehcndinkaaG3
import Derived.Test.YtpllmehcndinkaaSrtSort
import Derived.Test.YtpllmehcndinkaaSrtList
import Derived.Laws.AppendOwn
import Derived.Laws.CopyRow
set_option linter.unusedVariables false
namespace Go.Proofs.Ytpllmehcndinkaa
open Go.ChangeShapes Go.WideShapes Go.ChangeAt Go.RowKit Go.Maps

theorem run_makeC (w : World) (n c : Nat) (hnc : n ≤ c) (hc : c ≤ 1048576) :
    (Instr.makeSlice 63 (.int .i64 (n : Int)) (.int .i64 (c : Int))).run Try.prog w = .ok (.slice (some ⟨w.heap.size, 0, none⟩) n c) (w.alloc (.cells (i64s (flatC (List.replicate c zC))).toArray 104)) := by
  obtain ⟨i, hi, hz, hsz, hb⟩ := info_parts infoC
  have h := run_make (P := Try.prog) w 63 104 i _ Try.underlying63 hi hz .i64 .i64 n c (by omega) (by omega) (by rw [hb]; omega) (by omega)
  rw [h, hsz]
  simp only [Int.toNat_natCast]
  rw [← made_cuts]
/-- What lies in the row while the map is ranged over. -/
structure RowsRel (D : DataW Unit) (f : Int → Int) (left : Lit → Bool) (rows : List Ct) : Prop where
  of' : ∀ c ∈ rows, ∃ z : Int, c = (z, f z) ∧ has D (.int .i64 z) = true ∧ left (.int .i64 z) = false ∧ 0 < f z
  all : ∀ z : Int, has D (.int .i64 z) = true → left (.int .i64 z) = false → 0 < f z → (z, f z) ∈ rows
  pw : rows.Pairwise fun a b => a.1 ≠ b.1
theorem rowsRel_start (D : DataW Unit) (f : Int → Int) : RowsRel D f (has D) [] := ⟨fun c hc => by simp at hc, (fun z h1 h2 _ => by rw [h1] at h2; cases h2), List.Pairwise.nil⟩
theorem sameKey_self (x : Int) : (Lit.int .i64 x).sameKey (.int .i64 x) = true := by simp [Lit.sameKey]
theorem rowsRel_step {D : DataW Unit} {f : Int → Int} {left : Lit → Bool} {rows : List Ct} (h : RowsRel D f left rows) (x : Int) (hl : left (.int .i64 x) = true) (hh : has D (.int .i64 x) = true) (hp : 0 < f x) :
    RowsRel D f (fun z => left z && !z.sameKey (.int .i64 x)) (rows ++ [(x, f x)]) := by
  refine ⟨fun c hc => ?_, fun z h1 h2 h3 => ?_, ?_⟩
  · rcases List.mem_append.1 hc with hc | hc
    · obtain ⟨z, e, h1, h2, h3⟩ := h.of' c hc
      exact ⟨z, e, h1, by rw [h2]; rfl, h3⟩
    · simp only [List.mem_singleton] at hc
      exact ⟨x, hc, hh, by rw [sameKey_self]; simp, hp⟩
  · by_cases e : z = x
    · subst e; simp
    · have hne : (Lit.int .i64 z) ≠ (Lit.int .i64 x) := fun e2 => by simp at e2; exact e e2
      rw [sameKey_ne hne] at h2
      exact List.mem_append.2 (.inl (h.all z h1 (by simpa using h2) h3))
  · rw [List.pairwise_append]
    refine ⟨h.pw, by simp, fun a ha b hb => ?_⟩
    simp only [List.mem_singleton] at hb
    subst hb
    obtain ⟨z, rfl, h1, h2, -⟩ := h.of' a ha
    intro e
    simp only at e
    rw [e, hl] at h2; cases h2
theorem rowsRel_skip {D : DataW Unit} {f : Int → Int} {left : Lit → Bool} {rows : List Ct} (h : RowsRel D f left rows) (x : Int) (hp : ¬ 0 < f x) : RowsRel D f (fun z => left z && !z.sameKey (.int .i64 x)) rows := by
  refine ⟨fun c hc => ?_, fun z h1 h2 h3 => ?_, h.pw⟩
  · obtain ⟨z, e, h1, h2, h3⟩ := h.of' c hc
    exact ⟨z, e, h1, by rw [h2]; rfl, h3⟩
  · by_cases e : z = x
    · subst e; exact absurd h3 hp
    · have hne : (Lit.int .i64 z) ≠ (Lit.int .i64 x) := fun e2 => by simp at e2; exact e e2
      rw [sameKey_ne hne] at h2
      exact h.all z h1 (by simpa using h2) h3
theorem rowsRel_end {D : DataW Unit} {f : Int → Int} {left : Lit → Bool} {rows : List Ct} (h : RowsRel D f left rows) (hs : SumsMap D f) (hl : ∀ k, left k = false) : ∀ c, c ∈ rows ↔ c ∈ listOf (fun z => f (z : Int)) 8 := by
  intro c
  rw [listOf_mem]
  constructor
  · intro hc
    obtain ⟨z, rfl, h1, -, yp⟩ := h.of' c hc
    obtain ⟨y, e, y0, y7, -⟩ := hs.key _ h1
    simp only [Lit.int.injEq, true_and] at e
    subst e
    exact ⟨z.toNat, by omega, by rw [Int.toNat_of_nonneg y0]; exact yp, by rw [Int.toNat_of_nonneg y0]⟩
  · rintro ⟨z, hz, hp, rfl⟩
    exact h.all (z : Int) (hs.has' _ hp) (hl _) hp
theorem nodup_of_pw {rows : List Ct} (h : rows.Pairwise fun a b => a.1 ≠ b.1) : rows.Nodup := h.imp fun {a b} hab e => hab (by rw [e])
theorem rows_len {rows : List Ct} {f : Nat → Int} (h : rows.Pairwise fun a b => a.1 ≠ b.1) (hm : ∀ c, c ∈ rows ↔ c ∈ listOf f 8) : rows.length ≤ 8 :=
  Nat.le_trans ((nodup_of_pw h).length_le_of_subset (fun c hc => (hm c).1 hc)) (listOf_len f 8)
theorem one_i64C (zs : List Int) : ∀ v ∈ i64s zs, v.oneCell' = true := by
  intro v hv
  obtain ⟨x, _, rfl⟩ := List.mem_map.1 hv
  rfl
theorem boxC (w : World) (v : Value) (T : TypeId) : (w.alloc (.cells #[v] T)).cell? ⟨w.heap.size, 0, none⟩ = some v ∧ (w.alloc (.cells #[v] T)).frozen? ⟨w.heap.size, 0, none⟩ = false := ⟨by go_simp, by go_simp⟩
theorem frz_of_block {w w' : World} {b o : Nat} (h : w'.heap[b]? = w.heap[b]?) : w'.frozen? ⟨b, o, none⟩ = w.frozen? ⟨b, o, none⟩ := by
  simp only [World.frozen?, h]
theorem cell_ltC {w : World} {b o : Nat} {v : Value} (h : w.cell? ⟨b, o, none⟩ = some v) : b < w.heap.size := by
  unfold World.cell? at h
  cases hh : w.heap[b]? with
  | none => rw [show (⟨b, o, none⟩ : Addr).block = b from rfl, hh] at h; simp at h
  | some o => exact (Array.getElem?_eq_some_iff.1 hh).1
set_option maxRecDepth 20000 in
set_option maxHeartbeats 4000000 in
theorem cutsOf_any (b m : Nat) (f : Int → Int) (w : World) (h : MapF w b m f) (hm : m ≤ 64) :
    Calls Try.prog 84 #[.map (some b)] w fun e w' => (∃ v, e = .returned v ∧ Cv w' w.heap.size v (listOf (fun z => f (z : Int)) 8)) ∧ Below w.heap.size w w' := by
  obtain ⟨D, hown, hsm⟩ := h
  obtain ⟨i0, hi, hz0, hz1, hz2⟩ := info_parts infoC
  have hsl := hown.size_le
  have hbl := hown.lt
  have HSM := Lib.hid hsm
  obtain ⟨S, hS⟩ : ∃ S, Maps.size D = S := ⟨_, rfl⟩
  rw [hS] at hsl
  have HS := Lib.hid hS
  have hmk : (Instr.makeSlice 63 (.int .i64 0) (.int .i64 (S : Int))).run Try.prog w = .ok (.slice (some ⟨w.heap.size, 0, none⟩) 0 S) (w.alloc (.cells (i64s (flatC (List.replicate S zC))).toArray 104)) := run_makeC w 0 S (by omega) (by omega)
  have hrow0 : (w.alloc (.cells (i64s (flatC (List.replicate S zC))).toArray 104)).ownsRow w.heap.size 104 2 (.slice (some ⟨w.heap.size, 0, none⟩) 0 S) 0 (i64s (flatC [])) :=
    ⟨rfl, .inr ⟨w.heap.size, S, (i64s (flatC (List.replicate S zC))).toArray, rfl, Nat.le_refl _, by show (w.heap.push _)[w.heap.size]? = _; rw [Array.getElem?_push_size], by omega, by unfold maxLen; omega, by simp [i64s, flatC_len], by simp [i64s, flatC]⟩⟩
  obtain ⟨hbc, hbf⟩ := boxC (w.alloc (.cells (i64s (flatC (List.replicate S zC))).toArray 104)) (.slice (some ⟨w.heap.size, 0, none⟩) 0 S) 63
  rw [World.size_alloc] at hbc hbf
  have HRA := Lib.hid (hrow0.alloc (.cells #[.slice (some ⟨w.heap.size, 0, none⟩) 0 S] 63))
  have HMA := Lib.hid ((hown.alloc (.cells (i64s (flatC (List.replicate S zC))).toArray 104)).alloc (.cells #[.slice (some ⟨w.heap.size, 0, none⟩) 0 S] 63))
  have HBA := Lib.hid ((below_al w (.cells (i64s (flatC (List.replicate S zC))).toArray 104)).alloc (by simp) (.cells #[.slice (some ⟨w.heap.size, 0, none⟩) 0 S] 63))
  have hsA : w.heap.size + 1 < ((w.alloc (.cells (i64s (flatC (List.replicate S zC))).toArray 104)).alloc (.cells #[.slice (some ⟨w.heap.size, 0, none⟩) 0 S] 63)).heap.size := by simp
  have HBC := Lib.hid hbc
  have HBF := Lib.hid hbf
  have HOWN := Lib.hid hown
  clear hown hsm hS hrow0 hbc hbf
  go_enter Try.func84, Try.ntmps84
  go_wp2_with (first
    | (at_len; refine wpList_len_own _ rfl _ 108 rfl 2 2 Try.underlying108 _ b m D rfl HOWN.out ?_; rw [HS.out])
    | (at_range; generalize (w.alloc (.cells (i64s (flatC (List.replicate S zC))).toArray 104)).alloc (.cells #[.slice (some ⟨w.heap.size, 0, none⟩) 0 S] 63) = wA at *; refine wpList_range_own _ rfl _ 108 rfl 2 2 lawZ Try.underlying108 _ b m D rfl HMA.out ?_; intro w0 hrg0 hg0 hs0; go_frame))
  clear hmk
  rw [HS.out] at hrg0
  have hrn := hrg0.ne
  go_loopw [4] (fun _ wr => ∃ (left : Lit → Bool) (cnt : Nat) (rows : List Ct), wr.ranges Try.prog 2 (plainElem Try.prog 2) b wA.heap.size m D left cnt ∧ rows.length + cnt ≤ S ∧ Hid (RowsRel D f left rows) ∧ Hid (wr.ownsRow w.heap.size 104 2 (.slice (some ⟨w.heap.size, 0, none⟩) rows.length S) rows.length (i64s (flatC rows))) ∧ Hid (wr.cell? ⟨w.heap.size + 1, 0, none⟩ = some (.slice (some ⟨w.heap.size, 0, none⟩) rows.length S) ∧ wr.frozen? ⟨w.heap.size + 1, 0, none⟩ = false) ∧ Hid (Below w.heap.size w wr))
    (fun _ wr => wr.rangeLeft b wA.heap.size)
  case atStart =>
    exact ⟨_, _, [], hrg0, by simp, Lib.hid (rowsRel_start D f), Lib.hid (HRA.out.kept hg0 (.inr (by simp [Value.ownBlock]))), Lib.hid ⟨(World.cell?_of_block (hg0.block _ hsA (by simp))).trans HBC.out, (frz_of_block (hg0.block _ hsA (by simp))).trans HBF.out⟩, Lib.hid (HBA.out.grown hg0 HBA.out.size (fun j hj => by cases hj))⟩
  case round =>
    obtain ⟨left, cnt, rows, hrg, hcs, HRR, HRW, HBX, HB⟩ := hrel
    generalize hwo : wr = wo at *
    clear hwo
    go_wp2_with (first
      | (at_next; refine wpList_next_ranges_ii _ rfl _ rfl 2 2 .i64 .i64 lawZ Try.underlying2 Try.underlying2 b wA.heap.size m _ _ _ rfl hrg ?_ ?_))
    · intro hc0 hl0
      have HEND := Lib.hid (rowsRel_end HRR.out HSM.out hl0)
      have hr8 := rows_len HRR.out.pw HEND.out
      obtain ⟨hx1, hx2⟩ := HBX.out
      have hgl := (HRW.out.lt _ rfl).2
      generalize hn : rows.length = n at *
      have HN := Lib.hid hn
      clear hn
      have HSO := Lib.hid (sortC_any rows w.heap.size w.heap.size n S (w.heap.size + 1) wo HN.out (by omega) HRW.out hx1 (by omega) HRR.out.pw)
      clear hrg hc0 hl0
      go_wp2_with fail
      refine HSO.out.mono ?_
      rintro e w3 ⟨rfl, qs, hq1, hq2, hq3, hq4, hq5⟩
      have HQ := Lib.hid (show qs = listOf (fun z => f (z : Int)) 8 from eq_of_rising hq3 (listOf_pw _ _) (fun c => (hq2 c).trans (HEND.out c)))
      have hx3 : w3.cell? ⟨w.heap.size + 1, 0, none⟩ = some (.slice (some ⟨w.heap.size, 0, none⟩) n S) := (gb_cellC hq5 _ _ (cell_ltC hx1) (by simp)).trans hx1
      have HCV := Lib.hid (show Cv w3 w.heap.size (.slice (some ⟨w.heap.size, 0, none⟩) n S) (listOf (fun z => f (z : Int)) 8) by
        rw [← HQ.out]
        exact cv_of_row (by rw [hq1]; exact hq4))
      have HB3 := Lib.hid (HB.out.grown hq5 HB.out.size (fun j hj => by cases hj; exact Nat.le_refl _))
      clear hq1 hq2 hq3 hq4 hq5 hx1 hx2
      go_wp2
      go_ret
      exact ⟨⟨_, rfl, HCV.out⟩, HB3.out⟩
    · intro x c w1 cnt1 hwx hwc hlx hat hrg1 hlt hg1 hs1 hen
      have hc0 := lit_of_some ((hat (.lit (.int .i64 0))).symm.trans (HSM.out.at' x))
      subst hc0
      by_cases hfx : 0 < f x
      · have HRR1 := Lib.hid (rowsRel_step HRR.out x hlx (has_true_of_atKey hat) hfx)
        have hrl := hrg.lt
        obtain ⟨hx1, hx2⟩ := HBX.out
        have hxl := cell_ltC hx1
        have hbx1 : w1.cell? ⟨w.heap.size + 1, 0, none⟩ = some (.slice (some ⟨w.heap.size, 0, none⟩) rows.length S) := (gb_cellC hg1 _ _ hxl (by simp; omega)).trans hx1
        have hbf1 : w1.frozen? ⟨w.heap.size + 1, 0, none⟩ = false := (frz_of_block (hg1.block _ hxl (by simp; omega))).trans hx2
        have HRW1 := Lib.hid (HRW.out.kept hg1 (.inr (by simp [Value.ownBlock]; omega)))
        have HB1 := Lib.hid (HB.out.grown hg1 HB.out.size (fun j hj => by cases hj; omega))
        have hx1l : w.heap.size + 1 < w1.heap.size := by omega
        have hs1' : wo.heap.size ≤ w1.heap.size := by omega
        have hrl1 : wA.heap.size < w1.heap.size := by omega
        clear hx1 hx2 hat hs1
        generalize f x = c at *
        have hpc : (0 : Int) < c := hfx
        generalize hn : rows.length = n at *
        have HN := Lib.hid hn
        clear hn
        have hgl := (HRW1.out.lt _ rfl).2
        have HRWa := Lib.hid (HRW1.out.alloc (.cells #[.int .i64 x, .int .i64 c] 104))
        have HBa := Lib.hid (HB1.out.alloc HB1.out.size (.cells #[.int .i64 x, .int .i64 c] 104))
        have hbxa := (below_cell (below_al w1 (.cells #[.int .i64 x, .int .i64 c] 104)) _ 0 hx1l).trans hbx1
        have hbfa := (below_frozen (below_al w1 (.cells #[.int .i64 x, .int .i64 c] 104)) _ 0 hx1l).trans hbf1
        have hala : w.heap.size + 1 < (w1.alloc (.cells #[.int .i64 x, .int .i64 c] 104)).heap.size := by simp; omega
        go_wp2_with (at_builtin; refine wpList_append_fits _ rfl _ _ 63 rfl w.heap.size 104 i0 2 Try.underlying63 hi hz1 w.heap.size n S (i64s (flatC rows)) rfl HRWa.out ⟨w1.heap.size, 0, none⟩ 1 1 [.int .i64 x, .int .i64 c] rfl rfl newsC (by intro u hu; simp at hu; rcases hu with rfl | rfl <;> rfl) (by omega) ?_; intro w3 hown3 hgrow3; have hbx3 := (gb_cellC hgrow3 _ 0 hala (by simp)).trans hbxa; have hbf3 := (frz_of_block (hgrow3.block _ hala (by simp))).trans hbfa)
        have HRW3 := Lib.hid (show w3.ownsRow w.heap.size 104 2 (.slice (some ⟨w.heap.size, 0, none⟩) (rows ++ [(x, c)]).length S) (rows ++ [(x, c)]).length (i64s (flatC (rows ++ [(x, c)]))) by
          rw [List.length_append, HN.out, flatC_append]
          simpa [i64s, flatC] using hown3)
        have HB3 := Lib.hid (HBa.out.grown hgrow3 HBa.out.size (fun j hj => by cases hj; exact Nat.le_refl _))
        have hrg3 := (hrg1.alloc (.cells #[.int .i64 x, .int .i64 c] 104)).kept hgrow3 (fun e => by have := Option.some.inj e; omega) (fun e => by have := Option.some.inj e; omega)
        have hset : w3.grownBy (w3.setCell ⟨w.heap.size + 1, 0, none⟩ (.slice (some ⟨w.heap.size, 0, none⟩) (n + 1) S)) (some (w.heap.size + 1)) := gb_setC _ _ (gb_reflC _ _)
        have hrg4 := hrg3.kept hset (fun e => by have := Option.some.inj e; omega) (fun e => by have := Option.some.inj e; omega)
        have HRW4 := Lib.hid (HRW3.out.kept hset (.inr (by simp [Value.ownBlock])))
        have HX4 := Lib.hid (show (w3.setCell ⟨w.heap.size + 1, 0, none⟩ (.slice (some ⟨w.heap.size, 0, none⟩) (n + 1) S)).cell? ⟨w.heap.size + 1, 0, none⟩ = some (.slice (some ⟨w.heap.size, 0, none⟩) (rows ++ [(x, c)]).length S) ∧ (w3.setCell ⟨w.heap.size + 1, 0, none⟩ (.slice (some ⟨w.heap.size, 0, none⟩) (n + 1) S)).frozen? ⟨w.heap.size + 1, 0, none⟩ = false by
          rw [List.length_append, HN.out]
          exact ⟨World.cell?_setCell_same' _ _ _ (by rw [hbx3]; rfl), by rw [World.frozen?_setCell]; exact hbf3⟩)
        have hcnt : (rows ++ [(x, c)]).length + cnt1 ≤ S := by rw [List.length_append, HN.out]; simp; omega
        go_wp2
        go_roundw
        case rel => exact ⟨_, cnt1, _, hrg4, hcnt, HRR1, HRW4, HX4, Lib.hid (HB3.out.setCell (p := ⟨w.heap.size + 1, 0, none⟩) (by show _ ≤ w.heap.size + 1; omega) _)⟩
        case measure => rw [hrg4.left_eq, hrg.left_eq]; exact hlt
      · have HRR1 := Lib.hid (rowsRel_skip HRR.out x hfx)
        have hrl := hrg.lt
        obtain ⟨hx1, hx2⟩ := HBX.out
        have hxl := cell_ltC hx1
        have HX1 := Lib.hid (show w1.cell? ⟨w.heap.size + 1, 0, none⟩ = some (.slice (some ⟨w.heap.size, 0, none⟩) rows.length S) ∧ w1.frozen? ⟨w.heap.size + 1, 0, none⟩ = false from ⟨(gb_cellC hg1 _ _ hxl (by simp; omega)).trans hx1, (frz_of_block (hg1.block _ hxl (by simp; omega))).trans hx2⟩)
        have HRW1 := Lib.hid (HRW.out.kept hg1 (.inr (by simp [Value.ownBlock]; omega)))
        have HB1 := Lib.hid (HB.out.grown hg1 HB.out.size (fun j hj => by cases hj; omega))
        have hcn : rows.length + cnt1 ≤ S := by omega
        have hpc : ¬ (0 : Int) < f x := hfx
        clear hx1 hx2 hat
        generalize f x = c at *
        go_wp2
        go_roundw
        case rel => exact ⟨_, cnt1, _, hrg1, hcn, HRR1, HRW1, HX1, HB1⟩
        case measure => rw [hrg1.left_eq, hrg.left_eq]; exact hlt
end Go.Proofs.Ytpllmehcndinkaa
