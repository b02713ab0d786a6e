/- The library's Insert and Delete at rings. -/
import Derived.Test.YtojkijcdfnfnlaaRingsI
namespace Go.Proofs.Ytojkijcdfnfnlaa
open Go.ChangeShapes Go.WideShapes Go.ChangeAt Go.RowKit

theorem shape_row {w : World} {g : Nat} {X : List Value} (h : RowAt w g X) : w.shape? g = some (25, X.length) := by
  have h' : w.heap[g]? = some (.cells X.toArray 25 (0, 0)) := h
  simp [World.shape?, h']
theorem frozen_row {w : World} {g : Nat} {X : List Value} (h : RowAt w g X) (j : Nat) : w.frozen? ⟨g, j, none⟩ = false := rowAt_frozen h j
theorem addr_add (g o j : Nat) : (⟨g, o, none⟩ : Addr).add j = ⟨g, o + j, none⟩ := by unfold Addr.add; split <;> simp_all
theorem ret_sl {a : Option Addr} {n m c : Nat} (h : n = m) : Ending.returned (.slice a n c) = .returned (.slice a m c) := by rw [h]
theorem flat_single (r : Rg) : flat [r] = [r.1, r.2.1, r.2.2] := rfl
theorem overlaps_no (w : World) (gv g o : Nat) (X V : List Value) (hg : RowAt w g X) (hv : RowAt w gv V) (hne : gv ≠ g) (hX : X.length ≠ 0) (lb cb : Nat) :
    (callFunc 74 #[.slice (some ⟨gv, 0, none⟩) 1 1, .slice (some ⟨g, o, none⟩) lb cb]).run Try.prog w = .ok (.value (.bool false)) w := by
  rw [run_callFunc_extern Try.func74 (by kernel_rfl) (by kernel_rfl) (by kernel_rfl) (e := Extern.SlicesOverlaps.overlaps #[33, 33] #[4]) (by kernel_rfl),
    Lib.run_overlaps_apart w 33 4 25 Try.underlying33 3 (fun _ => by kernel_rfl) ⟨gv, 0, none⟩ ⟨g, o, none⟩ 1 1 lb cb hne 25 25 V.length X.length (shape_row hv) (shape_row hg) hX (frozen_row hv 0) (frozen_row hv V.length)]
  rfl
theorem ins_row (rs : List Rg) (k n : Nat) (r : Rg) (hn : rs.length = n) (hk : k < n) :
    let X := i64s (flat rs) ++ i64s (flat [zR])
    let X1 := X.take ((k + 1) * 3) ++ i64s (flat (rs.drop k)) ++ X.drop ((k + 1) * 3 + (i64s (flat (rs.drop k))).length)
    X1.take (k * 3) ++ i64s (flat [r]) ++ X1.drop (k * 3 + (i64s (flat [r])).length) = i64s (flat (insR rs k r)) := by
  intro X X1
  have hl : (i64s (flat rs)).length = n * 3 := by rw [i64s_length, flat_len, hn]
  have hd : (i64s (flat (rs.drop k))).length = (n - k) * 3 := by rw [i64s_length, flat_len, List.length_drop, hn]
  have hz : (i64s (flat [zR])).length = 3 := rfl
  have hr : (i64s (flat [r])).length = 3 := rfl
  have e1 : X.take ((k + 1) * 3) = i64s (flat (rs.take (k + 1))) := by
    show (i64s (flat rs) ++ i64s (flat [zR])).take ((k + 1) * 3) = _
    rw [List.take_append_of_le_length (by omega), i64s_take, flat_take]
  have e2 : X.drop ((k + 1) * 3 + (n - k) * 3) = [] := List.drop_of_length_le (by show (i64s (flat rs) ++ i64s (flat [zR])).length ≤ _; rw [List.length_append, hl, hz]; omega)
  have h1 : X1 = i64s (flat (rs.take (k + 1))) ++ i64s (flat (rs.drop k)) := by
    show X.take ((k + 1) * 3) ++ i64s (flat (rs.drop k)) ++ X.drop ((k + 1) * 3 + (i64s (flat (rs.drop k))).length) = _
    rw [hd, e1, e2, List.append_nil]
  have ht : (i64s (flat (rs.take (k + 1)))).length = (k + 1) * 3 := by rw [i64s_length, flat_len, List.length_take, hn]; omega
  rw [h1, hr, List.take_append_of_le_length (by omega), i64s_take, flat_take, List.take_take, Nat.min_eq_left (by omega), List.drop_append, ht, List.drop_of_length_le (by omega), List.nil_append, show k * 3 + 3 - (k + 1) * 3 = 0 by omega, List.drop_zero]
  unfold insR
  rw [flat_append, i64s_app, List.append_assoc, ← i64s_app]
  rfl
set_option maxRecDepth 20000 in
set_option maxHeartbeats 2000000 in
theorem insert_shift (rs : List Rg) (r : Rg) (n k g gv : Nat) (w : World) (hn : rs.length = n) (h32 : n ≤ 32) (hk : k < n) (hg : RowAt w g (i64s (flat rs) ++ i64s (flat [zR]))) (hv : RowAt w gv (i64s (flat [r]))) (hne : gv ≠ g) :
    Calls Try.prog 64 #[.slice (some ⟨g, 0, none⟩) n (n + 1), .int .i64 (k : Int), .slice (some ⟨gv, 0, none⟩) 1 1] w fun e w' => e = .returned (.slice (some ⟨g, 0, none⟩) (n + 1) (n + 1)) ∧ RowAt w' g (i64s (flat (insR rs k r))) ∧ w.grownBy w' (some g) := by
  have hXl : (i64s (flat rs) ++ i64s (flat [zR])).length = (n + 1) * 3 := by rw [List.length_append, i64s_length, flat_len, hn]; show n * 3 + 3 = _; omega
  have HROW := Lib.hid (ins_row rs k n r hn hk)
  have hov := overlaps_no w gv g ((k + 1) * 3) _ _ hg hv hne (by rw [hXl]; omega)
  have hgd : RowAt w.drew g (i64s (flat rs) ++ i64s (flat [zR])) := hg
  have hvd : RowAt w.drew gv (i64s (flat [r])) := hv
  have hdl : (i64s (flat (rs.drop k))).length = (n - k) * 3 := by rw [i64s_length, flat_len, List.length_drop, hn]
  have hcp1 : ∀ dc sc, (Builtin.copy_ #[33, 33] 3 #[.slice (some ⟨g, (k + 1) * 3, none⟩) (n - k) dc, .slice (some ⟨g, k * 3, none⟩) (n + 1 - k) sc]).run Try.prog w.drew = .ok (goInt (n - k : Nat)) (w.drew.setCells g ((k + 1) * 3) (i64s (flat (rs.drop k)))) := fun dc sc =>
    run_copy3 w.drew _ _ _ _ dc ⟨g, k * 3, none⟩ _ sc (i64s (flat (rs.drop k))) (n - k) (by simp only [Nat.min_def]; split <;> omega) hdl
      (fun j u hj => by
        rw [addr_add, rowAt_cell hgd, List.getElem?_append_left (by have := (List.getElem?_eq_some_iff.1 hj).1; rw [hdl] at this; rw [i64s_length, flat_len, hn]; omega)]
        rwa [← flat_drop, ← i64s_drop, List.getElem?_drop] at hj)
      (fun j hj => rowAt_some hgd _ (by rw [hdl] at hj; rw [hXl]; omega)) (fun j _ => rowAt_frozen hgd _) (one_i64s _)
  have hR1 := setCells_as_row (o := (k + 1) * 3) (cs := i64s (flat (rs.drop k))) hgd (by rw [hdl, hXl]; omega) (one_i64s _)
  have hG1 := gb_setCells g (i64s (flat (rs.drop k))) ((k + 1) * 3) w.drew
  obtain ⟨W1, hW1⟩ : ∃ W1, w.drew.setCells g ((k + 1) * 3) (i64s (flat (rs.drop k))) = W1 := ⟨_, rfl⟩
  rw [hW1] at hR1 hG1 hcp1
  have hv1 : RowAt W1 gv (i64s (flat [r])) := (hG1.block gv (rowAt_lt hvd) (by simpa using hne)).trans hvd
  have hX1l : ((i64s (flat rs) ++ i64s (flat [zR])).take ((k + 1) * 3) ++ i64s (flat (rs.drop k)) ++ (i64s (flat rs) ++ i64s (flat [zR])).drop ((k + 1) * 3 + (i64s (flat (rs.drop k))).length)).length = (n + 1) * 3 := by
    rw [List.length_append, List.length_append, List.length_take, List.length_drop, hXl, hdl]; omega
  have hcp2 : ∀ dc, (Builtin.copy_ #[33, 33] 3 #[.slice (some ⟨g, k * 3, none⟩) (n + 1 - k) dc, .slice (some ⟨gv, 0, none⟩) 1 1]).run Try.prog W1 = .ok (goInt (1 : Nat)) (W1.setCells g (k * 3) (i64s (flat [r]))) := fun dc =>
    run_copy3 W1 _ _ _ _ dc ⟨gv, 0, none⟩ 1 1 (i64s (flat [r])) 1 (by simp only [Nat.min_def]; split <;> omega) rfl
      (fun j u hj => by rw [addr_add, Nat.zero_add, rowAt_cell hv1]; exact hj)
      (fun j hj => rowAt_some hR1 _ (by have : j < 3 := hj; rw [hX1l]; omega)) (fun j _ => rowAt_frozen hR1 _) (one_i64s _)
  have hR2 := setCells_as_row (o := k * 3) (cs := i64s (flat [r])) hR1 (by show k * 3 + 3 ≤ _; rw [hX1l]; omega) (one_i64s _)
  have HG2 := Lib.hid (gb_trans (show w.grownBy W1 (some g) from ⟨hG1.os, hG1.tape, hG1.output, hG1.size, hG1.block⟩) (gb_setCells g (i64s (flat [r])) (k * 3) W1))
  rw [HROW.out] at hR2
  have HR2 := Lib.hid hR2
  clear hR2 hR1 hG1 hW1 hv1 hX1l hgd hvd hdl hXl hg hv
  generalize W1.setCells g (k * 3) (i64s (flat [r])) = W2 at *
  have hb1 : ¬ ((k : Int) = (n : Int)) := by omega
  have hkn : (k : Int) ≤ (n : Int) := by omega
  have hc1 : ¬ (n + 1 = k) := by omega
  have hc2 : ¬ (n + 1 = k + 1) := by omega
  clear HROW hn
  go_enter Try.func64, Try.ntmps64
  go_wp2_with (simp only [hov])
  have hw1 : IntKind.i64.wrap ((k : Int) + 1) = (k : Int) + 1 := IntWalk.i64_in _ (by omega)
  have hi1 : (0 : Int) ≤ (k : Int) + 1 := by omega
  have hi2 : (k : Int) + 1 ≤ (n : Int) + 1 := by omega
  have hi3 : (k : Int) ≤ (n : Int) + 1 := by omega
  have hi4 : (0 : Int) ≤ (k : Int) := by omega
  have htn : ((k : Int) + 1).toNat = k + 1 := by omega
  have hkn2 : k ≤ n := by omega
  go_region_with (fail)
  all_goals
    go_wp2
    go_ret
    exact ⟨rfl, HR2.out, HG2.out⟩
set_option maxRecDepth 20000 in
set_option maxHeartbeats 1000000 in
theorem insert_end (rs : List Rg) (r : Rg) (n g gv B : Nat) (w : World) (hn : rs.length = n) (h32 : n ≤ 32) (hg : RowAt w g (i64s (flat rs) ++ i64s (flat [zR]))) (hv : RowAt w gv (i64s (flat [r]))) (hB : B ≤ g) :
    Calls Try.prog 64 #[.slice (some ⟨g, 0, none⟩) n (n + 1), .int .i64 (n : Int), .slice (some ⟨gv, 0, none⟩) 1 1] w fun e w' => e = .returned (.slice (some ⟨g, 0, none⟩) (n + 1) (n + 1)) ∧ RowAt w' g (i64s (flat (insR rs n r))) ∧ w.grownBy w' (some g) := by
  obtain ⟨i0, hi, hz0, hz1, hz2⟩ := info_parts infoRing
  have hl : (i64s (flat rs)).length = n * 3 := by rw [i64s_length, flat_len, hn]
  have hXl : (i64s (flat rs) ++ i64s (flat [zR])).length = (n + 1) * 3 := by rw [List.length_append, hl]; show n * 3 + 3 = _; omega
  have HOWN := Lib.hid (rowAt_own (B := B) (n := n) hg hXl (by rw [List.take_append_of_le_length (by omega), List.take_of_length_le (by omega)]) (by omega) (by unfold maxLen; omega) hB)
  have HSRC := Lib.hid (show ∀ j u, (i64s (flat [r]))[j]? = some u → w.cell? ((⟨gv, 0, none⟩ : Addr).add j) = some u from fun j u hj => by rw [addr_add, Nat.zero_add, rowAt_cell hv]; exact hj)
  have HE := Lib.hid (show insR rs n r = rs ++ [r] by unfold insR; rw [List.take_of_length_le (by omega), List.drop_of_length_le (by omega)])
  clear hl hXl hg hv hn
  go_enter Try.func64, Try.ntmps64
  go_wp2_with (at_builtin; refine wpList_append_fits _ rfl _ _ 33 rfl B 25 i0 3 Try.underlying33 hi hz1 g n (n + 1) (i64s (flat rs)) rfl HOWN.out ⟨gv, 0, none⟩ 1 1 (i64s (flat [r])) rfl rfl HSRC.out (one_i64s _) (Nat.le_refl _) ?_; intro w1 hown hgrow)
  have HR := Lib.hid (show RowAt w1 g (i64s (flat (insR rs n r))) from by
    obtain ⟨X, h1, h2, h3, -⟩ := rowAt_of hown
    rw [List.take_of_length_le (by omega)] at h3
    rw [HE.out, flat_append, i64s_app, ← h3]
    exact h1)
  have HG := Lib.hid hgrow
  clear hown hgrow
  go_wp2
  go_ret
  exact ⟨rfl, HR.out, HG.out⟩
/-- Insert in place: there is room for one ring more. -/
theorem insertR_any (rs : List Rg) (r : Rg) (n k g gv B : Nat) (w : World) (hn : rs.length = n) (h32 : n ≤ 32) (hk : k ≤ n) (hg : RowAt w g (i64s (flat rs) ++ i64s (flat [zR]))) (hv : RowAt w gv (i64s (flat [r]))) (hne : gv ≠ g) (hB : B ≤ g) :
    Calls Try.prog 64 #[.slice (some ⟨g, 0, none⟩) n (n + 1), .int .i64 (k : Int), .slice (some ⟨gv, 0, none⟩) 1 1] w fun e w' => e = .returned (.slice (some ⟨g, 0, none⟩) (n + 1) (n + 1)) ∧ RowAt w' g (i64s (flat (insR rs k r))) ∧ w.grownBy w' (some g) := by
  by_cases e : k = n
  · subst e
    exact insert_end rs r k g gv B w hn h32 hg hv hB
  · exact insert_shift rs r n k g gv w hn h32 (by omega) hg hv hne
set_option maxRecDepth 20000 in
set_option maxHeartbeats 2000000 in
theorem deleteR_any (rs : List Rg) (n k g : Nat) (w : World) (hn : rs.length = n) (h32 : n ≤ 32) (hk : k < n) (hg : RowAt w g (i64s (flat rs) ++ i64s (flat [zR]))) :
    Calls Try.prog 68 #[.slice (some ⟨g, 0, none⟩) n (n + 1), .int .i64 (k : Int), .int .i64 ((k : Int) + 1)] w fun e w' => e = .returned (.slice (some ⟨g, 0, none⟩) (n - 1) (n + 1)) ∧ (∃ X, RowAt w' g X ∧ X.length = (n + 1) * 3 ∧ X.take ((n - 1) * 3) = i64s (flat (remR rs k))) ∧ w.grownBy w' (some g) := by
  obtain ⟨i0, hi, hz0, hz1, hz2⟩ := info_parts infoRing
  have hl : (i64s (flat rs)).length = n * 3 := by rw [i64s_length, flat_len, hn]
  have hXl : (i64s (flat rs) ++ i64s (flat [zR])).length = (n + 1) * 3 := by rw [List.length_append, hl]; show n * 3 + 3 = _; omega
  have hgd : RowAt w.drew g (i64s (flat rs) ++ i64s (flat [zR])) := hg
  have hdl : (i64s (flat (rs.drop (k + 1)))).length = (n - (k + 1)) * 3 := by rw [i64s_length, flat_len, List.length_drop, hn]
  have S1 := Lib.hid hdl
  have S2 := Lib.hid (show ∀ j u, (i64s (flat (rs.drop (k + 1))))[j]? = some u → w.drew.cell? ((⟨g, (k + 1) * 3, none⟩ : Addr).add j) = some u from fun j u hj => by
    rw [addr_add, rowAt_cell hgd, List.getElem?_append_left (by have := (List.getElem?_eq_some_iff.1 hj).1; rw [hdl] at this; rw [hl]; omega)]
    rwa [← flat_drop, ← i64s_drop, List.getElem?_drop] at hj)
  have S3 := Lib.hid (show ∀ t, t < (i64s (flat (rs.drop (k + 1)))).length → (w.drew.cell? ⟨g, 0 + k * 3 + t, none⟩).isSome = true ∧ w.drew.frozen? ⟨g, 0 + k * 3 + t, none⟩ = false from fun t ht => ⟨rowAt_some hgd _ (by rw [hdl] at ht; rw [hXl]; omega), rowAt_frozen hgd _⟩)
  have hR1 := setCells_as_row (o := 0 + k * 3) (cs := i64s (flat (rs.drop (k + 1)))) hgd (by rw [hdl, hXl]; omega) (one_i64s _)
  have hG1 := gb_setCells g (i64s (flat (rs.drop (k + 1)))) (0 + k * 3) w.drew
  obtain ⟨W1, hW1⟩ : ∃ W1, w.drew.setCells g (0 + k * 3) (i64s (flat (rs.drop (k + 1)))) = W1 := ⟨_, rfl⟩
  rw [hW1] at hR1 hG1
  have HW1 := Lib.hid hW1
  have hX1l : ((i64s (flat rs) ++ i64s (flat [zR])).take (0 + k * 3) ++ i64s (flat (rs.drop (k + 1))) ++ (i64s (flat rs) ++ i64s (flat [zR])).drop (0 + k * 3 + (i64s (flat (rs.drop (k + 1)))).length)).length = (n + 1) * 3 := by
    rw [List.length_append, List.length_append, List.length_take, List.length_drop, hXl, hdl]; omega
  have hX1t : ((i64s (flat rs) ++ i64s (flat [zR])).take (0 + k * 3) ++ i64s (flat (rs.drop (k + 1))) ++ (i64s (flat rs) ++ i64s (flat [zR])).drop (0 + k * 3 + (i64s (flat (rs.drop (k + 1)))).length)).take ((n - 1) * 3) = i64s (flat (remR rs k)) := by
    have ht : (i64s (flat (rs.take k))).length = k * 3 := by rw [i64s_length, flat_len, List.length_take, hn]; omega
    rw [Nat.zero_add, List.take_append_of_le_length (l₁ := i64s (flat rs)) (by omega), i64s_take, flat_take, List.take_append_of_le_length (by rw [List.length_append, ht, hdl]; omega), List.take_of_length_le (by rw [List.length_append, ht, hdl]; omega)]
    unfold remR
    rw [flat_append, i64s_app]
  have hcl : ∀ ty, (Builtin.clear_ #[33] ty #[.slice (some ⟨g, (k + (n - (k + 1))) * 3, none⟩) (n - (k + (n - (k + 1)))) (n + 1 - (k + (n - (k + 1))))]).run Try.prog W1 = .ok (.tuple #[]) (W1.setCells g ((k + (n - (k + 1))) * 3) (List.replicate ((n - (k + (n - (k + 1)))) * 3) (.int .i64 0))) := fun ty =>
    run_clear3 W1 ty g _ _ _ (by omega) (fun j hj => rowAt_some hR1 _ (by rw [hX1l]; omega)) (fun j _ => rowAt_frozen hR1 _)
  have hone : ∀ v ∈ List.replicate ((n - (k + (n - (k + 1)))) * 3) (Value.int .i64 0), v.oneCell' = true := by intro v hv; rw [List.eq_of_mem_replicate hv]; rfl
  have hR2 := setCells_as_row (o := (k + (n - (k + 1))) * 3) (cs := List.replicate ((n - (k + (n - (k + 1)))) * 3) (Value.int .i64 0)) hR1 (by rw [List.length_replicate, hX1l]; omega) hone
  have HX := Lib.hid (show ∃ X, RowAt (W1.setCells g ((k + (n - (k + 1))) * 3) (List.replicate ((n - (k + (n - (k + 1)))) * 3) (Value.int .i64 0))) g X ∧ X.length = (n + 1) * 3 ∧ X.take ((n - 1) * 3) = i64s (flat (remR rs k)) from
    ⟨_, hR2, by rw [List.length_append, List.length_append, List.length_take, List.length_drop, List.length_replicate, hX1l]; omega, by
      rw [List.append_assoc, List.take_append_of_le_length (by rw [List.length_take, hX1l]; omega), List.take_take, show min ((n - 1) * 3) ((k + (n - (k + 1))) * 3) = (n - 1) * 3 by omega]
      exact hX1t⟩)
  have HG2 := Lib.hid (gb_trans (show w.grownBy W1 (some g) from ⟨hG1.os, hG1.tape, hG1.output, hG1.size, hG1.block⟩) (gb_setCells g (List.replicate ((n - (k + (n - (k + 1)))) * 3) (Value.int .i64 0)) ((k + (n - (k + 1))) * 3) W1))
  clear hR2 hR1 hG1 hW1 hX1l hX1t hgd hdl hXl hg hl hone hn
  have HONE := Lib.hid (one_i64s (flat (rs.drop (k + 1))))
  generalize i64s (flat (rs.drop (k + 1))) = news at *
  generalize W1.setCells g ((k + (n - (k + 1))) * 3) (List.replicate ((n - (k + (n - (k + 1)))) * 3) (Value.int .i64 0)) = W2 at *
  have ONE := Lib.hid (show n - 1 = k + (n - (k + 1)) by omega)
  go_enter Try.func68, Try.ntmps68
  go_wp2_with fail
  have hw1 : IntKind.i64.wrap ((k : Int) + 1) = (k : Int) + 1 := IntWalk.i64_in _ (by omega)
  have hi1 : (0 : Int) ≤ (k : Int) + 1 := by omega
  have hi2 : (k : Int) + 1 ≤ (n : Int) := by omega
  have hi4 : (0 : Int) ≤ (k : Int) := by omega
  have hi5 : (k : Int) ≤ (n : Int) + 1 := by omega
  have hkn1 : k ≤ n + 1 := by omega
  have hc2 : ¬ (n + 1 = k + 1) := by omega
  have hc3 : ¬ (n = k) := by omega
  have htn : ((k : Int) + 1).toNat = k + 1 := by omega
  have hlt2 : ¬ (n < k + 1) := by omega
  go_region_law (refine step_append_room rfl (.tmp 22) (.tmp 25) 33 rfl 25 i0 3 Try.underlying33 hi hz1 g 0 k (n + 1) (by simp [Act.eval, Act.put]) ⟨g, (k + 1) * 3, none⟩ (n - (k + 1)) (n - k) news (by simp [Act.eval, Act.put]) S1.out S2.out HONE.out (by omega) S3.out ?_; rw [HW1.out])
  go_wp2
  go_ret
  exact ⟨ret_sl ONE.out.symm, HX.out, HG2.out⟩
end Go.Proofs.Ytojkijcdfnfnlaa
