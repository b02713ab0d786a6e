/- SortCuts: the reference model's sums, its test of them, its list. -/
import Derived.Test.YtjdnjlakafcglaaSrtMath
import Derived.Test.YtjdnjlakafcglaaCutSpec
import Derived.Test.YtjdnjlakafcglaaG1
import Derived.Maps.AppendAt
import Derived.BigRegion
set_option linter.unusedVariables false
namespace Go.Proofs.Ytjdnjlakafcglaa
open Go.ChangeShapes Go.WideShapes Go.ChangeAt Go.RowKit

theorem ints_cellsC {w : World} {v : Value} {zs : List Int} (h : IntsAt w v zs) (hp : 0 < zs.length) : ∃ b off cap, v = .slice (some ⟨b, off, none⟩) zs.length cap ∧ b < w.heap.size ∧ ∀ j, j < zs.length → w.cell? ⟨b, off + j, none⟩ = some (.int .i64 (zs.getD j 0)) := by
  obtain ⟨_, ⟨a, c, _, rfl⟩ | h⟩ := h
  · simp at hp
  · exact h
/-- The sums of the zones 0 to 7. -/
def sumsL (cs : List Ct) : List Int := (List.range 8).map fun (z : Nat) => sumAt (z : Int) cs
theorem sumsL_len (cs : List Ct) : (sumsL cs).length = 8 := by simp [sumsL]
theorem sumsL_get (cs : List Ct) (z : Nat) (h : z < 8) : (sumsL cs).getD z 0 = sumAt (z : Int) cs := by simp [sumsL, List.getD, h]
theorem sumsL_nil : sumsL [] = List.replicate 8 0 := rfl
theorem sumsL_next (cs : List Ct) (k : Nat) (h : k < cs.length) (x : Nat) (hx : (cs.getD k zC).1 = (x : Int)) (hx8 : x < 8) :
    (sumsL (cs.take k)).set x (sumAt (x : Int) (cs.take k) + (cs.getD k zC).2) = sumsL (cs.take (k + 1)) := by
  refine List.ext_getElem (by simp [sumsL]) fun j h1 h2 => ?_
  have hj : j < 8 := by simpa [sumsL] using h2
  rw [List.getElem_set]
  by_cases e : x = j
  · subst e
    rw [if_pos rfl]
    simp only [sumsL, List.getElem_map, List.getElem_range]
    rw [sumAt_next _ cs k h, if_pos hx]
  · rw [if_neg e]
    simp only [sumsL, List.getElem_map, List.getElem_range]
    rw [sumAt_next _ cs k h, if_neg (by rw [hx]; omega)]; omega
set_option maxRecDepth 20000 in
set_option maxHeartbeats 4000000 in
theorem l09Sums_some (cs : List Ct) (b off cap n : Nat) (w : World) (hn : Hid (cs.length = n)) (hn1 : n ≤ 64) (hb : b < w.heap.size) (hall : allC cs = true) (hc : ∀ i, i < n → CIn w b (off + i * 2) (cs.getD i zC)) :
    Calls Try.prog 75 #[.slice (some ⟨b, off, none⟩) n cap] w (CopyPost w (sumsL cs)) := by
  obtain ⟨i0, hi, hz0, hz1, hz2⟩ := info_parts infoI64
  have HC := Lib.hid (fun W (hW : Below w.heap.size w W) i (hi : i < n) => cuts_keep hW hb (hc i hi))
  have HV := Lib.hid (fun i (hi : i < n) => cut_iff.1 (allC_at hall i (by rw [hn.out]; exact hi)))
  have HBD := Lib.hid (fun z k (hk : k ≤ n) => sumAt_bd z hall k (by rw [hn.out]; exact hk))
  have HTT := Lib.hid (show sumsL (cs.take n) = sumsL cs by rw [← hn.out, List.take_length])
  clear hc hall
  go_enter Try.func75, Try.ntmps75
  go_wp2_with (at_make; refine wpList_make_full _ rfl _ _ 25 rfl w.heap.size 2 i0 (.int .i64 0) 1 Try.underlying25 hi hz0 hz1 .i64 .i64 _ _ 8 rfl rfl rfl rfl (by rw [hz2]; omega) (by unfold maxLen; omega) (Nat.le_refl _) ?_; intro w0 hown hgrow)
  have HB0 := Lib.hid ((Below.refl w.heap.size w).grown hgrow (Nat.le_refl _) (fun k hk => by cases hk))
  rw [made_ints] at hown
  have HO0 := Lib.hid (show w0.ownsRow w.heap.size 2 1 (.slice (some ⟨w.heap.size, 0, none⟩) 8 8) 8 (i64s (sumsL (cs.take 0))) by rw [List.take_zero, sumsL_nil]; exact hown)
  clear hgrow hown
  go_wp2
  go_loopw [4] (fun i wr => ∃ k : Nat, k ≤ n ∧ i = .int .i64 k ∧ wr.ownsRow w.heap.size 2 1 (.slice (some ⟨w.heap.size, 0, none⟩) 8 8) 8 (i64s (sumsL (cs.take k))) ∧ Below w.heap.size w wr) (fun i _ => n - (intOf i).toNat)
  case atStart => exact ⟨0, by omega, rfl, HO0.out, HB0.out⟩
  case round =>
    obtain ⟨k, hk, rfl, hown, hbw⟩ := hrel
    by_cases hlt : k < n
    · obtain ⟨⟨x, y⟩, hxy⟩ : ∃ r, cs.getD k zC = r := ⟨_, rfl⟩
      have hr := HC.out wr hbw k hlt
      have hv := HV.out k hlt
      rw [hxy] at hr hv
      simp only at hv
      obtain ⟨q, hq⟩ : ∃ q : Nat, x = (q : Int) := ⟨x.toNat, by omega⟩
      subst hq
      have d0 : wr.cell? ⟨b, off + k * 2, none⟩ = some (.int .i64 (q : Int)) := hr.c0
      have d1 : wr.cell? ⟨b, off + k * 2 + 1, none⟩ = some (.int .i64 y) := hr.c1
      have hq8 : q < 8 := by omega
      have HN := Lib.hid (sumsL_next cs k (by rw [hn.out]; exact hlt) q (by rw [hxy]) hq8)
      rw [hxy] at HN
      have r2 : wr.cell? ⟨w.heap.size, q, none⟩ = some (.int .i64 (sumAt (q : Int) (cs.take k))) := by
        rw [hown.cellAt q (by omega), i64s_get _ q (by rw [sumsL_len]; exact hq8), sumsL_get _ q hq8]
      have r3 := hown.frozenAt q
      have hbd := HBD.out (q : Int) k (by omega)
      have HO := Lib.hid hown
      have HB := Lib.hid hbw
      clear hr hxy hown hbw
      generalize sumAt (q : Int) (cs.take k) = t at *
      have hw2 : IntKind.i64.wrap (t + y) = t + y := IntWalk.i64_in _ (by omega)
      have hlt1 : (k : Int) < (n : Int) := by omega
      have hk0 : (0 : Int) ≤ (k : Int) := by omega
      have hq0 : (0 : Int) ≤ (q : Int) := by omega
      have hq1 : (q : Int) < 8 := by omega
      clear hbd hv
      go_wp2
      go_region
      go_wp2
      go_roundw
      case rel =>
        refine ⟨k + 1, by omega, by go_num, ?_, (HB.out.setCell (p := ⟨w.heap.size, q, none⟩) (Nat.le_refl _) _).trans ⟨rfl, rfl, rfl, Nat.le_refl _, fun _ _ => rfl⟩⟩
        rw [← HN.out, ← i64s_setC]
        exact World.ownsRow.drew ((HO.out.stored q (.int .i64 (t + y))).1)
      case measure => simp [intOf]; omega
    · obtain rfl : k = n := by omega
      have HO := Lib.hid hown
      have HB := Lib.hid hbw
      clear hown hbw
      rw [HTT.out] at HO
      go_wp2
      go_ret
      exact ⟨.slice (some ⟨w.heap.size, 0, none⟩) 8 8, rfl, ⟨w.heap.size, 8, by rw [sumsL_len], Nat.le_refl _, (HO.out.lt _ rfl).2, by rw [sumsL_len]; exact HO.out⟩, HB.out⟩
set_option maxHeartbeats 1000000 in
theorem l09Sums_none (a : Option Addr) (c : Nat) (w : World) : Calls Try.prog 75 #[.slice a 0 c] w (CopyPost w (sumsL [])) := by
  obtain ⟨i0, hi, hz0, hz1, hz2⟩ := info_parts infoI64
  go_enter Try.func75, Try.ntmps75
  go_wp2_with (at_make; refine wpList_make_full _ rfl _ _ 25 rfl w.heap.size 2 i0 (.int .i64 0) 1 Try.underlying25 hi hz0 hz1 .i64 .i64 _ _ 8 rfl rfl rfl rfl (by rw [hz2]; omega) (by unfold maxLen; omega) (Nat.le_refl _) ?_; intro w0 hown hgrow)
  have HB0 := Lib.hid ((Below.refl w.heap.size w).grown hgrow (Nat.le_refl _) (fun k hk => by cases hk))
  rw [made_ints] at hown
  have HO0 := Lib.hid hown
  clear hgrow hown
  go_wp2
  refine wp_loop_rounds 1 ?_
  rw [rounds_succ]
  go_wp2
  go_ret
  exact ⟨.slice (some ⟨w.heap.size, 0, none⟩) 8 8, rfl, ⟨w.heap.size, 8, by rw [sumsL_len], Nat.le_refl _, (HO0.out.lt _ rfl).2, by rw [sumsL_len, sumsL_nil]; exact HO0.out⟩, HB0.out⟩
theorem l09Sums_any (cs : List Ct) (v : Value) (w : World) (h : CutsAt w v cs) (h1 : cutsB cs = true) : Calls Try.prog 75 #[v] w (CopyPost w (sumsL cs)) := by
  obtain ⟨h64, hall⟩ := cutsB_iff.1 h1
  by_cases h0 : cs.length = 0
  · obtain rfl : cs = [] := List.length_eq_zero_iff.1 h0
    obtain ⟨a, c, rfl⟩ := cuts_form h
    exact l09Sums_none a c w
  · obtain ⟨b, off, cap, rfl, hb, hc⟩ := cuts_cells h (by omega)
    exact l09Sums_some cs b off cap _ w (Lib.hid rfl) h64 hb hall hc
theorem fits_take (cs : List Ct) (h : ∀ j, j < 8 → (sumsL cs).getD j 0 ≤ 20) : fitsC cs = true := fitsC_iff.2 fun z hz => by have := h z hz; rwa [sumsL_get cs z hz] at this
set_option maxHeartbeats 1000000 in
theorem l09Fits_any (cs : List Ct) (v : Value) (w : World) (h : IntsAt w v (sumsL cs)) :
    Calls Try.prog 76 #[v] w fun e w' => e = .returned (.bool (fitsC cs)) ∧ w = w' := by
  obtain ⟨b, off, cap, rfl, hb, hc⟩ := ints_cellsC h (by rw [sumsL_len]; omega)
  have HC := Lib.hid hc
  rw [sumsL_len] at HC ⊢
  clear h hc
  go_enter Try.func76, Try.ntmps76
  go_wp2
  go_loop [3] (fun i => ∃ k : Nat, k ≤ 8 ∧ i = .int .i64 k ∧ ∀ j, j < k → (sumsL cs).getD j 0 ≤ 20) (fun i => 8 - (intOf i).toNat)
  case atStart => exact ⟨0, by omega, rfl, fun j hj => by omega⟩
  case round =>
    obtain ⟨k, hk, rfl, hall⟩ := hrel
    have HA := Lib.hid hall
    clear hall
    by_cases hlt : k < 8
    · have hcell := HC.out k hlt
      have hlt1 : (k : Int) < 8 := by omega
      have hk0 : (0 : Int) ≤ (k : Int) := by omega
      by_cases hz : (sumsL cs).getD k 0 ≤ 20
      · have HT := Lib.hid (show ∀ j, j < k + 1 → (sumsL cs).getD j 0 ≤ 20 from fun j hj => by
          by_cases e : j = k
          · subst e; exact hz
          · exact HA.out j (by omega))
        generalize (sumsL cs).getD k 0 = t at *
        have hz2 : ¬ 20 < t := by omega
        clear hz
        go_wp2
        go_round
        case rel => exact ⟨k + 1, by omega, by go_num, HT.out⟩
        case measure => simp [intOf]; omega
      · have HF := Lib.hid (fitsC_no (cs := cs) hlt (by rw [sumsL_get cs k hlt] at hz; omega))
        generalize (sumsL cs).getD k 0 = t at *
        have hz2 : 20 < t := by omega
        clear hz
        go_wp2
        go_ret
        exact ⟨ret_bool HF.out.symm, rfl⟩
    · obtain rfl : k = 8 := by omega
      have HF := Lib.hid (fits_take cs HA.out)
      go_wp2
      go_ret
      exact ⟨ret_bool HF.out.symm, rfl⟩
end Go.Proofs.Ytjdnjlakafcglaa
