/- SortCuts: the reference model's list of cuts; its answer. -/
import Derived.Test.YtpllmehcndinkaaG3
import Derived.Test.YtpllmehcndinkaaG2
import Derived.Deep.AppendLies
set_option linter.unusedVariables false
namespace Go.Proofs.Ytpllmehcndinkaa
open Go.ChangeShapes Go.WideShapes Go.ChangeAt Go.RowKit

theorem newsC {w : World} {x y : Int} {T : TypeId} : ∀ j u, ([Value.int .i64 x, Value.int .i64 y] : List Value)[j]? = some u → (w.alloc (.cells #[.int .i64 x, .int .i64 y] T)).cell? ((⟨w.heap.size, 0, none⟩ : Addr).add j) = some u := by
  intro j u hu
  match j, hu with
  | 0, hu => simp at hu; subst hu; simp [Addr.add]
  | 1, hu => simp at hu; subst hu; simp [Addr.add]
  | j + 2, hu => simp at hu
theorem ret_cv {v : Value} {a b : Int} (h : a = b) : Ending.returned (.tuple #[v, .int .i64 a]) = .returned (.tuple #[v, .int .i64 b]) := by rw [h]
set_option maxRecDepth 20000 in
set_option maxHeartbeats 4000000 in
theorem l09List_any (L : List Int) (f : Nat → Int) (n : Nat) (v : Value) (w : World) (hn : L.length = n) (hn1 : 0 < n ∧ n ≤ 64) (hf : ∀ z, z < n → L.getD z 0 = f z) (h : IntsAt w v L) :
    Calls Try.prog 80 #[v] w fun e w' => (∃ v, e = .returned v ∧ Cv w' w.heap.size v (listOf f n)) ∧ Below w.heap.size w w' := by
  obtain ⟨i0, hi, hz0, hz1, hz2⟩ := info_parts infoC
  obtain ⟨b, off, cap, rfl, hb, hc⟩ := ints_cellsC h (by omega)
  have HC := Lib.hid (fun W (hW : Below w.heap.size w W) z (hz : z < n) => show W.cell? ⟨b, off + z, none⟩ = some (.int .i64 (f z)) by rw [← hf z hz]; exact (below_cell hW _ _ hb).trans (hc z (by omega)))
  have HLL := Lib.hid (listOf_len f)
  have HYES := Lib.hid (fun k (h : 0 < f k) => listOf_yes (n := k) h)
  have HNO := Lib.hid (fun k (h : f k ≤ 0) => listOf_no (f := f) (n := k) (by omega))
  have HA0 := Lib.hid (show (w.alloc (.cells #[] 104)).ownsRow w.heap.size 104 2 (.slice (some ⟨w.heap.size, 0, none⟩) 0 0) 0 [] from World.ownsRow_made w #[] 0 (Nat.le_refl _) (by simp) (by simp))
  rw [hn]
  clear h hc hf hn
  go_enter Try.func80, Try.ntmps80
  go_wp2
  go_loopw [3, 4] (fun v i wr => ∃ k : Nat, k ≤ n ∧ i = .int .i64 k ∧ Hid (wr.ownsRow w.heap.size 104 2 v (listOf f k).length (i64s (flatC (listOf f k)))) ∧ Hid (Below w.heap.size w wr)) (fun _ i _ => n - (intOf i).toNat)
  case atStart => exact ⟨0, by omega, rfl, Lib.hid (by simpa [i64s, listOf, flatC] using HA0.out), Lib.hid (below_al _ _)⟩
  case round =>
    obtain ⟨k, hk, rfl, HO, HB⟩ := hrel
    by_cases hlt : k < n
    · have hcell := HC.out wr HB.out k hlt
      have hll := HLL.out k
      have hk0 : (0 : Int) ≤ (k : Int) := by omega
      have hlt1 : (k : Int) < (n : Int) := by omega
      by_cases hp : 0 < f k
      · have HL := Lib.hid (HYES.out k hp)
        have HLN := Lib.hid (show (listOf f (k + 1)).length = (listOf f k).length + 1 by rw [HL.out]; simp)
        have HXS := Lib.hid (show i64s (flatC (listOf f (k + 1))) = i64s (flatC (listOf f k)) ++ [.int .i64 (k : Int), .int .i64 (f k)] by rw [HL.out, flatC_append]; simp [i64s, flatC])
        generalize f k = t at *
        have HOa := Lib.hid (HO.out.alloc (.cells #[.int .i64 (k : Int), .int .i64 t] 104))
        have HBa := Lib.hid (HB.out.alloc HB.out.size (.cells #[.int .i64 (k : Int), .int .i64 t] 104))
        have hsa : w.heap.size ≤ (wr.alloc (.cells #[.int .i64 (k : Int), .int .i64 t] 104)).heap.size := HBa.out.size
        generalize hq : (listOf f k).length = q at *
        clear hq
        go_wp2_with (at_builtin; refine wpList_append_own_at _ rfl _ _ 63 rfl w.heap.size 104 i0 _ 2 16 Try.underlying63 hi hz0 hz1 hz2 rfl (by omega) _ q (i64s (flatC (listOf f k))) rfl HOa.out ⟨wr.heap.size, 0, none⟩ 1 1 [.int .i64 (k : Int), .int .i64 t] rfl rfl newsC (by intro u hu; simp at hu; rcases hu with rfl | rfl <;> rfl) (by unfold maxLen; omega) (by omega) hsa ?_; intro v3 w3 hown3 hgrow3 hnil3 hat3)
        have HO4 := Lib.hid (show w3.ownsRow w.heap.size 104 2 v3 (listOf f (k + 1)).length (i64s (flatC (listOf f (k + 1)))) from by rw [HXS.out, HLN.out]; exact hown3)
        have HB4 := Lib.hid (HBa.out.grown hgrow3 hsa (fun k hk => (HOa.out.lt k hk).1))
        clear hown3 hgrow3 hnil3 hat3
        go_wp2
        go_roundw
        case rel => exact ⟨k + 1, by omega, by go_num, HO4, HB4⟩
        case measure => simp [intOf]; omega
      · have hp : f k ≤ 0 := by omega
        have HL := Lib.hid (HNO.out k hp)
        generalize f k = t at *
        go_wp2
        go_roundw
        case rel => exact ⟨k + 1, by omega, by go_num, by rw [HL.out]; exact HO, HB⟩
        case measure => simp [intOf]; omega
    · obtain rfl : k = n := by omega
      have HV := Lib.hid (cv_of_row HO.out)
      obtain ⟨av, cv, rfl⟩ := cv_form HV.out
      go_wp2
      go_ret
      exact ⟨⟨_, rfl, HV.out⟩, HB.out⟩
set_option maxRecDepth 20000 in
set_option maxHeartbeats 2000000 in
theorem specSC_any (cs : List Ct) (v : Value) (w : World) (h : CutsAt w v cs) :
    Calls Try.prog 36 #[v] w (CU (srL cs) (srC cs) w) := by
  have HC := Lib.hid (l09Cuts_any cs v w h)
  rcases Bool.eq_false_or_eq_true (cutsB cs) with h1 | h1
  · have H1 := Lib.hid h1
    have HS := Lib.hid (fun W (hW : Below w.heap.size w W) => l09Sums_any cs v W (cuts_kept hW h) h1)
    obtain ⟨a, c, rfl⟩ := cuts_form h
    rcases Bool.eq_false_or_eq_true (fitsC cs) with h2 | h2
    · have H2 := Lib.hid h2
      have HR := Lib.hid (sr_0 h1 h2)
      clear h h1 h2
      generalize cs.length = n at *
      go_enter Try.func36, Try.ntmps36
      go_wp2_with fail
      refine HC.out.mono ?_
      rintro e w1 ⟨rfl, hb⟩
      rw [H1.out]
      have HB := Lib.hid hb
      clear hb
      go_wp2_with fail
      refine (HS.out _ HB.out).mono ?_
      rintro e w2 ⟨vs, rfl, ho, hb⟩
      have HV := Lib.hid (own_ints (by rw [sumsL_len]; omega) ho)
      have HB2 := Lib.hid (below_of HB.out hb HB.out.size)
      clear ho hb
      go_wp2_with fail
      refine (l09Fits_any cs vs _ HV.out).mono ?_
      rintro e w3 ⟨rfl, rfl⟩
      rw [H2.out]
      go_wp2_with fail
      refine (l09List_any (sumsL cs) (fun z => sumAt (z : Int) cs) 8 vs _ (sumsL_len cs) (by omega) (fun z hz => sumsL_get cs z hz) HV.out).mono ?_
      rintro e w3 ⟨⟨vr, rfl, hv⟩, hb⟩
      have HVR := Lib.hid (cv_base hv HB2.out.size)
      have HB3 := Lib.hid (below_of HB2.out hb HB2.out.size)
      clear hv hb
      go_wp2
      go_ret2
      exact ⟨vr, ret_cv HR.out.2.symm, by rw [HR.out.1]; exact HVR.out, HB3.out⟩
    · have H2 := Lib.hid h2
      have HR := Lib.hid (sr_5 h1 h2)
      clear h h1 h2
      generalize cs.length = n at *
      go_enter Try.func36, Try.ntmps36
      go_wp2_with fail
      refine HC.out.mono ?_
      rintro e w1 ⟨rfl, hb⟩
      rw [H1.out]
      have HB := Lib.hid hb
      clear hb
      go_wp2_with fail
      refine (HS.out _ HB.out).mono ?_
      rintro e w2 ⟨vs, rfl, ho, hb⟩
      have HV := Lib.hid (own_ints (by rw [sumsL_len]; omega) ho)
      have HB2 := Lib.hid (below_of HB.out hb HB.out.size)
      clear ho hb
      go_wp2_with fail
      refine (l09Fits_any cs vs _ HV.out).mono ?_
      rintro e w3 ⟨rfl, rfl⟩
      rw [H2.out]
      go_wp2
      go_ret2
      exact ⟨.slice none 0 0, ret_cv HR.out.2.symm, by rw [HR.out.1]; exact .inl ⟨rfl, rfl⟩, HB2.out⟩
  · have H1 := Lib.hid h1
    have HR := Lib.hid (sr_1 h1)
    obtain ⟨a, c, rfl⟩ := cuts_form h
    clear h h1
    generalize cs.length = n at *
    go_enter Try.func36, Try.ntmps36
    go_wp2_with fail
    refine HC.out.mono ?_
    rintro e w1 ⟨rfl, hb⟩
    rw [H1.out]
    have HB := Lib.hid hb
    clear hb
    go_wp2
    go_ret2
    exact ⟨.slice none 0 0, ret_cv HR.out.2.symm, by rw [HR.out.1]; exact .inl ⟨rfl, rfl⟩, HB.out⟩
end Go.Proofs.Ytpllmehcndinkaa
