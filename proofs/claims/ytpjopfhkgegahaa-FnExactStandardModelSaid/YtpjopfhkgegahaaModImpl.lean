/- Models: the program's validity. -/
import Derived.Test.YtpjopfhkgegahaaModMath
import Derived.Test.YtpjopfhkgegahaaPick
import Derived.Test.YtpjopfhkgegahaaWithinMore
import Derived.Deep.QuietTactic
import Derived.BigQuiet
namespace Go.Proofs.Ytpjopfhkgegahaa
open Go.ChangeShapes Go.WideShapes Go.ChangeAt Go.RowKit

theorem within_zeroM (lo hi : Int) (a : Option Addr) (c : Nat) (w : World) :
    Calls Try.prog 36 #[.int .i64 lo, .int .i64 hi, .slice a 0 c] w fun e w' => e = .returned (.bool true) ∧ w = w' := by
  go_enter Try.func36, Try.ntmps36
  go_wp2
  refine wp_loop_rounds 1 ?_
  rw [rounds_succ]
  go_wp2
  go_ret
  exact ⟨rfl, rfl⟩
theorem within_atM (lo hi : Int) (zs : List Int) (v : Value) (w : World) (h : IntsAt w v zs) :
    Calls Try.prog 36 #[.int .i64 lo, .int .i64 hi, v] w fun e w' => e = .returned (.bool (allIn lo hi zs)) ∧ w = w' := by
  obtain ⟨hl, ⟨a, c, rfl, rfl⟩ | ⟨b, off, cap, rfl, hb, hc⟩⟩ := h
  · exact within_zeroM lo hi a c w
  · exact within_i64 lo hi zs b off _ cap w rfl (by omega) hc

theorem mono_le {zs : List Int} {n : Nat} (h : ∀ j, 0 < j → j < n → zs.getD (j - 1) 0 < zs.getD j 0) (i j : Nat) (hij : i ≤ j) (hj : j < n) : zs.getD i 0 ≤ zs.getD j 0 := by
  induction j with
  | zero => obtain rfl : i = 0 := by omega
            exact Int.le_refl _
  | succ j ih =>
    by_cases e : i = j + 1
    · subst e; exact Int.le_refl _
    · have h1 := ih (by omega) (by omega)
      have h2 := h (j + 1) (by omega) hj
      rw [Nat.add_sub_cancel] at h2
      omega
theorem rises_last {zs : List Int} (h1 : 1 ≤ zs.length) (h0 : zs.getD 0 0 = 0) (h : ∀ j, 0 < j → j < zs.length → zs.getD (j - 1) 0 < zs.getD j 0) : risesB 0 31 zs = decide (zs.getD (zs.length - 1) 0 < 32) := by
  by_cases hl : zs.getD (zs.length - 1) 0 < 32
  · rw [decide_eq_true hl]
    refine rises_true fun j hj => ?_
    have a1 := mono_le h 0 j (by omega) hj
    have a2 := mono_le h j (zs.length - 1) (by omega) (by omega)
    have hin : inB (zs.getD j 0) 0 31 = true := inB_true (by omega)
    by_cases e : j = 0
    · subst e; exact riseAt_zero hin
    · exact riseAt_yes hin (h j (by omega) hj)
  · rw [decide_eq_false hl]
    exact rises_false (k := zs.length - 1) (by omega) (riseAt_in (inB_false (by omega)))
set_option maxHeartbeats 2000000 in
theorem zvalid_any (zs : List Int) (v : Value) (w : World) (h : IntsAt w v zs) :
    Calls Try.prog 22 #[v] w fun e w' => e = .returned (.bool (zonesB zs)) ∧ Below w.heap.size w w' := by
  have hl := h.1
  by_cases h1 : 1 ≤ zs.length ∧ zs.length ≤ 8
  · obtain ⟨b, off, cap, rfl, hb, hc⟩ := ints_cells h (by omega)
    have HE := Lib.hid (fun h2 => zones_end (zs := zs) h1 h2)
    have HNO := Lib.hid (fun h2 => zones_no2 (zs := zs) h2)
    have HLAST := Lib.hid (fun h2 h3 => rises_last (zs := zs) h1.1 h2 h3)
    have HC := Lib.hid hc
    have HF := Lib.hid (fun k hk h => rises_false (lo := 0) (hi := 31) (zs := zs) (k := k) hk h)
    have c0 : w.cell? ⟨b, off, none⟩ = some (.int .i64 (zs.getD 0 0)) := hc 0 (by omega)
    clear h hc
    generalize hn : zs.length = n at *
    have HN := Lib.hid hn
    have h4 : (0 : Int) < (n : Int) := by omega
    have HW := Lib.hid (show inB (n : Int) 1 8 = true from inB_true (by omega))
    have hn1 : 1 ≤ n := h1.1
    clear h1 hn
    have c0a : ∀ o, (w.alloc o).cell? ⟨b, off, none⟩ = some (.int .i64 (zs.getD 0 0)) := fun o => by rw [below_cell ((Below.refl _ _).alloc (Nat.le_refl _) o) _ _ hb]; exact c0
    by_cases h0 : zs.getD 0 0 = 0
    · have HZ := Lib.hid (HE.out h0)
      have H0 := Lib.hid h0
      rw [h0] at c0a
      clear h0 HE HNO c0
      go_enter Try.func22, Try.ntmps22
      go_wp2_with fail
      refine (within_int _ _ [(n : Int)] _ 0 1 1 _ rfl (by omega) (cell_int _ _ _ _ rfl)).mono ?_
      rintro e w1 ⟨rfl, rfl⟩
      rw [all_one, HW.out]
      go_wp2
      go_loopw [3] (fun i wr => ∃ k : Nat, 1 ≤ k ∧ k ≤ n ∧ i = .int .i64 k ∧ Hid (∀ j, 0 < j → j < k → zs.getD (j - 1) 0 < zs.getD j 0) ∧ Below w.heap.size w wr) (fun i _ => n - (intOf i).toNat)
      case atStart => exact ⟨1, by omega, by omega, rfl, Lib.hid (fun j h1 h2 => by omega), (Below.refl _ _).alloc (Nat.le_refl _) _⟩
      case round =>
        obtain ⟨k, hk1, hk, rfl, HA, hbw⟩ := hrel
        have HB := Lib.hid hbw
        by_cases hlt : k < n
        · obtain ⟨q, rfl⟩ : ∃ q, k = q + 1 := ⟨k - 1, by omega⟩
          have x1 := (below_cell hbw _ _ hb).trans (HC.out (q + 1) (by omega))
          have x0 := (below_cell hbw _ _ hb).trans (HC.out q (by omega))
          have hlt1 : ((q + 1 : Nat) : Int) < (n : Int) := by omega
          have hk0 : (0 : Int) ≤ ((q + 1 : Nat) : Int) := by omega
          have hs : (((q + 1 : Nat) : Int) - 1) = (q : Int) := by omega
          have hq0 : (0 : Int) ≤ (q : Int) := by omega
          have hq1 : (q : Int) < (n : Int) := by omega
          clear hbw
          by_cases h2 : zs.getD q 0 < zs.getD (q + 1) 0
          · have H2 := Lib.hid h2
            have HK := Lib.hid (show ∀ j, 0 < j → j < q + 2 → zs.getD (j - 1) 0 < zs.getD j 0 from fun j hj1 hj2 => by
              by_cases e : j = q + 1
              · subst e; rw [Nat.add_sub_cancel]; exact H2.out
              · exact HA.out j hj1 (by omega))
            generalize zs.getD q 0 = y at *
            generalize zs.getD (q + 1) 0 = z at *
            have h3 : ¬ z ≤ y := by omega
            clear h2 H2
            go_wp2
            go_quiet (fail)
            go_wp2
            go_roundw
            case rel => exact ⟨q + 2, by omega, by omega, by go_num, HK, below_drewN2 HB.out _⟩
            case measure => simp [intOf]; omega
          · have HFF := Lib.hid (show zonesB zs = false by rw [HZ.out]; exact HF.out (q + 1) hlt (riseAt_no (by omega) (by rw [Nat.add_sub_cancel]; exact h2)))
            generalize zs.getD q 0 = y at *
            generalize zs.getD (q + 1) 0 = z at *
            have h3 : z ≤ y := by omega
            clear h2
            go_wp2
            go_quiet (fail)
            go_wp2
            go_ret
            exact ⟨ret_bool HFF.out.symm, below_drewN2 HB.out _⟩
        · obtain rfl : k = n := by omega
          obtain ⟨q, rfl⟩ : ∃ q, k = q + 1 := ⟨k - 1, by omega⟩
          have x1 := (below_cell hbw _ _ hb).trans (HC.out q (by omega))
          have hs : (((q + 1 : Nat) : Int) - 1) = (q : Int) := by omega
          have hq0 : (0 : Int) ≤ (q : Int) := by omega
          have hq1 : (q : Int) < ((q + 1 : Nat) : Int) := by omega
          have HFF := Lib.hid (show zonesB zs = decide (zs.getD q 0 < 32) by rw [HZ.out, HLAST.out H0.out (fun j h1 h2 => HA.out j h1 h2), Nat.add_sub_cancel])
          clear hbw
          generalize zs.getD q 0 = y at *
          go_wp2
          go_ret
          exact ⟨ret_bool HFF.out.symm, HB.out⟩
    · have HZ := Lib.hid (HNO.out h0)
      have h5 : (zs.getD 0 0 != 0) = true := by simpa using h0
      generalize zs.getD 0 0 = z at *
      clear h0 HE HNO c0 HLAST
      go_enter Try.func22, Try.ntmps22
      go_wp2_with fail
      refine (within_int _ _ [(n : Int)] _ 0 1 1 _ rfl (by omega) (cell_int _ _ _ _ rfl)).mono ?_
      rintro e w1 ⟨rfl, rfl⟩
      rw [all_one, HW.out]
      go_wp2
      go_ret
      exact ⟨ret_bool HZ.out.symm, (Below.refl _ _).alloc (Nat.le_refl _) _⟩
  · have HZ := Lib.hid (zones_no1 h1)
    obtain ⟨a, c, rfl⟩ := ints_form h
    clear h
    generalize zs.length = n at *
    have HW := Lib.hid (show inB (n : Int) 1 8 = false from inB_false (by omega))
    clear h1
    go_enter Try.func22, Try.ntmps22
    go_wp2_with fail
    refine (within_int _ _ [(n : Int)] _ 0 1 1 _ rfl (by omega) (cell_int _ _ _ _ rfl)).mono ?_
    rintro e w1 ⟨rfl, rfl⟩
    rw [all_one, HW.out]
    go_wp2
    go_ret
    exact ⟨ret_bool HZ.out.symm, (Below.refl _ _).alloc (Nat.le_refl _) _⟩


end Go.Proofs.Ytpjopfhkgegahaa
