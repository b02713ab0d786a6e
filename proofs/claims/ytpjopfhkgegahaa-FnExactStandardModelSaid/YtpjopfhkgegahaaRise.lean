/- The reference model's test of numbers that rise within two bounds. -/
import Derived.Test.YtpjopfhkgegahaaWithin
import Derived.Deep.QuietTactic
import Derived.BigQuiet
namespace Go.Proofs.Ytpjopfhkgegahaa
open Go.ChangeShapes Go.WideShapes Go.ChangeAt Go.RowKit

/-- The j-th number lies within the bounds, above the one before. -/
def riseAt (lo hi : Int) (zs : List Int) (j : Nat) : Bool := inB (zs.getD j 0) lo hi && (decide (j = 0) || decide (zs.getD (j - 1) 0 < zs.getD j 0))
def risesB (lo hi : Int) (zs : List Int) : Bool := (List.range zs.length).all (riseAt lo hi zs)
theorem rises_true {lo hi : Int} {zs : List Int} (h : ∀ j, j < zs.length → riseAt lo hi zs j = true) : risesB lo hi zs = true := by
  unfold risesB
  rw [List.all_eq_true]
  intro j hj
  exact h j (by simpa using hj)
theorem rises_false {lo hi : Int} {zs : List Int} {k : Nat} (hk : k < zs.length) (h : riseAt lo hi zs k = false) : risesB lo hi zs = false := by
  unfold risesB
  rw [List.all_eq_false]
  exact ⟨k, by simpa using hk, by simp [h]⟩
theorem rises_at {lo hi : Int} {zs : List Int} (h : risesB lo hi zs = true) (j : Nat) (hj : j < zs.length) : riseAt lo hi zs j = true := by
  unfold risesB at h
  rw [List.all_eq_true] at h
  exact h j (by simpa using hj)
theorem riseAt_in {lo hi : Int} {zs : List Int} {j : Nat} (h : inB (zs.getD j 0) lo hi = false) : riseAt lo hi zs j = false := by unfold riseAt; rw [h]; simp
theorem riseAt_zero {lo hi : Int} {zs : List Int} (h : inB (zs.getD 0 0) lo hi = true) : riseAt lo hi zs 0 = true := by unfold riseAt; rw [h]; simp
theorem riseAt_yes {lo hi : Int} {zs : List Int} {j : Nat} (h : inB (zs.getD j 0) lo hi = true) (h2 : zs.getD (j - 1) 0 < zs.getD j 0) : riseAt lo hi zs j = true := by simp only [riseAt, h, h2]; simp
theorem riseAt_no {lo hi : Int} {zs : List Int} {j : Nat} (h0 : 0 < j) (h2 : ¬ zs.getD (j - 1) 0 < zs.getD j 0) : riseAt lo hi zs j = false := by
  unfold riseAt
  rw [decide_eq_false h2, decide_eq_false (by omega)]; simp

theorem l00In_at (n lo hi : Int) (r : Bool) (h : inB n lo hi = r) (w : World) :
    Calls Try.prog 31 #[.int .i64 n, .int .i64 lo, .int .i64 hi] w fun e w' => e = .returned (.bool r) ∧ w' = w :=
  (l00In_any n lo hi w).mono fun _ _ k => ⟨by rw [k.1, h], k.2.symm⟩

set_option maxHeartbeats 1000000 in
theorem rises_any (lo hi : Int) (zs : List Int) (b off n cap : Nat) (w : World) (hn : zs.length = n) (hbig : n ≤ 9223372036854775807)
    (hc : ∀ j, j < n → w.cell? ⟨b, off + j, none⟩ = some (.int .i64 (zs.getD j 0))) :
    Calls Try.prog 45 #[.slice (some ⟨b, off, none⟩) n cap, .int .i64 lo, .int .i64 hi] w fun e w' => e = .returned (.bool (risesB lo hi zs)) ∧ Below w.heap.size w w' := by
  have HN := Lib.hid hn
  clear hn
  go_enter Try.func45, Try.ntmps45
  go_wp2
  go_loopw [7] (fun i wr => ∃ k m : Nat, k ≤ n ∧ i = .int .i64 k ∧ wr = w.drewN m ∧ ∀ j, j < k → riseAt lo hi zs j = true) (fun i _ => n - (intOf i).toNat)
  case atStart => exact ⟨0, 0, by omega, rfl, rfl, fun j hj => by omega⟩
  case round =>
    obtain ⟨k, m, hk, rfl, rfl, hall⟩ := hrel
    have HA := Lib.hid hall
    clear hall
    by_cases hlt : k < n
    · have hcell := hc k hlt
      have hlt1 : (k : Int) < (n : Int) := by omega
      rcases Bool.eq_false_or_eq_true (inB (zs.getD k 0) lo hi) with h1 | h1
      · by_cases hk0 : k = 0
        · have HB := Lib.hid (show riseAt lo hi zs k = true by unfold riseAt; rw [h1, decide_eq_true hk0]; rfl)
          have HK0 := Lib.hid hk0
          have hg0 : decide (0 < k) = false := decide_eq_false (by omega)
          generalize hz : zs.getD k 0 = z at *
          clear hz hc hk0
          have H1 := Lib.hid h1
          clear h1
          go_wp2
          go_quiet ((go_at_call 31; exact (l00In_any _ _ _ _).mono (fun _ _ h => ⟨by rw [h.1, H1.out], _, h.2.symm⟩)))
          go_wp2
          go_roundw
          case rel => exact ⟨k + 1, _, by omega, by go_num, rfl, fun j hj => by
            obtain rfl : j = k := by have := HK0.out; omega
            exact HB.out⟩
          case measure => simp [intOf]; omega
        · have hcell1 := hc (k - 1) (by omega)
          have hk1 : 0 < k := by omega
          obtain ⟨q, rfl⟩ : ∃ q, k = q + 1 := ⟨k - 1, by omega⟩
          rw [Nat.add_sub_cancel] at hcell1
          have hg : (0 : Int) < ((q + 1 : Nat) : Int) := by omega
          have hs : (((q + 1 : Nat) : Int) - 1) = (q : Int) := by omega
          have hq0 : (0 : Int) ≤ (q : Int) := by omega
          have hq1 : (q : Int) < (n : Int) := by omega
          by_cases h2 : zs.getD q 0 < zs.getD (q + 1) 0
          · have HB := Lib.hid (riseAt_yes (j := q + 1) h1 (by rw [Nat.add_sub_cancel]; exact h2))
            generalize hz : zs.getD (q + 1) 0 = z at *
            generalize hy : zs.getD q 0 = y at *
            clear hz hy hc
            have H1 := Lib.hid h1
            have h3 : ¬ z ≤ y := by omega
            clear h1 h2
            go_wp2
            go_quiet ((go_at_call 31; exact (l00In_any _ _ _ _).mono (fun _ _ h => ⟨by rw [h.1, H1.out], _, h.2.symm⟩)))
            go_wp2
            go_roundw
            case rel => exact ⟨q + 2, _, by omega, by go_num, rfl, fun j hj => by
              by_cases e : j = q + 1
              · subst e; exact HB.out
              · exact HA.out j (by omega)⟩
            case measure => simp [intOf]; omega
          · have HB := Lib.hid (rises_false (lo := lo) (hi := hi) (by rw [HN.out]; exact hlt) (riseAt_no (j := q + 1) hk1 (by rw [Nat.add_sub_cancel]; exact h2)))
            generalize hz : zs.getD (q + 1) 0 = z at *
            generalize hy : zs.getD q 0 = y at *
            clear hz hy hc
            have H1 := Lib.hid h1
            have h3 : z ≤ y := by omega
            clear h1 h2
            go_wp2
            go_quiet ((go_at_call 31; exact (l00In_any _ _ _ _).mono (fun _ _ h => ⟨by rw [h.1, H1.out], _, h.2.symm⟩)))
            go_wp2
            go_ret
            exact ⟨ret_bool HB.out.symm, by rw [World.drewN_drewN]; exact below_drewN _ _⟩
      · have HB := Lib.hid (rises_false (lo := lo) (hi := hi) (by rw [HN.out]; exact hlt) (riseAt_in h1))
        generalize hz : zs.getD k 0 = z at *
        clear hz hc
        have H1 := Lib.hid h1
        clear h1
        go_wp2
        go_quiet ((go_at_call 31; exact (l00In_any _ _ _ _).mono (fun _ _ h => ⟨by rw [h.1, H1.out], _, h.2.symm⟩)))
        go_wp2
        go_ret
        exact ⟨ret_bool HB.out.symm, by rw [World.drewN_drewN]; exact below_drewN _ _⟩
    · have HB := Lib.hid (rises_true (lo := lo) (hi := hi) (zs := zs) (fun j hj => HA.out j (by have := HN.out; omega)))
      clear hc
      go_wp2
      go_ret
      exact ⟨ret_bool HB.out.symm, below_drewN _ _⟩
end Go.Proofs.Ytpjopfhkgegahaa
