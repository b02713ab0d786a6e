/- 'within' answers whether all values of its list lie between two bounds; the reference model's range test answers the same of one. -/
import Derived.Test.YtpjopfhkgegahaaBase
namespace Go.Proofs.Ytpjopfhkgegahaa
open Go.ChangeShapes Go.WideShapes Go.ChangeAt Go.RowKit

def inB (n lo hi : Int) : Bool := decide (lo ≤ n) && decide (n ≤ hi)
def allIn (lo hi : Int) (zs : List Int) : Bool := zs.all fun v => inB v lo hi
theorem inB_true {n lo hi : Int} (h : lo ≤ n ∧ n ≤ hi) : inB n lo hi = true := by simp [inB, h]
theorem inB_false {n lo hi : Int} (h : ¬ (lo ≤ n ∧ n ≤ hi)) : inB n lo hi = false := by
  simp only [inB, Bool.and_eq_false_iff, decide_eq_false_iff_not]; omega
theorem inB_iff {n lo hi : Int} : inB n lo hi = true ↔ lo ≤ n ∧ n ≤ hi := by simp [inB]
theorem allIn_false {lo hi : Int} {zs : List Int} {k : Nat} (hk : k < zs.length) (h : inB (zs.getD k 0) lo hi = false) : allIn lo hi zs = false := by
  unfold allIn
  rw [List.all_eq_false]
  exact ⟨zs.getD k 0, by rw [List.getD_eq_getElem?_getD, List.getElem?_eq_getElem hk]; simp, by rw [h]; simp⟩
theorem allIn_true {lo hi : Int} {zs : List Int} (h : ∀ j, j < zs.length → inB (zs.getD j 0) lo hi = true) : allIn lo hi zs = true := by
  unfold allIn
  rw [List.all_eq_true]
  intro x hx
  obtain ⟨i, hi, rfl⟩ := List.mem_iff_getElem.1 hx
  have := h i hi
  rwa [List.getD_eq_getElem?_getD, List.getElem?_eq_getElem hi] at this

theorem l00In_any (n lo hi : Int) (w : World) :
    Calls Try.prog 31 #[.int .i64 n, .int .i64 lo, .int .i64 hi] w fun e w' => e = .returned (.bool (inB n lo hi)) ∧ w = w' := by
  by_cases h : lo ≤ n ∧ n ≤ hi
  · have H := Lib.hid (inB_true h)
    obtain ⟨h1, h2⟩ := h
    go_enter Try.func31, Try.ntmps31
    go_wp2
    go_ret
    exact ⟨ret_bool H.out.symm, rfl⟩
  · have H := Lib.hid (inB_false h)
    by_cases h1 : lo ≤ n
    · have h2 : ¬ n ≤ hi := fun h2 => h ⟨h1, h2⟩
      clear h
      go_enter Try.func31, Try.ntmps31
      go_wp2
      go_ret
      exact ⟨ret_bool H.out.symm, rfl⟩
    · clear h
      go_enter Try.func31, Try.ntmps31
      go_wp2
      go_ret
      exact ⟨ret_bool H.out.symm, rfl⟩

set_option maxHeartbeats 400000 in
theorem within_i64 (lo hi : Int) (zs : List Int) (b off n cap : Nat) (w : World) (hn : zs.length = n) (hbig : n ≤ 9223372036854775807)
    (hc : ∀ j, j < n → w.cell? ⟨b, off + j, none⟩ = some (.int .i64 (zs.getD j 0))) :
    Calls Try.prog 36 #[.int .i64 lo, .int .i64 hi, .slice (some ⟨b, off, none⟩) n cap] w fun e w' => e = .returned (.bool (allIn lo hi zs)) ∧ w = w' := by
  have HN := Lib.hid hn
  clear hn
  go_enter Try.func36, Try.ntmps36
  go_wp2
  go_loop [11] (fun i => ∃ k : Nat, k ≤ n ∧ i = .int .i64 k ∧ ∀ j, j < k → inB (zs.getD j 0) lo hi = true) (fun i => n - (intOf i).toNat)
  case atStart => exact ⟨0, by omega, rfl, fun j hj => by omega⟩
  case round =>
    obtain ⟨k, hk, rfl, hall⟩ := hrel
    have HA := Lib.hid hall
    clear hall
    by_cases hlt : k < n
    · have hcell := hc k hlt
      by_cases h1 : lo ≤ zs.getD k 0
      · by_cases h2 : zs.getD k 0 ≤ hi
        · have HB := Lib.hid (inB_true ⟨h1, h2⟩)
          generalize hz : zs.getD k 0 = z at *
          have HZ := Lib.hid hz
          clear hz hc
          go_wp2
          go_round
          case rel => exact ⟨k + 1, by omega, by go_num, fun j hj => by
            by_cases e : j = k
            · subst e; rw [HZ.out]; exact HB.out
            · exact HA.out j (by omega)⟩
          case measure => simp [intOf]; omega
        · have HB := Lib.hid (allIn_false (lo := lo) (hi := hi) (zs := zs) (k := k) (by rw [HN.out]; exact hlt) (inB_false (fun h => h2 h.2)))
          generalize hz : zs.getD k 0 = z at *
          clear hz hc
          go_wp2
          go_ret
          exact ⟨ret_bool HB.out.symm, rfl⟩
      · have HB := Lib.hid (allIn_false (lo := lo) (hi := hi) (zs := zs) (k := k) (by rw [HN.out]; exact hlt) (inB_false (fun h => h1 h.1)))
        generalize hz : zs.getD k 0 = z at *
        clear hz hc
        go_wp2
        go_ret
        exact ⟨ret_bool HB.out.symm, rfl⟩
    · have HB := Lib.hid (allIn_true (lo := lo) (hi := hi) (zs := zs) (fun j hj => HA.out j (by have := HN.out; omega)))
      clear hc
      go_wp2
      go_ret
      exact ⟨ret_bool HB.out.symm, rfl⟩

theorem within_i64_none (lo hi : Int) (w : World) :
    Calls Try.prog 36 #[.int .i64 lo, .int .i64 hi, .slice none 0 0] w fun e w' => e = .returned (.bool true) ∧ w = w' := by
  go_enter Try.func36, Try.ntmps36
  go_wp2
  refine wp_loop_rounds 1 ?_
  rw [rounds_succ]
  go_wp2
  go_ret
  exact ⟨rfl, rfl⟩
end Go.Proofs.Ytpjopfhkgegahaa
