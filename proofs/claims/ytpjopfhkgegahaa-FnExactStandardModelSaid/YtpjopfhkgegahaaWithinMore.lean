/- 'within' at the two other kinds: int and byte; one byte's tests, the program's and the reference model's. -/
import Derived.Test.YtpjopfhkgegahaaWithin
namespace Go.Proofs.Ytpjopfhkgegahaa
open Go.ChangeShapes Go.WideShapes Go.ChangeAt Go.RowKit

set_option maxHeartbeats 400000 in
theorem within_int (lo hi : Int) (zs : List Int) (b off n cap : Nat) (w : World) (hn : zs.length = n) (hbig : n ≤ 9223372036854775807)
    (hc : ∀ j, j < n → w.cell? ⟨b, off + j, none⟩ = some (.int .i64 (zs.getD j 0))) :
    Calls Try.prog 49 #[.int .i64 lo, .int .i64 hi, .slice (some ⟨b, off, none⟩) n cap] w fun e w' => e = .returned (.bool (allIn lo hi zs)) ∧ w = w' := by
  have HN := Lib.hid hn
  clear hn
  go_enter Try.func49, Try.ntmps49
  go_wp2
  go_loop [11] (fun i => ∃ k : Nat, k ≤ n ∧ i = .int .i64 k ∧ ∀ j, j < k → inB (zs.getD j 0) lo hi = true) (fun i => n - (intOf i).toNat)
  case atStart => exact ⟨0, by omega, rfl, fun j hj => by omega⟩
  case round =>
    obtain ⟨k, hk, rfl, hall⟩ := hrel
    have HA := Lib.hid hall
    clear hall
    by_cases hlt : k < n
    · have hcell := hc k hlt
      by_cases h1 : lo ≤ zs.getD k 0
      · by_cases h2 : zs.getD k 0 ≤ hi
        · have HB := Lib.hid (inB_true ⟨h1, h2⟩)
          generalize hz : zs.getD k 0 = z at *
          have HZ := Lib.hid hz
          clear hz hc
          go_wp2
          go_round
          case rel => exact ⟨k + 1, by omega, by go_num, fun j hj => by
            by_cases e : j = k
            · subst e; rw [HZ.out]; exact HB.out
            · exact HA.out j (by omega)⟩
          case measure => simp [intOf]; omega
        · have HB := Lib.hid (allIn_false (lo := lo) (hi := hi) (zs := zs) (k := k) (by rw [HN.out]; exact hlt) (inB_false (fun h => h2 h.2)))
          generalize hz : zs.getD k 0 = z at *
          clear hz hc
          go_wp2
          go_ret
          exact ⟨ret_bool HB.out.symm, rfl⟩
      · have HB := Lib.hid (allIn_false (lo := lo) (hi := hi) (zs := zs) (k := k) (by rw [HN.out]; exact hlt) (inB_false (fun h => h1 h.1)))
        generalize hz : zs.getD k 0 = z at *
        clear hz hc
        go_wp2
        go_ret
        exact ⟨ret_bool HB.out.symm, rfl⟩
    · have HB := Lib.hid (allIn_true (lo := lo) (hi := hi) (zs := zs) (fun j hj => HA.out j (by have := HN.out; omega)))
      clear hc
      go_wp2
      go_ret
      exact ⟨ret_bool HB.out.symm, rfl⟩

set_option maxHeartbeats 400000 in
theorem within_u8 (lo hi : Int) (zs : List Int) (b off n cap : Nat) (w : World) (hn : zs.length = n) (hbig : n ≤ 9223372036854775807)
    (hc : ∀ j, j < n → w.cell? ⟨b, off + j, none⟩ = some (.int .u8 (zs.getD j 0))) :
    Calls Try.prog 71 #[.int .u8 lo, .int .u8 hi, .slice (some ⟨b, off, none⟩) n cap] w fun e w' => e = .returned (.bool (allIn lo hi zs)) ∧ w = w' := by
  have HN := Lib.hid hn
  clear hn
  go_enter Try.func71, Try.ntmps71
  go_wp2
  go_loop [11] (fun i => ∃ k : Nat, k ≤ n ∧ i = .int .i64 k ∧ ∀ j, j < k → inB (zs.getD j 0) lo hi = true) (fun i => n - (intOf i).toNat)
  case atStart => exact ⟨0, by omega, rfl, fun j hj => by omega⟩
  case round =>
    obtain ⟨k, hk, rfl, hall⟩ := hrel
    have HA := Lib.hid hall
    clear hall
    by_cases hlt : k < n
    · have hcell := hc k hlt
      by_cases h1 : lo ≤ zs.getD k 0
      · by_cases h2 : zs.getD k 0 ≤ hi
        · have HB := Lib.hid (inB_true ⟨h1, h2⟩)
          generalize hz : zs.getD k 0 = z at *
          have HZ := Lib.hid hz
          clear hz hc
          go_wp2
          go_round
          case rel => exact ⟨k + 1, by omega, by go_num, fun j hj => by
            by_cases e : j = k
            · subst e; rw [HZ.out]; exact HB.out
            · exact HA.out j (by omega)⟩
          case measure => simp [intOf]; omega
        · have HB := Lib.hid (allIn_false (lo := lo) (hi := hi) (zs := zs) (k := k) (by rw [HN.out]; exact hlt) (inB_false (fun h => h2 h.2)))
          generalize hz : zs.getD k 0 = z at *
          clear hz hc
          go_wp2
          go_ret
          exact ⟨ret_bool HB.out.symm, rfl⟩
      · have HB := Lib.hid (allIn_false (lo := lo) (hi := hi) (zs := zs) (k := k) (by rw [HN.out]; exact hlt) (inB_false (fun h => h1 h.1)))
        generalize hz : zs.getD k 0 = z at *
        clear hz hc
        go_wp2
        go_ret
        exact ⟨ret_bool HB.out.symm, rfl⟩
    · have HB := Lib.hid (allIn_true (lo := lo) (hi := hi) (zs := zs) (fun j hj => HA.out j (by have := HN.out; omega)))
      clear hc
      go_wp2
      go_ret
      exact ⟨ret_bool HB.out.symm, rfl⟩

theorem cell_int (w : World) (x : Int) (T : TypeId) (n : Nat) (hn : n = w.heap.size) : ∀ j, j < 1 → (w.alloc (.cells #[.int .i64 x] T)).cell? ⟨n, 0 + j, none⟩ = some (.int .i64 ([x].getD j 0)) := by
  subst hn
  intro j hj
  match j, hj with
  | 0, _ => go_simp
theorem cell_u8 (w : World) (x : Int) (T : TypeId) (n : Nat) (hn : n = w.heap.size) : ∀ j, j < 1 → (w.alloc (.cells #[.int .u8 x] T)).cell? ⟨n, 0 + j, none⟩ = some (.int .u8 ([x].getD j 0)) := by
  subst hn
  intro j hj
  match j, hj with
  | 0, _ => go_simp
theorem all_one (lo hi c : Int) : allIn lo hi [c] = inB c lo hi := by simp [allIn]

theorem isLetter_any (c : Int) (w : World) :
    Calls Try.prog 68 #[.int .u8 c] w fun e w' => e = .returned (.bool (inB c 97 122)) ∧ Below w.heap.size w w' := by
  go_enter Try.func68, Try.ntmps68
  go_wp2_with fail
  refine (within_u8 _ _ [c] _ 0 1 1 _ rfl (by omega) (cell_u8 _ _ _ _ rfl)).mono ?_
  rintro e w' ⟨rfl, rfl⟩
  go_wp2
  go_ret
  exact ⟨ret_bool (all_one _ _ _), (Below.refl _ _).alloc (Nat.le_refl _) _⟩
theorem isDigit_any (c : Int) (w : World) :
    Calls Try.prog 69 #[.int .u8 c] w fun e w' => e = .returned (.bool (inB c 48 57)) ∧ Below w.heap.size w w' := by
  go_enter Try.func69, Try.ntmps69
  go_wp2_with fail
  refine (within_u8 _ _ [c] _ 0 1 1 _ rfl (by omega) (cell_u8 _ _ _ _ rfl)).mono ?_
  rintro e w' ⟨rfl, rfl⟩
  go_wp2
  go_ret
  exact ⟨ret_bool (all_one _ _ _), (Below.refl _ _).alloc (Nat.le_refl _) _⟩

theorem small_any (c : Int) (w : World) :
    Calls Try.prog 66 #[.int .u8 c] w fun e w' => e = .returned (.bool (inB c 97 122)) ∧ w = w' := by
  by_cases h1 : 97 ≤ c
  · by_cases h2 : c ≤ 122
    · have H := Lib.hid (inB_true ⟨h1, h2⟩)
      go_enter Try.func66, Try.ntmps66
      go_wp2
      go_ret
      exact ⟨ret_bool H.out.symm, rfl⟩
    · have H := Lib.hid (inB_false (n := c) (lo := 97) (hi := 122) (fun h => h2 h.2))
      go_enter Try.func66, Try.ntmps66
      go_wp2
      go_ret
      exact ⟨ret_bool H.out.symm, rfl⟩
  · have H := Lib.hid (inB_false (n := c) (lo := 97) (hi := 122) (fun h => h1 h.1))
    go_enter Try.func66, Try.ntmps66
    go_wp2
    go_ret
    exact ⟨ret_bool H.out.symm, rfl⟩
theorem digit_any (c : Int) (w : World) :
    Calls Try.prog 67 #[.int .u8 c] w fun e w' => e = .returned (.bool (inB c 48 57)) ∧ w = w' := by
  by_cases h1 : 48 ≤ c
  · by_cases h2 : c ≤ 57
    · have H := Lib.hid (inB_true ⟨h1, h2⟩)
      go_enter Try.func67, Try.ntmps67
      go_wp2
      go_ret
      exact ⟨ret_bool H.out.symm, rfl⟩
    · have H := Lib.hid (inB_false (n := c) (lo := 48) (hi := 57) (fun h => h2 h.2))
      go_enter Try.func67, Try.ntmps67
      go_wp2
      go_ret
      exact ⟨ret_bool H.out.symm, rfl⟩
  · have H := Lib.hid (inB_false (n := c) (lo := 48) (hi := 57) (fun h => h1 h.1))
    go_enter Try.func67, Try.ntmps67
    go_wp2
    go_ret
    exact ⟨ret_bool H.out.symm, rfl⟩
end Go.Proofs.Ytpjopfhkgegahaa
