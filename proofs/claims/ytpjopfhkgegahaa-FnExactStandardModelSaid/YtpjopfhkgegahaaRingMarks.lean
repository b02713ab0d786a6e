/- Marks laid into a slice of rings, and looked for again. -/
import Derived.Test.YtpjopfhkgegahaaProf
namespace Go.Proofs.Ytpjopfhkgegahaa
open Go.ChangeShapes Go.WideShapes Go.ChangeAt Go.RowKit

def markR (m : Int) (j : Nat) : Rg := (m + 3 * (j : Int), m + 3 * (j : Int) + 1, m + 3 * (j : Int) + 1 + 1)
def marksRTo (rs : List Rg) (m : Int) (k : Nat) : List Rg := (List.range k).map (markR m) ++ rs.drop k
def marksR (m : Int) (n : Nat) : List Rg := (List.range n).map (markR m)
theorem marksR_len (m : Int) (n : Nat) : (marksR m n).length = n := by simp [marksR]
theorem marksRTo_len (rs : List Rg) (m : Int) (k : Nat) (h : k ≤ rs.length) : (marksRTo rs m k).length = rs.length := by simp [marksRTo]; omega
theorem marksR_get (m : Int) (n j : Nat) (h : j < n) : (marksR m n).getD j zR = markR m j := by simp [marksR, List.getD, h]
theorem marksR_next (rs : List Rg) (m : Int) (k : Nat) (h : k < rs.length) : (marksRTo rs m k).set k (markR m k) = marksRTo rs m (k + 1) := by
  unfold marksRTo
  rw [List.drop_eq_getElem_cons h, List.range_succ, List.map_append, List.set_append_right _ _ (by simp), List.length_map, List.length_range, Nat.sub_self, List.set_cons_zero, List.append_assoc]
  rfl
theorem gb_refl (w : World) (row : Option Nat) : w.grownBy w row := ⟨rfl, rfl, rfl, Nat.le_refl _, fun _ _ _ => rfl⟩
theorem gb_trans {w w1 w2 : World} {row : Option Nat} (h : w.grownBy w1 row) (h2 : w1.grownBy w2 row) : w.grownBy w2 row :=
  ⟨h2.os.trans h.os, h2.tape.trans h.tape, h2.output.trans h.output, Nat.le_trans h.size h2.size, fun k hk hne => (h2.block k (Nat.lt_of_lt_of_le hk h.size) hne).trans (h.block k hk hne)⟩
theorem gb_set {w wr : World} {g : Nat} (k : Nat) (u : Value) (h : w.grownBy wr (some g)) : w.grownBy (wr.setCell ⟨g, k, none⟩ u) (some g) :=
  ⟨h.os, h.tape, h.output, by simpa using h.size, fun b hb hne => (Below.heap_setCell _ _ _ _ (by intro e; exact hne (by simp only at e; rw [e]))).trans (h.block b hb hne)⟩
theorem gb_below {w w' : World} {B : Nat} {row : Option Nat} (h : w.grownBy w' row) (hB : B ≤ w.heap.size) (hr : ∀ k, row = some k → B ≤ k) : Below B w w' :=
  ⟨h.os, h.tape, h.output, h.size, fun k hk => h.block k (by omega) (fun e => by have := hr k e.symm; omega)⟩
theorem gb_of_below {w w' : World} {row : Option Nat} (h : Below w.heap.size w w') : w.grownBy w' row := ⟨h.os, h.tape, h.output, h.size, fun k hk _ => h.block k hk⟩
set_option maxHeartbeats 1000000 in
theorem markR_some (rs : List Rg) (m : Int) (B g cap n : Nat) (w : World) (hm : 0 ≤ m ∧ m ≤ 1000000000000) (hn : Hid (rs.length = n)) (hn1 : n ≤ 1048576) (hown : w.ownsRow B 58 3 (.slice (some ⟨g, 0, none⟩) n cap) n (i64s (flat rs))) :
    Calls Try.prog 43 #[.slice (some ⟨g, 0, none⟩) n cap, .int .i64 m] w fun e w' => e = .returned (.int .i64 (m + 3 * n)) ∧ w'.ownsRow B 58 3 (.slice (some ⟨g, 0, none⟩) n cap) n (i64s (flat (marksR m n))) ∧ w.grownBy w' (some g) := by
  have HO0 := Lib.hid hown
  clear hown
  go_enter Try.func43, Try.ntmps43
  go_wp2
  go_loopw [1, 5] (fun v i wr => ∃ k : Nat, k ≤ n ∧ i = .int .i64 k ∧ v = .int .i64 (m + 3 * k) ∧ wr.ownsRow B 58 3 (.slice (some ⟨g, 0, none⟩) n cap) n (i64s (flat (marksRTo rs m k))) ∧ w.grownBy wr (some g)) (fun _ i _ => n - (intOf i).toNat)
  case atStart => exact ⟨0, by omega, rfl, by congr 1; omega, HO0.out, gb_refl _ _⟩
  case round =>
    obtain ⟨k, hk, rfl, rfl, hown, hbw⟩ := hrel
    have HO := Lib.hid hown
    have HB := Lib.hid hbw
    by_cases hlt : k < n
    · have HN := Lib.hid (marksR_next rs m k (by rw [hn.out]; exact hlt))
      have HL := Lib.hid (show (marksRTo rs m k).length = n by rw [marksRTo_len _ _ _ (by rw [hn.out]; omega), hn.out])
      generalize marksRTo rs m k = cs at *
      obtain ⟨d0, d1, d2⟩ := own_in HL.out HO.out k hlt
      generalize cs.getD k zR = old at *
      have f0 := HO.out.frozenAt (k * 3)
      have f1 := HO.out.frozenAt (k * 3 + 1)
      have f2 := HO.out.frozenAt (k * 3 + 2)
      have HS := Lib.hid (store3 HO.out k (markR m k))
      have hkn : (k : Int) < (n : Int) := by omega
      have hk0 : (0 : Int) ≤ (k : Int) := by omega
      clear hown hbw
      go_wp2
      go_roundw
      case rel => exact ⟨k + 1, by omega, by go_num, by congr 1; omega, by rw [← HN.out]; exact HS.out, gb_set _ _ (gb_set _ _ (gb_set _ _ HB.out))⟩
      case measure => simp [intOf]; omega
    · obtain rfl : k = n := by omega
      clear hown hbw
      have he : marksRTo rs m k = marksR m k := by unfold marksRTo marksR; rw [List.drop_of_length_le (by rw [hn.out]; exact Nat.le_refl _)]; simp
      rw [he] at HO
      clear he
      go_wp2
      go_ret
      exact ⟨rfl, HO.out, HB.out⟩
theorem markR_none (m : Int) (w : World) (a : Option Addr) (c : Nat) :
    Calls Try.prog 43 #[.slice a 0 c, .int .i64 m] w fun e w' => e = .returned (.int .i64 m) ∧ w = w' := by
  go_enter Try.func43, Try.ntmps43
  go_wp2
  refine wp_loop_rounds 1 ?_
  rw [rounds_succ]
  go_wp2
  go_ret
  exact ⟨rfl, rfl⟩
set_option maxHeartbeats 1000000 in
theorem heldR_some (m : Int) (B g cap n : Nat) (w : World) (hm : 0 ≤ m ∧ m ≤ 1000000000000) (hn1 : n ≤ 1048576) (hown : w.ownsRow B 58 3 (.slice (some ⟨g, 0, none⟩) n cap) n (i64s (flat (marksR m n)))) :
    Calls Try.prog 44 #[.slice (some ⟨g, 0, none⟩) n cap, .int .i64 m] w fun e w' => e = .returned (.int .i64 (m + 3 * n)) ∧ w = w' := by
  have HO := Lib.hid hown
  clear hown
  go_enter Try.func44, Try.ntmps44
  go_wp2
  go_loop [1, 5] (fun v i => ∃ k : Nat, k ≤ n ∧ i = .int .i64 k ∧ v = .int .i64 (m + 3 * k)) (fun _ i => n - (intOf i).toNat)
  case atStart => exact ⟨0, by omega, rfl, by congr 1; omega⟩
  case round =>
    obtain ⟨k, hk, rfl, rfl⟩ := hrel
    by_cases hlt : k < n
    · obtain ⟨d0, d1, d2⟩ := own_in (marksR_len m n) HO.out k hlt
      rw [marksR_get m n k hlt] at d0 d1 d2
      have e0 : w.cell? ⟨g, k * 3, none⟩ = some (.int .i64 (m + 3 * k)) := d0
      have e1 : w.cell? ⟨g, k * 3 + 1, none⟩ = some (.int .i64 (m + 3 * k + 1)) := d1
      have e2 : w.cell? ⟨g, k * 3 + 2, none⟩ = some (.int .i64 (m + 3 * k + 1 + 1)) := d2
      have hz : ((m + 3 * (k : Int)) != (m + 3 * (k : Int))) = false := by simp
      have hz1 : ((m + 3 * (k : Int) + 1) != (m + 3 * (k : Int) + 1)) = false := by simp
      have hz2 : ((m + 3 * (k : Int) + 1 + 1) != (m + 3 * (k : Int) + 1 + 1)) = false := by simp
      have hkn : (k : Int) < (n : Int) := by omega
      have hk0 : (0 : Int) ≤ (k : Int) := by omega
      clear d0 d1 d2
      go_wp2
      go_round
      case rel => exact ⟨k + 1, by omega, by go_num, by congr 1; omega⟩
      case measure => simp [intOf]; omega
    · obtain rfl : k = n := by omega
      go_wp2
      go_ret
      exact ⟨rfl, rfl⟩
theorem heldR_none (m : Int) (w : World) (a : Option Addr) (c : Nat) :
    Calls Try.prog 44 #[.slice a 0 c, .int .i64 m] w fun e w' => e = .returned (.int .i64 m) ∧ w = w' := by
  go_enter Try.func44, Try.ntmps44
  go_wp2
  refine wp_loop_rounds 1 ?_
  rw [rounds_succ]
  go_wp2
  go_ret
  exact ⟨rfl, rfl⟩
end Go.Proofs.Ytpjopfhkgegahaa
