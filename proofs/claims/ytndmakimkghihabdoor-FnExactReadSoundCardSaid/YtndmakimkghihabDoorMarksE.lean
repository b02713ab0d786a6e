/- Marks laid into a slice of numbers, or an array's, and looked for again. -/
import Derived.Test.YtndmakimkghihabDoorInts
namespace Go.Proofs.YtndmakimkghihabDoor
open Go.ChangeShapes Go.WideShapes Go.ChangeAt Go.RowKit

def marksTo (zs : List Int) (m : Int) (k : Nat) : List Int := (List.range k).map (fun (j : Nat) => m + (j : Int)) ++ zs.drop k
def marks (m : Int) (n : Nat) : List Int := (List.range n).map (fun (j : Nat) => m + (j : Int))
theorem marks_next (zs : List Int) (m : Int) (k : Nat) (h : k < zs.length) : (i64s (marksTo zs m k)).set k (.int .i64 (m + k)) = i64s (marksTo zs m (k + 1)) := by
  unfold marksTo i64s
  rw [List.drop_eq_getElem_cons h, List.range_succ, List.map_append, List.map_append, List.map_cons, List.set_append_right _ _ (by simp)]
  simp
theorem marks_at (zs : List Int) (m : Int) (k : Nat) (h : k < zs.length) : ∃ old, (i64s (marksTo zs m k))[k]? = some (.int .i64 old) := by
  refine ⟨(marksTo zs m k).getD k 0, i64s_get _ k ?_⟩
  unfold marksTo
  rw [List.length_append, List.length_map, List.length_range, List.length_drop]; omega
theorem marks_len (m : Int) (n : Nat) : (marks m n).length = n := by simp [marks]
theorem marks_get (m : Int) (n j : Nat) (h : j < n) : (marks m n).getD j 0 = m + j := by simp [marks, List.getD, h]

theorem cell_set_ne {w : World} {g b : Nat} (k j : Nat) (u : Value) (h : b ≠ g) : (w.setCell ⟨g, k, none⟩ u).cell? ⟨b, j, none⟩ = w.cell? ⟨b, j, none⟩ := World.cell?_of_block (Below.heap_setCell _ _ _ _ h)
set_option maxHeartbeats 1000000 in
theorem mark_some {E : TypeId} (zs : List Int) (m : Int) (B g cap n : Nat) (w : World) (hm : 0 ≤ m ∧ m ≤ 1000000) (hn : Hid (zs.length = n)) (hn1 : n ≤ 1048576) (hB : B ≤ g) (hown : w.ownsRow B E 1 (.slice (some ⟨g, 0, none⟩) n cap) n (i64s zs)) :
    Calls Tryd.prog 13 #[.slice (some ⟨g, 0, none⟩) n cap, .int .i64 m] w fun e w' => e = .returned (.int .i64 (m + n)) ∧ w'.ownsRow B E 1 (.slice (some ⟨g, 0, none⟩) n cap) n (i64s (marks m n)) ∧ Below B w w' ∧ (∀ b j, b ≠ g → w'.cell? ⟨b, j, none⟩ = w.cell? ⟨b, j, none⟩) := by
  have HO0 := Lib.hid hown
  clear hown
  go_enter Tryd.func13, Tryd.ntmps13
  go_wp2
  go_loopw [1, 5] (fun v i wr => ∃ k : Nat, k ≤ n ∧ i = .int .i64 k ∧ v = .int .i64 (m + k) ∧ wr.ownsRow B E 1 (.slice (some ⟨g, 0, none⟩) n cap) n (i64s (marksTo zs m k)) ∧ Below B w wr ∧ Hid (∀ b j, b ≠ g → wr.cell? ⟨b, j, none⟩ = w.cell? ⟨b, j, none⟩)) (fun _ i _ => n - (intOf i).toNat)
  case atStart => exact ⟨0, by omega, rfl, by congr 1; omega, HO0.out, Below.refl _ _, Lib.hid (fun _ _ _ => rfl)⟩
  case round =>
    obtain ⟨k, hk, rfl, rfl, hown, hbw, HFR⟩ := hrel
    have HO := Lib.hid hown
    have HB := Lib.hid hbw
    by_cases hlt : k < n
    · have hf := hown.frozenAt k
      have hat : wr.cell? ⟨g, k, none⟩ = (i64s (marksTo zs m k))[k]? := hown.cellAt k (by omega)
      obtain ⟨old, hold⟩ := marks_at zs m k (by rw [hn.out]; exact hlt)
      rw [hold] at hat
      have HS := Lib.hid (HO.out.stored k (.int .i64 (m + k)))
      have HN := Lib.hid (marks_next zs m k (by rw [hn.out]; exact hlt))
      clear hold hown hbw
      go_wp2
      go_roundw
      case rel => exact ⟨k + 1, by omega, by go_num, by congr 1; omega, by rw [← HN.out]; exact HS.out.1, HB.out.setCell (by exact hB) _, Lib.hid (fun b j hb => by rw [cell_set_ne _ _ _ hb]; exact HFR.out b j hb)⟩
      case measure => simp [intOf]; omega
    · obtain rfl : k = n := by omega
      clear hown hbw
      have he : marksTo zs m k = marks m k := by unfold marksTo marks; rw [List.drop_of_length_le (by rw [hn.out]; exact Nat.le_refl _)]; simp
      rw [he] at HO
      clear he
      go_wp2
      go_ret
      exact ⟨rfl, HO.out, HB.out, HFR.out⟩
set_option maxHeartbeats 1000000 in
theorem held_some {E : TypeId} (m : Int) (B g cap n : Nat) (w : World) (hm : 0 ≤ m ∧ m ≤ 1000000) (hn1 : n ≤ 1048576) (hown : w.ownsRow B E 1 (.slice (some ⟨g, 0, none⟩) n cap) n (i64s (marks m n))) :
    Calls Tryd.prog 14 #[.slice (some ⟨g, 0, none⟩) n cap, .int .i64 m] w fun e w' => e = .returned (.int .i64 (m + n)) ∧ w = w' := by
  have HO := Lib.hid hown
  clear hown
  go_enter Tryd.func14, Tryd.ntmps14
  go_wp2
  go_loop [1, 5] (fun v i => ∃ k : Nat, k ≤ n ∧ i = .int .i64 k ∧ v = .int .i64 (m + k)) (fun _ i => n - (intOf i).toNat)
  case atStart => exact ⟨0, by omega, rfl, by congr 1; omega⟩
  case round =>
    obtain ⟨k, hk, rfl, rfl⟩ := hrel
    by_cases hlt : k < n
    · have hcell : w.cell? ⟨g, k, none⟩ = some (.int .i64 (m + k)) := by
        rw [HO.out.cellAt k (by omega), i64s_get _ k (by rw [marks_len]; exact hlt), marks_get m n k hlt]
      have hz : ((m + (k : Int)) != (m + k)) = false := by simp
      go_wp2
      go_round
      case rel => exact ⟨k + 1, by omega, by go_num, by congr 1; omega⟩
      case measure => simp [intOf]; omega
    · obtain rfl : k = n := by omega
      go_wp2
      go_ret
      exact ⟨rfl, rfl⟩
theorem mark_none (m : Int) (w : World) :
    Calls Tryd.prog 13 #[.slice none 0 0, .int .i64 m] w fun e w' => e = .returned (.int .i64 m) ∧ w = w' := by
  go_enter Tryd.func13, Tryd.ntmps13
  go_wp2
  refine wp_loop_rounds 1 ?_
  rw [rounds_succ]
  go_wp2
  go_ret
  exact ⟨rfl, rfl⟩
theorem held_none (m : Int) (w : World) :
    Calls Tryd.prog 14 #[.slice none 0 0, .int .i64 m] w fun e w' => e = .returned (.int .i64 m) ∧ w = w' := by
  go_enter Tryd.func14, Tryd.ntmps14
  go_wp2
  refine wp_loop_rounds 1 ?_
  rw [rounds_succ]
  go_wp2
  go_ret
  exact ⟨rfl, rfl⟩
end Go.Proofs.YtndmakimkghihabDoor
