/- Slices of strings, or an array's: two compared; marks laid into one and looked for again (for a seat without SplitWords). -/
import Derived.Test.YtjicnfgpbbganabDoorMarkText
import Derived.Deep.RegionHeld3
namespace Go.Proofs.YtjicnfgpbbganabDoor
open Go.ChangeShapes Go.WideShapes Go.ChangeAt Go.RowKit

theorem strs_get {E : TypeId} {w : World} {B g cap n : Nat} {ss : List ByteArray} (hn : ss.length = n) (hown : w.ownsRow B E 1 (.slice (some ⟨g, 0, none⟩) n cap) n (strVs ss)) (j : Nat) (hj : j < n) : w.cell? ⟨g, j, none⟩ = some (.string (ss.getD j ByteArray.empty)) := by
  rw [hown.cellAt j (by omega)]
  simp [strVs, List.getD, show j < ss.length by omega]
theorem held_keep {w wr w2 : World} {g k : Nat} {x : Option Value} (hB : Below w.heap.size w wr) (hg : g < w.heap.size) (hc : wr.cell? ⟨g, k, none⟩ = x) (hb : Below wr.drew.heap.size wr.drew w2) : w2.cell? ⟨g, k, none⟩ = x ∧ Below w.heap.size w w2 := by
  have hb2 : Below wr.heap.size wr w2 := ⟨hb.os, hb.tape, hb.output, hb.size, hb.block⟩
  have hs := hB.size
  exact ⟨by rw [hb2.cell (p := ⟨g, k, none⟩) (by show g < wr.heap.size; omega)]; exact hc, hB.trans (hb2.mono hs)⟩
set_option maxRecDepth 20000 in
set_option maxHeartbeats 1000000 in
theorem eqStrs_some (ss : List ByteArray) (b o c b2 o2 c2 : Nat) (w : World) (n : Nat) (hn1 : n ≤ 1048577)
    (h1 : ∀ j, j < n → w.cell? ⟨b, o + j, none⟩ = some (.string (ss.getD j ByteArray.empty))) (h2 : ∀ j, j < n → w.cell? ⟨b2, o2 + j, none⟩ = some (.string (ss.getD j ByteArray.empty))) :
    Calls Tryd.prog 13 #[.slice (some ⟨b, o, none⟩) n c, .slice (some ⟨b2, o2, none⟩) n c2] w fun e w' => e = .returned (.bool true) ∧ Below w.heap.size w w' := by
  have H1 := Lib.hid h1
  have H2 := Lib.hid h2
  clear h1 h2
  have hne : ((n : Int) != n) = false := by simp
  go_enter Tryd.func13, Tryd.ntmps13
  go_wp2
  go_loopw [5] (fun i wr => ∃ k m : Nat, k ≤ n ∧ i = .int .i64 k ∧ wr = w.drewN m) (fun i _ => n - (intOf i).toNat)
  case atStart => exact ⟨0, 0, by omega, rfl, rfl⟩
  case round =>
    obtain ⟨k, m, hk, rfl, rfl⟩ := hrel
    by_cases hlt : k < n
    · have hc1 := H1.out k hlt
      have hc2 := H2.out k hlt
      generalize ss.getD k ByteArray.empty = z at *
      have hz : (z.toList != z.toList) = false := by simp
      have hz2 : (z.toList == z.toList) = true := by simp
      have hlt1 : (k : Int) < (n : Int) := by omega
      go_wp2
      go_quiet (fail)
      go_wp2
      go_roundw
      case rel => exact ⟨k + 1, _, by omega, by go_num, rfl⟩
      case measure => simp [intOf]; omega
    · go_wp2
      go_ret
      exact ⟨rfl, below_drewN _ _⟩
theorem strs_cells {E : TypeId} {w : World} {B g cap n : Nat} {ss : List ByteArray} (hn : ss.length = n) (hown : w.ownsRow B E 1 (.slice (some ⟨g, 0, none⟩) n cap) n (strVs ss)) : ∀ j, j < n → w.cell? ⟨g, 0 + j, none⟩ = some (.string (ss.getD j ByteArray.empty)) := by
  intro j hj
  rw [Nat.zero_add]
  exact strs_get hn hown j hj
def sMarksTo (ss : List ByteArray) (m k : Nat) : List ByteArray := (List.range k).map (fun (j : Nat) => markT (m + j)) ++ ss.drop k
def sMarks (m n : Nat) : List ByteArray := (List.range n).map (fun (j : Nat) => markT (m + j))
theorem sMarks_next (ss : List ByteArray) (m k : Nat) (h : k < ss.length) : (strVs (sMarksTo ss m k)).set k (.string (markT (m + k))) = strVs (sMarksTo ss m (k + 1)) := by
  unfold sMarksTo strVs
  rw [List.drop_eq_getElem_cons h, List.range_succ, List.map_append, List.map_append, List.map_cons, List.set_append_right _ _ (by simp)]
  simp
theorem sMarks_at (ss : List ByteArray) (m k : Nat) (h : k < ss.length) : ∃ old, (strVs (sMarksTo ss m k))[k]? = some (.string old) := by
  have hl : k < (sMarksTo ss m k).length := by
    unfold sMarksTo
    rw [List.length_append, List.length_map, List.length_range, List.length_drop]; omega
  exact ⟨(sMarksTo ss m k)[k], by simp [strVs, hl]⟩
theorem sMarks_len (m n : Nat) : (sMarks m n).length = n := by simp [sMarks]
theorem sMarks_get (m n j : Nat) (h : j < n) : (sMarks m n).getD j ByteArray.empty = markT (m + j) := by simp [sMarks, List.getD, h]

set_option maxRecDepth 20000 in
set_option maxHeartbeats 1000000 in
theorem markS_some {E : TypeId} (ss : List ByteArray) (m : Nat) (B g cap n : Nat) (w : World) (hm : 1 ≤ m ∧ m ≤ 1000) (hn : Hid (ss.length = n)) (hn1 : n ≤ 1048577) (hB : B ≤ g) (hown : w.ownsRow B E 1 (.slice (some ⟨g, 0, none⟩) n cap) n (strVs ss)) :
    Calls Tryd.prog 14 #[.slice (some ⟨g, 0, none⟩) n cap, .int .i64 m] w fun e w' => e = .returned (.int .i64 ((m + n : Nat) : Int)) ∧ w'.ownsRow B E 1 (.slice (some ⟨g, 0, none⟩) n cap) n (strVs (sMarks m n)) ∧ Below B w w' := by
  have HO0 := Lib.hid hown
  clear hown
  go_enter Tryd.func14, Tryd.ntmps14
  go_wp2
  go_loopw [1, 5] (fun v i wr => ∃ k : Nat, k ≤ n ∧ i = .int .i64 k ∧ v = .int .i64 ((m + k : Nat) : Int) ∧ wr.ownsRow B E 1 (.slice (some ⟨g, 0, none⟩) n cap) n (strVs (sMarksTo ss m k)) ∧ Below B w wr) (fun _ i _ => n - (intOf i).toNat)
  case atStart => exact ⟨0, by omega, rfl, rfl, HO0.out, Below.refl _ _⟩
  case round =>
    obtain ⟨k, hk, rfl, rfl, hown, hbw⟩ := hrel
    have HO := Lib.hid hown
    have HB := Lib.hid hbw
    have hgw : g < wr.heap.size := (hown.lt g rfl).2
    clear hown hbw
    by_cases hlt : k < n
    · have HT := Lib.hid (markText_any (m + k) wr (by omega) (by omega))
      go_wp2_with fail
      refine HT.out.mono ?_
      rintro e w2 ⟨rfl, hb2⟩
      have hown := row_below hb2 HO.out
      have HB2 := Lib.hid (HB.out.trans (hb2.mono (by omega)))
      have hf := hown.frozenAt k
      have hat : w2.cell? ⟨g, k, none⟩ = (strVs (sMarksTo ss m k))[k]? := hown.cellAt k (by omega)
      obtain ⟨old, hold⟩ := sMarks_at ss m k (by rw [hn.out]; exact hlt)
      rw [hold] at hat
      have HS := Lib.hid (hown.stored k (.string (markT (m + k))))
      have HN := Lib.hid (sMarks_next ss m k (by rw [hn.out]; exact hlt))
      clear hold hown hb2
      generalize markT (m + k) = tx at *
      go_wp2
      go_roundw
      case rel => exact ⟨k + 1, by omega, by go_num, by first | (congr 1; omega) | go_num, by rw [← HN.out]; exact HS.out.1, HB2.out.setCell (by exact hB) _⟩
      case measure => simp [intOf]; omega
    · obtain rfl : k = n := by omega
      have he : sMarksTo ss m k = sMarks m k := by unfold sMarksTo sMarks; rw [List.drop_of_length_le (by rw [hn.out]; exact Nat.le_refl _)]; simp
      rw [he] at HO
      clear he
      go_wp2
      go_ret
      exact ⟨rfl, HO.out, HB.out⟩
set_option maxRecDepth 20000 in
set_option maxHeartbeats 1000000 in
theorem heldS_some {E : TypeId} (m : Nat) (B g cap n : Nat) (w : World) (hm : 1 ≤ m ∧ m ≤ 1000) (hn1 : n ≤ 1048577) (hown : w.ownsRow B E 1 (.slice (some ⟨g, 0, none⟩) n cap) n (strVs (sMarks m n))) :
    Calls Tryd.prog 15 #[.slice (some ⟨g, 0, none⟩) n cap, .int .i64 m] w fun e w' => e = .returned (.int .i64 ((m + n : Nat) : Int)) ∧ Below w.heap.size w w' := by
  have HO := Lib.hid hown
  have hgw : g < w.heap.size := (hown.lt g rfl).2
  clear hown
  go_enter Tryd.func15, Tryd.ntmps15
  go_wp2
  go_loopw [1, 5] (fun v i wr => ∃ k : Nat, k ≤ n ∧ i = .int .i64 k ∧ v = .int .i64 ((m + k : Nat) : Int) ∧ Below w.heap.size w wr) (fun _ i _ => n - (intOf i).toNat)
  case atStart => exact ⟨0, by omega, rfl, rfl, Below.refl _ _⟩
  case round =>
    obtain ⟨k, hk, rfl, rfl, hbw⟩ := hrel
    have HB := Lib.hid hbw
    by_cases hlt : k < n
    · have hcell : wr.cell? ⟨g, k, none⟩ = some (.string (markT (m + k))) := by
        rw [hbw.cell (p := ⟨g, k, none⟩) hgw, strs_get (sMarks_len m n) HO.out k hlt, sMarks_get m n k hlt]
      clear hbw
      have hz : ((markT (m + k)).toList != (markT (m + k)).toList) = false := by simp
      have hz2 : ((markT (m + k)).toList == (markT (m + k)).toList) = true := by simp
      have hlt1 : (k : Int) < (n : Int) := by omega
      go_wp2
      go_region_held3 (fun w' => w'.cell? ⟨g, k, none⟩ = some (.string (markT (m + k))) ∧ Below w.heap.size w w') (first | exact ⟨hcell, ⟨HB.out.os, HB.out.tape, HB.out.output, HB.out.size, HB.out.block⟩⟩ | exact held_keep HB.out hgw hcell hb2 | assumption)
        (first | (go_at_call 26; refine (markText_any (m + k) _ (by omega) (by omega)).mono ?_; rintro e w2 ⟨rfl, hb2⟩))
      have HB2 := Lib.hid (held_keep HB.out hgw hcell hb2).2
      clear hb2 hcell
      go_wp2
      go_roundw
      case rel => exact ⟨k + 1, by omega, by go_num, by first | (congr 1; omega) | go_num, HB2.out⟩
      case measure => simp [intOf]; omega
    · obtain rfl : k = n := by omega
      clear hbw
      go_wp2
      go_ret
      exact ⟨rfl, HB.out⟩
end Go.Proofs.YtjicnfgpbbganabDoor
