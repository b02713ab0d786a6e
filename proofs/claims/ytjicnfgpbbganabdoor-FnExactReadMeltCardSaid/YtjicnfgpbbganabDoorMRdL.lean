/- What ReadMelt's law does: the reference model's answer; marks in an answer. -/
import Derived.Test.YtjicnfgpbbganabDoorMRdS
import Derived.Test.YtjicnfgpbbganabDoorMarkStrsE
import Derived.Test.YtjicnfgpbbganabDoorMelt
set_option linter.unusedVariables false
namespace Go.Proofs.YtjicnfgpbbganabDoor
open Go.ChangeShapes Go.WideShapes Go.ChangeAt Go.RowKit

set_option maxRecDepth 20000 in
set_option maxHeartbeats 2000000 in
theorem specRM_any (s : ByteArray) (w : World) (hs : s.size ≤ 1048576) :
    Calls Tryd.prog 4 #[.string s] w (RmPost (rmA s) w) := by
  have HC := Lib.hid (l14Read_any s (w.alloc (.cells #[.string ⟨#[]⟩, .slice none 0 0, .int .i64 0] 24)) hs)
  have hc0 := mlF_alloc w (.string ⟨#[]⟩) (.slice none 0 0) (.int .i64 0) 24
  have hcl := alloc_ltT w (.cells #[.string ⟨#[]⟩, .slice none 0 0, .int .i64 0] 24)
  have HBA := Lib.hid (below_alT w (.cells #[.string ⟨#[]⟩, .slice none 0 0, .int .i64 0] 24))
  generalize rmA s = R at *
  go_enter Tryd.func4, Tryd.ntmps4
  go_wp2_with fail
  generalize w.alloc (.cells #[.string ⟨#[]⟩, .slice none 0 0, .int .i64 0] 24) = wA at *
  refine HC.out.mono ?_
  intro en w1 h
  cases R with
  | none =>
    obtain ⟨rfl, hb⟩ := h
    have HX := Lib.hid (mlF_kept hb hcl hc0)
    have HB := Lib.hid (below_of HBA.out hb HBA.out.size)
    clear hb hc0
    obtain ⟨⟨x0, x1, x2⟩, y0, y1, y2⟩ := HX.out
    go_wp2
    try simp only [Exit.inBlock, Exit.then]
    refine bodyPost_ret_by (v := .tuple #[.agg #[.string ⟨#[]⟩, .slice none 0 0, .int .i64 0], .bool false]) (by rw [results_cell_tmp rfl]; go_simp) rfl ?_
    exact ⟨rfl, ((HB.out.setCell (Nat.le_refl _) _).setCell (Nat.le_refl _) _).setCell (Nat.le_refl _) _⟩
  | some r =>
    obtain ⟨s2, ss, z⟩ := r
    obtain ⟨v, rfl, ho, hb⟩ := h
    have HX := Lib.hid (mlF_kept hb hcl hc0)
    have HB := Lib.hid (below_of HBA.out hb HBA.out.size)
    have HO := Lib.hid ho
    obtain ⟨g, c, rfl, -⟩ := ho
    obtain ⟨n, hn⟩ : ∃ n, ss.length = n := ⟨_, rfl⟩
    rw [hn] at HO ⊢
    clear hb hc0 hn
    obtain ⟨⟨x0, x1, x2⟩, y0, y1, y2⟩ := HX.out
    go_wp2
    try simp only [Exit.inBlock, Exit.then]
    refine bodyPost_ret_by (v := .tuple #[.agg #[.string s2, .slice (some ⟨g, 0, none⟩) n c, .int .i64 z], .bool true]) (by rw [results_cell_tmp rfl]; go_simp) rfl ?_
    refine ⟨_, rfl, ?_, ((HB.out.setCell (Nat.le_refl _) _).setCell (Nat.le_refl _) _).setCell (Nat.le_refl _) _⟩
    exact ownSt_base (ownSt_set (ownSt_set (ownSt_set HO.out _ _ _ hcl) _ _ _ hcl) _ _ _ hcl) (Nat.le_of_lt hcl)
/-- All blocks of w but g are as they were. -/
def ButG (w w' : World) (g : Nat) : Prop := ∀ b o, b < w.heap.size → b ≠ g → w'.cell? ⟨b, o, none⟩ = w.cell? ⟨b, o, none⟩
theorem butG_below {w w1 w2 : World} {g : Nat} (h : ButG w w1 g) (hs : w.heap.size ≤ w1.heap.size) (hb : Below w1.heap.size w1 w2) : ButG w w2 g := fun b o hl hne => (below_cell hb b o (Nat.lt_of_lt_of_le hl hs)).trans (h b o hl hne)
theorem butG_set {w w1 : World} {g j : Nat} {x : Value} (h : ButG w w1 g) : ButG w (w1.setCell ⟨g, j, none⟩ x) g := fun b o hl hne =>
  (World.cell?_of_block (Below.heap_setCell _ _ _ _ (by intro e; exact hne (by simpa using e)))).trans (h b o hl hne)
set_option maxRecDepth 20000 in
set_option maxHeartbeats 2000000 in
theorem markSF {E : TypeId} (ss : List ByteArray) (m : Nat) (B g cap n : Nat) (w : World) (hm : 1 ≤ m ∧ m ≤ 1000) (hn : Hid (ss.length = n)) (hn1 : n ≤ 1048577) (hB : B ≤ g) (hown : w.ownsRow B E 1 (.slice (some ⟨g, 0, none⟩) n cap) n (strVs ss)) :
    Calls Tryd.prog 14 #[.slice (some ⟨g, 0, none⟩) n cap, .int .i64 m] w fun e w' => e = .returned (.int .i64 ((m + n : Nat) : Int)) ∧ w'.ownsRow B E 1 (.slice (some ⟨g, 0, none⟩) n cap) n (strVs (sMarks m n)) ∧ ButG w w' g ∧ Below B w w' := by
  have HO0 := Lib.hid hown
  clear hown
  go_enter Tryd.func14, Tryd.ntmps14
  go_wp2
  go_loopw [1, 5] (fun v i wr => ∃ k : Nat, k ≤ n ∧ i = .int .i64 k ∧ v = .int .i64 ((m + k : Nat) : Int) ∧ wr.ownsRow B E 1 (.slice (some ⟨g, 0, none⟩) n cap) n (strVs (sMarksTo ss m k)) ∧ Hid (ButG w wr g) ∧ Below B w wr) (fun _ i _ => n - (intOf i).toNat)
  case atStart => exact ⟨0, by omega, rfl, rfl, HO0.out, Lib.hid (fun _ _ _ _ => rfl), Below.refl _ _⟩
  case round =>
    obtain ⟨k, hk, rfl, rfl, hown, HG, hbw⟩ := hrel
    have HO := Lib.hid hown
    have HB := Lib.hid hbw
    have hgw : g < wr.heap.size := (hown.lt g rfl).2
    clear hown hbw
    by_cases hlt : k < n
    · have HT := Lib.hid (markText_any (m + k) wr (by omega) (by omega))
      go_wp2_with fail
      refine HT.out.mono ?_
      rintro e w2 ⟨rfl, hb2⟩
      have hown := row_below hb2 HO.out
      have HB2 := Lib.hid (HB.out.trans (hb2.mono (by omega)))
      have HG2 := Lib.hid (butG_below HG.out HB.out.size hb2)
      have hf := hown.frozenAt k
      have hat : w2.cell? ⟨g, k, none⟩ = (strVs (sMarksTo ss m k))[k]? := hown.cellAt k (by omega)
      obtain ⟨old, hold⟩ := sMarks_at ss m k (by rw [hn.out]; exact hlt)
      rw [hold] at hat
      have HS := Lib.hid (hown.stored k (.string (markT (m + k))))
      have HN := Lib.hid (sMarks_next ss m k (by rw [hn.out]; exact hlt))
      clear hold hown hb2
      generalize markT (m + k) = tx at *
      go_wp2
      go_roundw
      case rel => exact ⟨k + 1, by omega, by go_num, by first | (congr 1; omega) | go_num, by rw [← HN.out]; exact HS.out.1, Lib.hid (butG_set HG2.out), HB2.out.setCell (by exact hB) _⟩
      case measure => simp [intOf]; omega
    · obtain rfl : k = n := by omega
      have he : sMarksTo ss m k = sMarks m k := by unfold sMarksTo sMarks; rw [List.drop_of_length_le (by rw [hn.out]; exact Nat.le_refl _)]; simp
      rw [he] at HO
      clear he
      go_wp2
      go_ret
      exact ⟨rfl, HO.out, HG.out, HB.out⟩
theorem markS_nil (w : World) : Calls Tryd.prog 14 #[.slice none 0 0, .int .i64 1] w fun e w' => e = .returned (.int .i64 1) ∧ w = w' := by
  go_enter Tryd.func14, Tryd.ntmps14
  go_wp2
  refine wp_loop_rounds 1 ?_
  rw [rounds_succ]
  go_wp2
  go_ret
  exact ⟨rfl, rfl⟩
theorem heldS_nil (w : World) : Calls Tryd.prog 15 #[.slice none 0 0, .int .i64 1] w fun e w' => e = .returned (.int .i64 1) ∧ w = w' := by
  go_enter Tryd.func15, Tryd.ntmps15
  go_wp2
  refine wp_loop_rounds 1 ?_
  rw [rounds_succ]
  go_wp2
  go_ret
  exact ⟨rfl, rfl⟩
theorem markMl_nil (s : ByteArray) (z : Int) (w : World) : Calls Tryd.prog 7 #[.agg #[.string s, .slice none 0 0, .int .i64 z], .int .i64 1] w fun e w' => e = .returned (.int .i64 1) ∧ Below w.heap.size w w' := by
  go_enter Tryd.func7, Tryd.ntmps7
  go_wp2_with fail
  refine (markS_nil _).mono ?_
  rintro e w1 ⟨rfl, rfl⟩
  go_wp2
  go_ret
  exact ⟨rfl, below_alT _ _⟩
theorem heldMl_nil (s : ByteArray) (z : Int) (w : World) : Calls Tryd.prog 8 #[.agg #[.string s, .slice none 0 0, .int .i64 z], .int .i64 1] w fun e w' => e = .returned (.int .i64 1) ∧ Below w.heap.size w w' := by
  go_enter Tryd.func8, Tryd.ntmps8
  go_wp2_with fail
  refine (heldS_nil _).mono ?_
  rintro e w1 ⟨rfl, rfl⟩
  go_wp2
  go_ret
  exact ⟨rfl, below_alT _ _⟩
set_option maxHeartbeats 1000000 in
theorem markMl_any (s : ByteArray) (ss : List ByteArray) (z : Int) (B g cap n : Nat) (w : World) (hn : Hid (ss.length = n)) (hn1 : n ≤ 16) (hB : B ≤ g) (hown : w.ownsRow B 9 1 (.slice (some ⟨g, 0, none⟩) n cap) n (strVs ss)) :
    Calls Tryd.prog 7 #[.agg #[.string s, .slice (some ⟨g, 0, none⟩) n cap, .int .i64 z], .int .i64 1] w fun e w' => e = .returned (.int .i64 ((1 + n : Nat) : Int)) ∧ w'.ownsRow B 9 1 (.slice (some ⟨g, 0, none⟩) n cap) n (strVs (sMarks 1 n)) ∧ ButG w w' g ∧ Below B w w' := by
  have HBA := Lib.hid (below_alT w (.cells #[.string s, .slice (some ⟨g, 0, none⟩) n cap, .int .i64 z] 24))
  have hgl : g < w.heap.size := (hown.lt g rfl).2
  have HM := Lib.hid (markSF ss 1 B g cap n (w.alloc (.cells #[.string s, .slice (some ⟨g, 0, none⟩) n cap, .int .i64 z] 24)) ⟨by omega, by omega⟩ hn (by omega) hB (row_keepT HBA.out hown))
  clear hown
  go_enter Tryd.func7, Tryd.ntmps7
  go_wp2_with fail
  generalize w.alloc (.cells #[.string s, .slice (some ⟨g, 0, none⟩) n cap, .int .i64 z] 24) = wA at *
  refine HM.out.mono ?_
  rintro e w1 ⟨rfl, ho, hg, hb⟩
  have HO := Lib.hid ho
  have HG := Lib.hid (show ButG w w1 g from fun b o hl hne => (hg b o (Nat.lt_of_lt_of_le hl HBA.out.size) hne).trans (below_cell HBA.out b o hl))
  have HB := Lib.hid ((HBA.out.mono (by omega)).trans hb)
  clear ho hg hb
  go_wp2
  go_ret
  exact ⟨rfl, HO.out, HG.out, HB.out⟩
set_option maxHeartbeats 1000000 in
theorem heldMl_any (s : ByteArray) (z : Int) (B g cap n : Nat) (w : World) (hn1 : n ≤ 16) (hown : w.ownsRow B 9 1 (.slice (some ⟨g, 0, none⟩) n cap) n (strVs (sMarks 1 n))) :
    Calls Tryd.prog 8 #[.agg #[.string s, .slice (some ⟨g, 0, none⟩) n cap, .int .i64 z], .int .i64 1] w fun e w' => e = .returned (.int .i64 ((1 + n : Nat) : Int)) ∧ Below w.heap.size w w' := by
  have HBA := Lib.hid (below_alT w (.cells #[.string s, .slice (some ⟨g, 0, none⟩) n cap, .int .i64 z] 24))
  have HM := Lib.hid (heldS_some 1 B g cap n (w.alloc (.cells #[.string s, .slice (some ⟨g, 0, none⟩) n cap, .int .i64 z] 24)) ⟨by omega, by omega⟩ (by omega) (row_keepT HBA.out hown))
  have hneg : ¬ (((1 + n : Nat) : Int)) < 0 := by omega
  clear hown
  go_enter Tryd.func8, Tryd.ntmps8
  go_wp2_with fail
  generalize w.alloc (.cells #[.string s, .slice (some ⟨g, 0, none⟩) n cap, .int .i64 z] 24) = wA at *
  refine HM.out.mono ?_
  rintro e w1 ⟨rfl, hb⟩
  have HB := Lib.hid (below_of HBA.out hb HBA.out.size)
  clear hb
  go_wp2
  go_ret
  exact ⟨rfl, HB.out⟩
end Go.Proofs.YtjicnfgpbbganabDoor
