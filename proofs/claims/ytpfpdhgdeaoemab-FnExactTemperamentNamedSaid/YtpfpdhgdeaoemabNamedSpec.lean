/- TemperamentNamed: the reference model's walk. -/
import Derived.Test.YtpfpdhgdeaoemabNamed
import Derived.Laws.AppendOwn
namespace Go.Proofs.Ytpfpdhgdeaoemab
open Go.ChangeShapes Go.WideShapes Go.ChangeAt Go.RowKit

def OffsPost (i : Nat) (w : World) (e : Ending) (w' : World) : Prop := ∃ g, e = .returned (.slice (some ⟨g, 0, none⟩) 12 12) ∧ w.heap.size ≤ g ∧ w'.ownsRow w.heap.size 2 1 (.slice (some ⟨g, 0, none⟩) 12 12) 12 (i64s (tOffs i)) ∧ Below w.heap.size w w'
theorem made12 : (madeCells (Value.int .i64 0).cells (12 * 1)).toList = i64s (tOffs 0) := by kernel_rfl
set_option maxRecDepth 20000 in
set_option maxHeartbeats 1000000 in
theorem l03Offsets_any (i : Nat) (w : World) (hi : i < 4) : Calls Try.prog 27 #[.int .i64 i] w (OffsPost i w) := by
  rcases (by omega : i = 0 ∨ i = 1 ∨ i = 2 ∨ i = 3) with rfl | rfl | rfl | rfl
  · obtain ⟨i0, hi, hz0, hz1, hz2⟩ := info_parts infoI64
    go_enter Try.func27, Try.ntmps27
    go_wp2_with (at_make; refine wpList_make_full _ rfl _ _ 25 rfl w.heap.size 2 i0 (.int .i64 0) 1 Try.underlying25 hi hz0 hz1 .i64 .i64 _ _ 12 rfl rfl rfl rfl (by rw [hz2]; omega) (by unfold maxLen; omega) (Nat.le_refl _) ?_; intro w0 hown hgrow)
    have HB := Lib.hid ((Below.refl w.heap.size w).grown hgrow (Nat.le_refl _) (fun k hk => by cases hk))
    have HO := Lib.hid (show w0.ownsRow w.heap.size 2 1 (.slice (some ⟨w.heap.size, 0, none⟩) 12 12) 12 (i64s (tOffs 0)) by rw [← made12]; exact hown)
    clear hown hgrow
    go_wp2
    go_ret
    exact ⟨w.heap.size, rfl, Nat.le_refl _, HO.out, HB.out⟩
  all_goals
    go_enter Try.func27, Try.ntmps27
    go_wp2
    go_ret
    refine ⟨w.heap.size, rfl, Nat.le_refl _, ?_, (Below.refl _ _).alloc (Nat.le_refl _) _⟩
  · exact World.ownsRow_lit w (i64s (tOffs 1)).toArray 12 (Nat.le_refl _) (by decide) rfl
  · exact World.ownsRow_lit w (i64s (tOffs 2)).toArray 12 (Nat.le_refl _) (by decide) rfl
  · exact World.ownsRow_lit w (i64s (tOffs 3)).toArray 12 (Nat.le_refl _) (by decide) rfl
theorem l03Names_any (w : World) : Calls Try.prog 26 #[] w fun e w' => e = .returned (.slice (some ⟨w.heap.size, 0, none⟩) 4 4) ∧ (∀ j, j < 4 → w'.cell? ⟨w.heap.size, j, none⟩ = some (.string (tName j))) ∧ Below w.heap.size w w' ∧ w.heap.size < w'.heap.size := by
  go_enter Try.func26, Try.ntmps26
  go_wp2
  go_ret
  refine ⟨rfl, fun j hj => ?_, (Below.refl _ _).alloc (Nat.le_refl _) _, by simp⟩
  rcases (by omega : j = 0 ∨ j = 1 ∨ j = 2 ∨ j = 3) with rfl | rfl | rfl | rfl <;> go_simp <;> rfl

set_option maxRecDepth 20000 in
set_option maxHeartbeats 2000000 in
theorem specNamed_any (s : ByteArray) (w : World) : Calls Try.prog 10 #[.string s] w (NamedIs 2 s w) := by
  go_enter Try.func10, Try.ntmps10
  go_wp2_with fail
  refine (l03Names_any _).mono ?_
  rintro e w1 ⟨rfl, hcs, hb, hgs⟩
  have hsz : (w.alloc (.cells #[.string ⟨#[]⟩, .slice none 0 0] 27)).heap.size = w.heap.size + 1 := by simp
  rw [hsz] at hcs hgs
  have c0 : w1.cell? ⟨w.heap.size, 0, none⟩ = some (.string ⟨#[]⟩) := by rw [below_cell hb _ _ (by simp)]; go_simp
  have c1 : w1.cell? ⟨w.heap.size, 1, none⟩ = some (.slice none 0 0) := by rw [below_cell hb _ _ (by simp)]; go_simp
  have f0 : w1.frozen? ⟨w.heap.size, 0, none⟩ = false := by rw [below_frozen hb _ _ (by simp)]; go_simp
  have f1 : w1.frozen? ⟨w.heap.size, 1, none⟩ = false := by rw [below_frozen hb _ _ (by simp)]; go_simp
  have HB := Lib.hid (below_of ((Below.refl w.heap.size w).alloc (Nat.le_refl _) _) hb (by simp))
  have HCS := Lib.hid hcs
  clear hcs hb
  rw [hsz]
  go_wp2
  go_loop [5] (fun i => ∃ k : Nat, k ≤ 4 ∧ i = .int .i64 k ∧ Hid (∀ j, j < k → s ≠ tName j)) (fun i => 4 - (intOf i).toNat)
  case atStart => exact ⟨0, by omega, rfl, Lib.hid (fun j hj => by omega)⟩
  case round =>
    obtain ⟨k, hk, rfl, HNO⟩ := hrel
    by_cases hlt : k < 4
    · have hcell := HCS.out k hlt
      by_cases he : s = tName k
      · have HE := Lib.hid he
        rw [← he] at hcell
        have hq : (s.toList == s.toList) = true := by simp
        clear he
        go_wp2_with fail
        refine (l03Offsets_any k _ hlt).mono ?_
        rintro e w2 ⟨g, rfl, hg, hrow, hb2⟩
        have d0 : w2.cell? ⟨w.heap.size, 0, none⟩ = some (.string ⟨#[]⟩) := by rw [below_cell hb2 _ _ (by omega)]; exact c0
        have d1 : w2.cell? ⟨w.heap.size, 1, none⟩ = some (.slice none 0 0) := by rw [below_cell hb2 _ _ (by omega)]; exact c1
        have g0 : w2.frozen? ⟨w.heap.size, 0, none⟩ = false := by rw [below_frozen hb2 _ _ (by omega)]; exact f0
        have g1 : w2.frozen? ⟨w.heap.size, 1, none⟩ = false := by rw [below_frozen hb2 _ _ (by omega)]; exact f1
        have HR := Lib.hid hrow
        have HB2 := Lib.hid (below_of HB.out hb2 HB.out.size)
        clear hrow hb2 c0 c1 f0 f1
        go_wp2
        try simp only [Exit.inBlock, Exit.then]
        refine bodyPost_ret_by (v := .tuple #[.agg #[.string s, .slice (some ⟨g, 0, none⟩) 12 12], .int .i64 0]) (by rw [results_cell_tmp rfl]; go_simp) rfl ?_
        refine .inl ⟨k, hlt, HE.out, g, rfl, by omega, row_lower ?_ (by omega : w.heap.size ≤ w1.heap.size), (HB2.out.setCell (Nat.le_refl _) _).setCell (Nat.le_refl _) _⟩
        exact ownsRow_setCell_below (ownsRow_setCell_below HR.out (by show w.heap.size < w1.heap.size; omega) _) (by show w.heap.size < w1.heap.size; omega) _
      · have hq : ((tName k).toList == s.toList) = false := by
          have : (tName k).toList ≠ s.toList := fun e => he (by
            rw [ByteArray.toList_eq, ByteArray.toList_eq] at e
            cases hs : s; cases hk : tName k; rw [hs, hk] at e; congr 1; exact (Array.toList_inj.1 e).symm)
          simpa using this
        have HN2 := Lib.hid (show ∀ j, j < k + 1 → s ≠ tName j from fun j hj => by
          by_cases e : j = k
          · subst e; exact he
          · exact HNO.out j (by omega))
        clear he
        generalize tName k = nm at *
        go_wp2
        go_round
        case rel => exact ⟨k + 1, by omega, by go_num, HN2⟩
        case measure => simp [intOf]; omega
    · obtain rfl : k = 4 := by omega
      go_wp2
      try simp only [Exit.inBlock, Exit.then]
      refine bodyPost_ret_by (v := .tuple #[.agg #[.string ⟨#[]⟩, .slice none 0 0], .int .i64 3]) (by rw [results_cell_tmp rfl]; go_simp) rfl ?_
      exact .inr ⟨HNO.out, rfl, (HB.out.setCell (Nat.le_refl _) _).setCell (Nat.le_refl _) _⟩
end Go.Proofs.Ytpfpdhgdeaoemab
