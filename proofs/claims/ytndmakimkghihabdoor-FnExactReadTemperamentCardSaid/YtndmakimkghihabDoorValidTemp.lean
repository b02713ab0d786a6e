/- Is a temperament valid? The program's answer and the reference model's. -/
import Derived.Test.YtndmakimkghihabDoorTemp
import Derived.Test.YtndmakimkghihabDoorNameImplE
namespace Go.Proofs.YtndmakimkghihabDoor
open Go.ChangeShapes Go.WideShapes Go.ChangeAt Go.RowKit

theorem within_zero (lo hi : Int) (a : Option Addr) (c : Nat) (w : World) :
    Calls Tryd.prog 56 #[.int .i64 lo, .int .i64 hi, .slice a 0 c] w fun e w' => e = .returned (.bool true) ∧ w = w' := by
  go_enter Tryd.func56, Tryd.ntmps56
  go_wp2
  refine wp_loop_rounds 1 ?_
  rw [rounds_succ]
  go_wp2
  go_ret
  exact ⟨rfl, rfl⟩
theorem within_at (lo hi : Int) (zs : List Int) (v : Value) (w : World) (h : IntsAt w v zs) :
    Calls Tryd.prog 56 #[.int .i64 lo, .int .i64 hi, v] w fun e w' => e = .returned (.bool (allIn lo hi zs)) ∧ w = w' := by
  obtain ⟨hl, ⟨a, c, rfl, rfl⟩ | ⟨b, off, cap, rfl, hb, hc⟩⟩ := h
  · exact within_zero lo hi a c w
  · exact within_i64 lo hi zs b off _ cap w rfl (by omega) hc

def tempB (s : ByteArray) (zs : List Int) : Bool := nameB s && (decide (zs.length = 12) && allIn (-500) 500 zs)
theorem temp_no1 {s : ByteArray} {zs : List Int} (h : nameB s = false) : tempB s zs = false := by unfold tempB; rw [h]; rfl
theorem temp_no2 {s : ByteArray} {zs : List Int} (h : zs.length ≠ 12) : tempB s zs = false := by unfold tempB; rw [decide_eq_false h]; simp
theorem temp_no3 {s : ByteArray} {zs : List Int} (h : allIn (-500) 500 zs = false) : tempB s zs = false := by unfold tempB; rw [h]; simp
theorem temp_yes {s : ByteArray} {zs : List Int} (h : nameB s = true) (h2 : zs.length = 12) (h3 : allIn (-500) 500 zs = true) : tempB s zs = true := by unfold tempB; rw [h, decide_eq_true h2, h3]; rfl
theorem t_cases (b : Bool) : b = true ∨ b = false := by cases b <;> simp

/-- A temperament in memory. -/
structure TempIn (w : World) (b : Nat) (s : ByteArray) (v : Value) (zs : List Int) : Prop where
  name : w.cell? ⟨b, 0, none⟩ = some (.string s)
  offs : w.cell? ⟨b, 1, none⟩ = some v
  ints : IntsAt w v zs

set_option maxHeartbeats 1000000 in
theorem l03Ok_any (s : ByteArray) (v : Value) (zs : List Int) (b : Nat) (w : World) (h : TempIn w b s v zs) (hs : s.size ≤ 9223372036854775807) :
    Calls Tryd.prog 69 #[.pointer (some ⟨b, 0, none⟩)] w fun e w' => e = .returned (.bool (tempB s zs)) ∧ w = w' := by
  obtain ⟨h0, h1, h2⟩ := h
  have hl := h2.1
  have hsm : s.size ≤ maxLen := by unfold maxLen; omega
  have HSM := Lib.hid hsm
  clear hsm
  obtain ⟨n, hn⟩ : ∃ n, zs.length = n := ⟨_, rfl⟩
  have HN := Lib.hid hn
  have hv : ∃ a c, v = .slice a n c := by rw [← hn]; exact ints_form h2
  obtain ⟨a, c, rfl⟩ := hv
  have HC : Hid (∀ j, j < n → ∃ bb off, a = some ⟨bb, off, none⟩ ∧ w.cell? ⟨bb, off + j, none⟩ = some (.int .i64 (zs.getD j 0))) := Lib.hid (by
    obtain ⟨_, ⟨a', c', e, rfl⟩ | ⟨bb, off, cap, e, _, hc⟩⟩ := h2
    · intro j hj; simp at hn; omega
    · intro j hj
      simp only [Value.slice.injEq] at e
      exact ⟨bb, off, e.1, hc j (by omega)⟩)
  rw [hn] at hl
  clear h2 hn
  go_enter Tryd.func69, Tryd.ntmps69
  go_wp2
  go_loop [3] (fun i => ∃ k : Nat, k ≤ n ∧ i = .int .i64 k ∧ Hid (∀ j, j < k → inB (zs.getD j 0) (-500) 500 = true)) (fun i => n - (intOf i).toNat)
  case atStart => exact ⟨0, by omega, rfl, Lib.hid (fun j hj => by omega)⟩
  case round =>
    obtain ⟨k, hk, rfl, HA⟩ := hrel
    by_cases hlt : k < n
    · obtain ⟨bb, off, rfl, hcell⟩ := HC.out k hlt
      have HF := Lib.hid (fun h => temp_no3 (s := s) (allIn_false (lo := -500) (hi := 500) (zs := zs) (k := k) (by rw [HN.out]; exact hlt) h))
      have HQ := Lib.hid (show inB (zs.getD k 0) (-500) 500 = true → ∀ j, j < k + 1 → inB (zs.getD j 0) (-500) 500 = true from fun h j hj => by
        by_cases e : j = k
        · subst e; exact h
        · exact HA.out j (by omega))
      generalize zs.getD k 0 = z at *
      rcases t_cases (inB z (-500) 500) with h5 | h5
      · go_wp2_with (go_at_call 50; refine (l00In_any _ _ _ _).mono ?_; rintro e w' ⟨rfl, rfl⟩)
        go_round
        case rel => exact ⟨k + 1, by omega, by go_num, Lib.hid (HQ.out h5)⟩
        case measure => simp [intOf]; omega
      · have HR := Lib.hid (HF.out h5)
        go_wp2_with (go_at_call 50; refine (l00In_any _ _ _ _).mono ?_; rintro e w' ⟨rfl, rfl⟩)
        go_ret
        exact ⟨ret_bool HR.out.symm, rfl⟩
    · obtain rfl : k = n := by omega
      have HT := Lib.hid (allIn_true (lo := -500) (hi := 500) (zs := zs) (fun j hj => HA.out j (by have := HN.out; omega)))
      rcases t_cases (nameB s) with h5 | h5
      · by_cases h12 : k = 12
        · have HR := Lib.hid (temp_yes h5 (by rw [HN.out]; exact h12) HT.out)
          have hq : ((k : Int) == 12) = true := beq_iff_eq.2 (by omega)
          clear h12
          go_wp2_with (go_at_call 108; refine (specName_any s _ HSM.out).mono ?_; rintro e w' ⟨rfl, rfl⟩)
          go_ret
          exact ⟨ret_bool HR.out.symm, rfl⟩
        · have HR := Lib.hid (temp_no2 (s := s) (zs := zs) (by rw [HN.out]; exact h12))
          have hq : ((k : Int) == 12) = false := beq_eq_false_iff_ne.2 (by omega)
          go_wp2_with (go_at_call 108; refine (specName_any s _ HSM.out).mono ?_; rintro e w' ⟨rfl, rfl⟩)
          go_ret
          exact ⟨ret_bool HR.out.symm, rfl⟩
      · have HR := Lib.hid (temp_no1 (zs := zs) h5)
        go_wp2_with (go_at_call 108; refine (specName_any s _ HSM.out).mono ?_; rintro e w' ⟨rfl, rfl⟩)
        go_ret
        exact ⟨ret_bool HR.out.symm, rfl⟩

set_option maxHeartbeats 1000000 in
theorem implValid_any (s : ByteArray) (v : Value) (zs : List Int) (w : World) (h : IntsAt w v zs) (hs : s.size ≤ 9223372036854775807) :
    Calls Tryd.prog 71 #[.agg #[.string s, v]] w fun e w' => e = .returned (.bool (tempB s zs)) ∧ Below w.heap.size w w' := by
  have HI := Lib.hid h
  have HSM := Lib.hid (show s.size ≤ maxLen by unfold maxLen; omega)
  obtain ⟨n, hn⟩ : ∃ n, zs.length = n := ⟨_, rfl⟩
  have HN := Lib.hid hn
  have hv : ∃ a c, v = .slice a n c := by rw [← hn]; exact ints_form h
  obtain ⟨a, c, rfl⟩ := hv
  have hl := h.1
  rw [hn] at hl
  clear h hn
  rcases t_cases (nameB s) with h5 | h5
  · by_cases h12 : n = 12
    · have hq : ((n : Int) == 12) = true := beq_iff_eq.2 (by omega)
      have HR := Lib.hid (show tempB s zs = allIn (-500) 500 zs by unfold tempB; rw [h5, decide_eq_true (by rw [HN.out]; exact h12)]; rfl)
      clear h12
      go_enter Tryd.func71, Tryd.ntmps71
      go_wp2_with fail
      refine (implIsName_any s _ HSM.out).mono ?_
      rintro e w1 ⟨rfl, hb⟩
      rw [h5]
      have c0 : w1.cell? ⟨w.heap.size, 0, none⟩ = some (.string s) := by rw [below_cell hb _ _ (by simp)]; go_simp
      have c1 : w1.cell? ⟨w.heap.size, 1, none⟩ = some (.slice a n c) := by rw [below_cell hb _ _ (by simp)]; go_simp
      have HB := Lib.hid (below_of ((Below.refl _ _).alloc (Nat.le_refl _) _) hb (by simp))
      clear hb
      go_wp2_with fail
      refine (within_at _ _ zs _ _ (ints_kept HB.out HI.out)).mono ?_
      rintro e w2 ⟨rfl, rfl⟩
      go_wp2
      go_ret
      exact ⟨ret_bool HR.out.symm, HB.out⟩
    · have hq : ((n : Int) == 12) = false := beq_eq_false_iff_ne.2 (by omega)
      have HR := Lib.hid (temp_no2 (s := s) (zs := zs) (by rw [HN.out]; exact h12))
      go_enter Tryd.func71, Tryd.ntmps71
      go_wp2_with fail
      refine (implIsName_any s _ HSM.out).mono ?_
      rintro e w1 ⟨rfl, hb⟩
      rw [h5]
      have c0 : w1.cell? ⟨w.heap.size, 0, none⟩ = some (.string s) := by rw [below_cell hb _ _ (by simp)]; go_simp
      have c1 : w1.cell? ⟨w.heap.size, 1, none⟩ = some (.slice a n c) := by rw [below_cell hb _ _ (by simp)]; go_simp
      have HB := Lib.hid (below_of ((Below.refl _ _).alloc (Nat.le_refl _) _) hb (by simp))
      clear hb
      go_wp2
      go_ret
      exact ⟨ret_bool HR.out.symm, HB.out⟩
  · have HR := Lib.hid (temp_no1 (zs := zs) h5)
    go_enter Tryd.func71, Tryd.ntmps71
    go_wp2_with fail
    refine (implIsName_any s _ HSM.out).mono ?_
    rintro e w1 ⟨rfl, hb⟩
    rw [h5]
    have HB := Lib.hid (below_of ((Below.refl _ _).alloc (Nat.le_refl _) _) hb (by simp))
    clear hb
    go_wp2
    go_ret
    exact ⟨ret_bool HR.out.symm, HB.out⟩

theorem cell_lt5 {w : World} {a : Addr} {v : Value} (h : w.cell? a = some v) : a.block < w.heap.size := by
  unfold World.cell? at h
  cases hh : w.heap[a.block]? with
  | none => rw [hh] at h; simp at h
  | some o => exact (Array.getElem?_eq_some_iff.1 hh).1
theorem held4 {w5 W W2 : World} {b1 b2 : Nat} {x0 x1 y0 y1 : Value} (hz : b1 < w5.heap.size ∧ b2 < w5.heap.size) (h0 : w5.cell? ⟨b2, 0, none⟩ = some x0) (h1 : w5.cell? ⟨b2, 1, none⟩ = some x1) (h2 : w5.cell? ⟨b1, 0, none⟩ = some y0) (h3 : w5.cell? ⟨b1, 1, none⟩ = some y1)
    (hW : Below w5.heap.size w5 W) (hb : Below W.heap.size W W2) : W2.cell? ⟨b2, 0, none⟩ = some x0 ∧ W2.cell? ⟨b2, 1, none⟩ = some x1 ∧ W2.cell? ⟨b1, 0, none⟩ = some y0 ∧ W2.cell? ⟨b1, 1, none⟩ = some y1 ∧ Below w5.heap.size w5 W2 := by
  have h := below_of hW hb hW.size
  exact ⟨by rw [below_cell h _ _ hz.2]; exact h0, by rw [below_cell h _ _ hz.2]; exact h1, by rw [below_cell h _ _ hz.1]; exact h2, by rw [below_cell h _ _ hz.1]; exact h3, h⟩
end Go.Proofs.YtndmakimkghihabDoor
