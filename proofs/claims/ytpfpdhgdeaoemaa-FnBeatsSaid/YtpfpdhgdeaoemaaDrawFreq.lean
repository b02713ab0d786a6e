/- Frequencies that bytes choose. -/
import Derived.Test.YtpfpdhgdeaoemaaDrawMore
namespace Go.Proofs.Ytpfpdhgdeaoemaa
open Go.ChangeShapes Go.WideShapes Go.ChangeAt Go.RowKit

theorem cells_list (zs : List Int) (n : Nat) (w : World) (T : TypeId) (b : Nat) (hb : b = w.heap.size) (hn : n = zs.length) : ∀ j, j < n → (w.alloc (.cells (zs.map (Value.int .i64)).toArray T)).cell? ⟨b, 0 + j, none⟩ = some (.int .i64 (zs.getD j 0)) := by
  subst hb hn
  intro j hj
  rw [World.cell?_alloc_new, Nat.zero_add]
  simp [List.getD, hj]
theorem all_between {zs : List Int} {lo hi : Int} (h : (zs.all fun z => decide (lo ≤ z) && decide (z ≤ hi)) = true) (n : Nat) (hn : n = zs.length) : ∀ j, j < n → lo ≤ zs.getD j 0 ∧ zs.getD j 0 ≤ hi := by
  subst hn
  intro j hj
  rw [List.all_eq_true] at h
  have := h zs[j] (List.getElem_mem hj)
  rw [List.getD_eq_getElem?_getD, List.getElem?_eq_getElem hj]
  simpa using this
theorem src_lt {w : World} {g k : Nat} (h : SrcAt w g k) : g < w.heap.size := by
  obtain ⟨v, p, s, h⟩ := h
  exact cell_lt h.code

set_option maxHeartbeats 1000000 in
theorem drawOk_any (w : World) (g k : Nat) (h : SrcAt w g k) (hk : k ≤ 1000000) :
    Calls Try.prog 56 #[.pointer (some ⟨g, 0, none⟩)] w (DrawIn g (k + 4) 10000 20000000 w) := by
  have HS := Lib.hid h
  clear h
  go_enter Try.func56, Try.ntmps56
  go_wp2_with fail
  refine (pick_any 4 _ g k HS.out (by omega) (by omega) (by omega)).mono ?_
  rintro e w1 ⟨r, r0, r1, rfl, hs, hg⟩
  have HT := Lib.hid hs
  have HG := Lib.hid hg
  clear hs hg
  have hr : r = 0 ∨ r = 1 ∨ r = 2 ∨ r = 3 := by omega
  clear r0 r1
  rcases hr with rfl | rfl | rfl | rfl
  · go_wp2_with fail
    refine (pick_any 8 _ g (k + 2) HT.out (by omega) (by omega) (by omega)).mono ?_
    rintro e w2 ⟨q, q0, q1, rfl, hs, hg⟩
    have HT2 := Lib.hid hs
    have HG2 := Lib.hid (grown_trans HG.out hg)
    clear hs hg
    have q2 : q ≤ 7 := by omega
    clear q1
    go_wp2
    go_ret
    exact ⟨_, by omega, by omega, rfl, src_more HT2.out (by omega), HG2.out⟩
  · go_wp2_with fail
    refine (among_any [10000, 20000000, 10001, 19999999, 440000, 523251] 10000 20000000 _ 6 _ g (k + 2) (src_alloc HT.out _) (by omega) (by omega) (by omega) (by have := src_lt HT.out; omega) (cells_list [10000, 20000000, 10001, 19999999, 440000, 523251] 6 _ _ _ rfl rfl) (all_between (by decide) 6 rfl)).mono ?_
    rintro e w2 ⟨q, q0, q1, rfl, hs, hg⟩
    have HT2 := Lib.hid hs
    have HG2 := Lib.hid (grown_trans HG.out (grown_trans (grown_alloc _ _ g) hg))
    clear hs hg
    go_wp2
    go_ret
    exact ⟨_, q0, q1, rfl, src_more HT2.out (by omega), HG2.out⟩
  · go_wp2_with fail
    refine (pick_any 20000 _ g (k + 2) HT.out (by omega) (by omega) (by omega)).mono ?_
    rintro e w2 ⟨q, q0, q1, rfl, hs, hg⟩
    have HT2 := Lib.hid hs
    have HG2 := Lib.hid (grown_trans HG.out hg)
    clear hs hg
    have q2 : q ≤ 19999 := by omega
    clear q1
    go_wp2
    go_ret
    exact ⟨_, by omega, by omega, rfl, src_more HT2.out (by omega), HG2.out⟩
  · go_wp2_with fail
    refine (pick_any 20000 _ g (k + 2) HT.out (by omega) (by omega) (by omega)).mono ?_
    rintro e w2 ⟨q, q0, q1, rfl, hs, hg⟩
    have HT2 := Lib.hid hs
    have HG2 := Lib.hid (grown_trans HG.out hg)
    clear hs hg
    have q2 : q ≤ 19999 := by omega
    clear q1
    go_wp2
    go_ret
    exact ⟨_, by omega, by omega, rfl, src_more HT2.out (by omega), HG2.out⟩

set_option maxHeartbeats 1000000 in
theorem drawF_any (w : World) (g k : Nat) (h : SrcAt w g k) (hk : k ≤ 900000) :
    Calls Try.prog 40 #[.pointer (some ⟨g, 0, none⟩)] w (DrawIn g (k + 6) (-1) 20000001 w) := by
  have HS := Lib.hid h
  clear h
  go_enter Try.func40, Try.ntmps40
  go_wp2_with fail
  refine (one_any 12 _ g k HS.out (by omega) (by omega) (by omega)).mono ?_
  rintro e w1 ⟨b, rfl, hs, hg⟩
  have HT := Lib.hid hs
  have HG := Lib.hid hg
  clear hs hg
  cases b with
  | true =>
    go_wp2_with fail
    refine (among_any [9999, 0, -1, 20000001] (-1) 20000001 _ 4 _ g (k + 2) (src_alloc HT.out _) (by omega) (by omega) (by omega) (by have := src_lt HT.out; omega) (cells_list [9999, 0, -1, 20000001] 4 _ _ _ rfl rfl) (all_between (by decide) 4 rfl)).mono ?_
    rintro e w2 ⟨q, q0, q1, rfl, hs, hg⟩
    have HT2 := Lib.hid hs
    have HG2 := Lib.hid (grown_trans HG.out (grown_trans (grown_alloc _ _ g) hg))
    clear hs hg
    go_wp2
    go_ret
    exact ⟨_, q0, q1, rfl, src_more HT2.out (by omega), HG2.out⟩
  | false =>
    go_wp2_with fail
    refine (drawOk_any _ g (k + 2) HT.out (by omega)).mono ?_
    rintro e w2 ⟨q, q0, q1, rfl, hs, hg⟩
    have HT2 := Lib.hid hs
    have HG2 := Lib.hid (grown_trans HG.out hg)
    clear hs hg
    go_wp2
    go_ret
    exact ⟨_, by omega, by omega, rfl, src_more HT2.out (by omega), HG2.out⟩

/-- Two numbers near the range of frequencies. -/
def DrawTwo (g k : Nat) (w : World) (e : Ending) (w' : World) : Prop := ∃ a b : Int, -1001 ≤ a ∧ a ≤ 20002000 ∧ -1001 ≤ b ∧ b ≤ 20002000 ∧ e = .returned (.tuple #[.int .i64 a, .int .i64 b]) ∧ SrcAt w' g k ∧ w.grownBy w' (some g)
set_option maxHeartbeats 1000000 in
theorem drawNear_any (w : World) (g k : Nat) (h : SrcAt w g k) (hk : k ≤ 800000) :
    Calls Try.prog 36 #[.pointer (some ⟨g, 0, none⟩)] w (DrawTwo g (k + 20) w) := by
  have HS := Lib.hid h
  clear h
  go_enter Try.func36, Try.ntmps36
  go_wp2_with fail
  refine (drawF_any _ g k HS.out (by omega)).mono ?_
  rintro e w1 ⟨f, f0, f1, rfl, hs, hg⟩
  have HT := Lib.hid hs
  have HG := Lib.hid hg
  clear hs hg
  go_wp2_with fail
  refine (one_any 2 _ g (k + 6) HT.out (by omega) (by omega) (by omega)).mono ?_
  rintro e w2 ⟨b, rfl, hs, hg⟩
  have HT2 := Lib.hid hs
  have HG2 := Lib.hid (grown_trans HG.out hg)
  clear hs hg
  cases b with
  | true =>
    go_wp2_with fail
    refine (pick_any 2000 _ g (k + 6 + 2) HT2.out (by omega) (by omega) (by omega)).mono ?_
    rintro e w3 ⟨q, q0, q1, rfl, hs, hg⟩
    have HT3 := Lib.hid hs
    have HG3 := Lib.hid (grown_trans HG2.out hg)
    clear hs hg
    have q2 : q ≤ 1999 := by omega
    clear q1
    go_wp2
    go_ret2
    exact ⟨_, _, by omega, by omega, by omega, by omega, rfl, src_more HT3.out (by omega), HG3.out⟩
  | false =>
    go_wp2_with fail
    refine (one_any 6 _ g (k + 6 + 2) HT2.out (by omega) (by omega) (by omega)).mono ?_
    rintro e w3 ⟨b2, rfl, hs, hg⟩
    have HT3 := Lib.hid hs
    have HG3 := Lib.hid (grown_trans HG2.out hg)
    clear hs hg
    cases b2 with
    | true =>
      go_wp2
      go_ret2
      exact ⟨_, _, by omega, by omega, by omega, by omega, rfl, src_more HT3.out (by omega), HG3.out⟩
    | false =>
      go_wp2_with fail
      refine (drawF_any _ g (k + 6 + 2 + 2) HT3.out (by omega)).mono ?_
      rintro e w4 ⟨q, q0, q1, rfl, hs, hg⟩
      have HT4 := Lib.hid hs
      have HG4 := Lib.hid (grown_trans HG3.out hg)
      clear hs hg
      go_wp2
      go_ret2
      exact ⟨_, _, by omega, by omega, by omega, by omega, rfl, src_more HT4.out (by omega), HG4.out⟩

def TwoPost (w : World) (e : Ending) (w' : World) : Prop := ∃ a b : Int, -1001 ≤ a ∧ a ≤ 20002000 ∧ -1001 ≤ b ∧ b ≤ 20002000 ∧ e = .returned (.tuple #[.int .i64 a, .int .i64 b]) ∧ Below w.heap.size w w'
theorem slice_of {w : World} {v : Value} {B : Nat} (h : BytesAt w B v) : ∃ a n c, v = .slice a n c := by
  rcases h with ⟨a, c, rfl⟩ | ⟨b, off, n, cap, rfl, _⟩
  · exact ⟨_, _, _, rfl⟩
  · exact ⟨_, _, _, rfl⟩
theorem drawBeat_any (v : Value) (w : World) (h : BytesAt w w.heap.size v) :
    Calls Try.prog 13 #[v] w (TwoPost w) := by
  have HB := Lib.hid h
  obtain ⟨va, vn, vc, rfl⟩ := slice_of h
  clear h
  go_enter Try.func13, Try.ntmps13
  go_wp2_with fail
  refine (from_any _ _ HB.out).mono ?_
  rintro e w1 ⟨g, rfl, hs, hg, hb⟩
  have HS := Lib.hid hs
  have HB1 := Lib.hid hb
  have hsz1 := hb.size
  clear hs hb
  go_wp2_with fail
  refine (drawNear_any _ g 0 HS.out (by omega)).mono ?_
  rintro e w2 ⟨x, y, x0, x1, y0, y1, rfl, hs, hg2⟩
  have HB2 := Lib.hid (HB1.out.grown hg2 hsz1 (fun k hk => by cases hk; exact hg))
  clear hs hg2
  go_wp2
  go_ret2
  exact ⟨_, _, x0, x1, y0, y1, rfl, HB2.out⟩
theorem drawReduce_any (v : Value) (w : World) (h : BytesAt w w.heap.size v) :
    Calls Try.prog 18 #[v] w (TwoPost w) := by
  have HB := Lib.hid h
  obtain ⟨va, vn, vc, rfl⟩ := slice_of h
  clear h
  go_enter Try.func18, Try.ntmps18
  go_wp2_with fail
  refine (from_any _ _ HB.out).mono ?_
  rintro e w1 ⟨g, rfl, hs, hg, hb⟩
  have HS := Lib.hid hs
  have HB1 := Lib.hid hb
  have hsz1 := hb.size
  clear hs hb
  go_wp2_with fail
  refine (drawF_any _ g 0 HS.out (by omega)).mono ?_
  rintro e w2 ⟨x, x0, x1, rfl, hs, hg2⟩
  have HS2 := Lib.hid hs
  have HB2 := Lib.hid (HB1.out.grown hg2 hsz1 (fun k hk => by cases hk; exact hg))
  have hsz2 := HB2.out.size
  clear hs hg2
  go_wp2_with fail
  refine (drawF_any _ g (0 + 6) HS2.out (by omega)).mono ?_
  rintro e w3 ⟨y, y0, y1, rfl, hs, hg3⟩
  have HB3 := Lib.hid (HB2.out.grown hg3 hsz2 (fun k hk => by cases hk; exact hg))
  clear hs hg3
  go_wp2
  go_ret2
  exact ⟨_, _, by omega, by omega, by omega, by omega, rfl, HB3.out⟩
end Go.Proofs.Ytpfpdhgdeaoemaa
