/- Profiles by value: measured, copied, compared. -/
import Derived.Test.YtpjopfhkgegahaaRingLaw
import Derived.Lib.SmallJoins
namespace Go.Proofs.Ytpjopfhkgegahaa
open Go.ChangeShapes Go.WideShapes Go.ChangeAt Go.RowKit

theorem ownR_kept {w w' : World} {B : Nat} {v : Value} {zs : List Rg} (hb : Below w.heap.size w w') (h : OwnRings w B v zs) : OwnRings w' B v zs := by
  obtain ⟨g, cap, rfl, h1, h2, hown⟩ := h
  have hs := hb.size
  exact ⟨g, cap, rfl, h1, by omega, row_keepR hb hown⟩
theorem cell_lt5 {w : World} {a : Addr} {v : Value} (h : w.cell? a = some v) : a.block < w.heap.size := by
  unfold World.cell? at h
  cases hh : w.heap[a.block]? with
  | none => rw [hh] at h; simp at h
  | some o => exact (Array.getElem?_eq_some_iff.1 hh).1
theorem held4 {w5 W W2 : World} {b1 b2 : Nat} {x0 x1 y0 y1 : Value} (hz : b1 < w5.heap.size ∧ b2 < w5.heap.size) (h0 : w5.cell? ⟨b2, 0, none⟩ = some x0) (h1 : w5.cell? ⟨b2, 1, none⟩ = some x1) (h2 : w5.cell? ⟨b1, 0, none⟩ = some y0) (h3 : w5.cell? ⟨b1, 1, none⟩ = some y1)
    (hW : Below w5.heap.size w5 W) (hb : Below W.heap.size W W2) : W2.cell? ⟨b2, 0, none⟩ = some x0 ∧ W2.cell? ⟨b2, 1, none⟩ = some x1 ∧ W2.cell? ⟨b1, 0, none⟩ = some y0 ∧ W2.cell? ⟨b1, 1, none⟩ = some y1 ∧ Below w5.heap.size w5 W2 := by
  have h := below_of hW hb hW.size
  exact ⟨by rw [below_cell h _ _ hz.2]; exact h0, by rw [below_cell h _ _ hz.2]; exact h1, by rw [below_cell h _ _ hz.1]; exact h2, by rw [below_cell h _ _ hz.1]; exact h3, h⟩
/-- What is left of a measure. -/
def leftP (a b : Nat) (left : Int) : Int := if left - a < 0 then -1 else if left - a - b < 0 then -1 else left - a - b
theorem szRings_any (a : Option Addr) (n c : Nat) (left : Int) (w : World) (hn : n ≤ 9223372036854775807) (h0 : 0 ≤ left) (h1 : left ≤ 1048576) :
    Calls Try.prog 29 #[.slice a n c, .int .i64 left] w fun e w' => e = .returned (.int .i64 (if left - n < 0 then -1 else left - n)) ∧ w = w' := by
  by_cases h : left - n < 0
  · rw [if_pos h]
    go_enter Try.func29, Try.ntmps29
    go_wp2
    go_ret
    exact ⟨rfl, rfl⟩
  · rw [if_neg h]
    go_enter Try.func29, Try.ntmps29
    go_wp2
    go_ret
    exact ⟨rfl, rfl⟩
set_option maxHeartbeats 400000 in
theorem szProf_any (s : ByteArray) (a : Option Addr) (n c : Nat) (left : Int) (w : World) (hs : s.size ≤ 9223372036854775807) (hn : n ≤ 9223372036854775807) (h0 : 0 ≤ left) (h1 : left ≤ 1048576) :
    Calls Try.prog 13 #[.agg #[.string s, .slice a n c], .int .i64 left] w fun e w' => e = .returned (.int .i64 (leftP s.size n left)) ∧ Below w.heap.size w w' := by
  by_cases h : left - s.size < 0
  · have H := Lib.hid (show leftP s.size n left = -1 by unfold leftP; rw [if_pos h])
    go_enter Try.func13, Try.ntmps13
    go_wp2
    go_ret
    exact ⟨ret_i64 H.out.symm, (Below.refl _ _).alloc (Nat.le_refl _) _⟩
  · by_cases h2 : left - s.size - n < 0
    · have H := Lib.hid (show leftP s.size n left = -1 by unfold leftP; rw [if_neg h, if_pos h2])
      have HC := Lib.hid (show (if left - s.size - n < 0 then (-1 : Int) else left - s.size - n) = -1 by rw [if_pos h2])
      go_enter Try.func13, Try.ntmps13
      go_wp2_with fail
      refine (szRings_any a n c (left - s.size) _ hn (by omega) (by omega)).mono ?_
      rintro e w' ⟨rfl, rfl⟩
      rw [HC.out]
      go_wp2
      go_ret
      exact ⟨ret_i64 H.out.symm, (Below.refl _ _).alloc (Nat.le_refl _) _⟩
    · have H := Lib.hid (show leftP s.size n left = left - s.size - n by unfold leftP; rw [if_neg h, if_neg h2])
      have HC := Lib.hid (show (if left - s.size - n < 0 then (-1 : Int) else left - s.size - n) = left - s.size - n by rw [if_neg h2])
      go_enter Try.func13, Try.ntmps13
      go_wp2_with fail
      refine (szRings_any a n c (left - s.size) _ hn (by omega) (by omega)).mono ?_
      rintro e w' ⟨rfl, rfl⟩
      rw [HC.out]
      go_wp2
      go_ret
      exact ⟨ret_i64 H.out.symm, (Below.refl _ _).alloc (Nat.le_refl _) _⟩

theorem szProf_v (s : ByteArray) (v : Value) (n : Nat) (left : Int) (w : World) (hv : Hid (∃ a c, v = .slice a n c)) (hs : s.size ≤ 9223372036854775807) (hn : n ≤ 9223372036854775807) (h0 : 0 ≤ left) (h1 : left ≤ 1048576) :
    Calls Try.prog 13 #[.agg #[.string s, v], .int .i64 left] w fun e w' => e = .returned (.int .i64 (leftP s.size n left)) ∧ Below w.heap.size w w' := by
  obtain ⟨a, c, rfl⟩ := hv
  exact szProf_any s a n c left w hs hn h0 h1
theorem leftP_no {a b : Nat} {left : Int} (h : left < a + b) : leftP a b left = -1 := by
  unfold leftP
  split
  · rfl
  · rw [if_pos (by omega)]
theorem leftP_yes {a b : Nat} {left : Int} (h : (a : Int) + b ≤ left) : leftP a b left = left - a - b := by
  unfold leftP
  rw [if_neg (by omega), if_neg (by omega)]
/-- A slice of the call's own that reads as zs. -/
def OwnRAt (w : World) (B : Nat) (v : Value) (zs : List Rg) : Prop := ∃ B', B ≤ B' ∧ OwnRings w B' v zs
theorem ownRAt_kept {w w' : World} {B : Nat} {v : Value} {zs : List Rg} (hb : Below w.heap.size w w') (h : OwnRAt w B v zs) : OwnRAt w' B v zs := by
  obtain ⟨B', h1, h2⟩ := h
  exact ⟨B', h1, ownR_kept hb h2⟩
theorem ownRAt_rings {w : World} {B : Nat} {v : Value} {zs : List Rg} (hl : zs.length ≤ 1048576) (h : OwnRAt w B v zs) : RingsAt w v zs := by
  obtain ⟨_, _, h2⟩ := h
  exact own_rings hl h2

theorem ownR_set {w : World} {B : Nat} {v : Value} {zs : List Rg} (h : OwnRings w B v zs) (b o : Nat) (x : Value) (hb : b < B) : OwnRings (w.setCell ⟨b, o, none⟩ x) B v zs := by
  obtain ⟨g, cap, rfl, h1, h2, hown⟩ := h
  refine ⟨g, cap, rfl, h1, by simpa using h2, hown.kept (row := some b) ⟨rfl, rfl, rfl, by simp, fun k _ hk => Below.heap_setCell _ _ _ _ (by intro e; exact hk (by simp only at e; rw [e]))⟩ (.inr (by simp [Value.ownBlock]; omega))⟩
/-- What a copy is. -/
def CopyP (s : ByteArray) (zs : List Rg) (w : World) (e : Ending) (w' : World) : Prop := ∃ v, e = .returned (.agg #[.string s, v]) ∧ OwnRAt w' w.heap.size v zs ∧ Below w.heap.size w w'
set_option maxHeartbeats 2000000 in
theorem toProf_any (s : ByteArray) (v : Value) (zs : List Rg) (w : World) (h : RingsAt w v zs) :
    Calls Try.prog 15 #[.agg #[.string s, v]] w (CopyP s zs w) := by
  have HI := Lib.hid h
  obtain ⟨a, c, rfl⟩ := rings_form h
  clear h
  generalize hn : zs.length = n at *
  have HN := Lib.hid hn
  clear hn
  go_enter Try.func15, Try.ntmps15
  go_wp2_with fail
  refine (toRings_any zs _ _ (rings_kept ((((Below.refl _ _).alloc (Nat.le_refl _) _).alloc (by simp) _).alloc (by simp <;> omega) _) HI.out)).mono ?_
  rintro e w1 ⟨v', rfl, hown, hb⟩
  have HO := Lib.hid hown
  have HB := Lib.hid hb
  have c10 : w1.cell? ⟨w.heap.size + 1, 0, none⟩ = some (.string ⟨#[]⟩) := by rw [below_cell hb _ _ (by simp)]; go_simp
  have c11 : w1.cell? ⟨w.heap.size + 1, 1, none⟩ = some (.slice none 0 0) := by rw [below_cell hb _ _ (by simp)]; go_simp
  have c20 : w1.cell? ⟨w.heap.size + 1 + 1, 0, none⟩ = some (.string s) := by rw [below_cell hb _ _ (by simp)]; go_simp
  have c21 : w1.cell? ⟨w.heap.size + 1 + 1, 1, none⟩ = some (.slice none 0 0) := by rw [below_cell hb _ _ (by simp)]; go_simp
  have f10 : w1.frozen? ⟨w.heap.size + 1, 0, none⟩ = false := by rw [below_frozen hb _ _ (by simp)]; go_simp
  have f11 : w1.frozen? ⟨w.heap.size + 1, 1, none⟩ = false := by rw [below_frozen hb _ _ (by simp)]; go_simp
  have f21 : w1.frozen? ⟨w.heap.size + 1 + 1, 1, none⟩ = false := by rw [below_frozen hb _ _ (by simp)]; go_simp
  have hz : w.heap.size + 3 ≤ w1.heap.size := by have := hb.size; simp at this; omega
  obtain ⟨g, cap, rfl, hg1, hg2, -⟩ := hown
  clear hb
  simp at hg1
  have HG := Lib.hid hg1
  go_wp2
  refine bodyPost_ret (v := .agg #[.string s, .slice (some ⟨g, 0, none⟩) zs.length cap]) (by simp [results, Try.results15, go_sem, c10, c11]) rfl ⟨_, rfl, ⟨w.heap.size + 3, by omega, ownR_set (ownR_set (ownR_set ?_ _ _ _ (by omega)) _ _ _ (by omega)) _ _ _ (by omega)⟩, ?_⟩
  · have := HO.out
    simpa using this
  · have h3 : Below w.heap.size w w1 := ((((Below.refl _ _).alloc (Nat.le_refl _) _).alloc (by simp) _).alloc (by simp <;> omega) _).trans (HB.out.mono (by simp <;> omega))
    exact ((h3.setCell (by simp <;> omega) _).setCell (by simp) _).setCell (by simp) _
theorem eqProf_any (s : ByteArray) (v1 v2 : Value) (zs : List Rg) (w : World) (h1 : RingsAt w v1 zs) (h2 : RingsAt w v2 zs) :
    Calls Try.prog 17 #[.agg #[.string s, v1], .agg #[.string s, v2]] w fun e w' => e = .returned (.bool true) ∧ Below w.heap.size w w' := by
  have H1 := Lib.hid h1
  have H2 := Lib.hid h2
  obtain ⟨a1, c1, rfl⟩ := rings_form h1
  obtain ⟨a2, c2, rfl⟩ := rings_form h2
  clear h1 h2
  generalize hn : zs.length = n at *
  have HN := Lib.hid hn
  clear hn
  have hs : (s.toList != s.toList) = false := by simp
  go_enter Try.func17, Try.ntmps17
  go_wp2_with fail
  refine (eqRings_at zs _ _ _ (rings_kept (((Below.refl _ _).alloc (Nat.le_refl _) _).alloc (by simp) _) H1.out) (rings_kept (((Below.refl _ _).alloc (Nat.le_refl _) _).alloc (by simp) _) H2.out)).mono ?_
  rintro e w1 ⟨rfl, hb⟩
  have HB := Lib.hid (below_of (((Below.refl _ _).alloc (Nat.le_refl _) _).alloc (by simp) _) hb (by simp <;> omega))
  clear hb
  go_wp2
  go_ret
  exact ⟨rfl, HB.out⟩
end Go.Proofs.Ytpjopfhkgegahaa
