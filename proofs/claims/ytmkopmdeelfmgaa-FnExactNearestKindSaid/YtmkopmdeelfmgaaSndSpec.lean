/- Sounds: the reference model's validity, partials and changed partials. -/
import Derived.Test.YtmkopmdeelfmgaaInts
import Derived.Test.YtmkopmdeelfmgaaSnd
import Derived.Test.YtmkopmdeelfmgaaRise
import Derived.BigRegion
namespace Go.Proofs.Ytmkopmdeelfmgaa
open Go.ChangeShapes Go.WideShapes Go.ChangeAt Go.RowKit

def ListPost (zs : List Int) (w : World) (e : Ending) (w' : World) : Prop := ∃ g, e = .returned (.slice (some ⟨g, 0, none⟩) 5 5) ∧ w.heap.size ≤ g ∧ w'.ownsRow w.heap.size 2 1 (.slice (some ⟨g, 0, none⟩) 5 5) 5 (i64s zs) ∧ Below w.heap.size w w'
set_option maxHeartbeats 400000 in
theorem l04List_any (g : Nat) (a b c e f : Int) (w : World) (h0 : w.cell? ⟨g, 0, none⟩ = some (.int .i64 a)) (h1 : w.cell? ⟨g, 1, none⟩ = some (.int .i64 b)) (h2 : w.cell? ⟨g, 2, none⟩ = some (.int .i64 c)) (h3 : w.cell? ⟨g, 3, none⟩ = some (.int .i64 e)) (h4 : w.cell? ⟨g, 4, none⟩ = some (.int .i64 f)) :
    Calls Try.prog 37 #[.pointer (some ⟨g, 0, none⟩)] w (ListPost [a, b, c, e, f] w) := by
  go_enter Try.func37, Try.ntmps37
  go_wp2
  go_region
  go_wp2
  go_ret
  exact ⟨w.heap.size, rfl, Nat.le_refl _, World.ownsRow_lit w.drew (i64s [a, b, c, e, f]).toArray 5 (Nat.le_refl _) (by decide) rfl, below_dr ((Below.refl _ _).alloc (Nat.le_refl _) _)⟩

/-- The five numbers are the partials of a valid sound. -/
def sndB (a b c e f : Int) : Bool := risesB 10000 20000000 [a, b, c, e, f]
theorem l04Ok_any (g : Nat) (a b c e f : Int) (w : World) (h0 : w.cell? ⟨g, 0, none⟩ = some (.int .i64 a)) (h1 : w.cell? ⟨g, 1, none⟩ = some (.int .i64 b)) (h2 : w.cell? ⟨g, 2, none⟩ = some (.int .i64 c)) (h3 : w.cell? ⟨g, 3, none⟩ = some (.int .i64 e)) (h4 : w.cell? ⟨g, 4, none⟩ = some (.int .i64 f)) :
    Calls Try.prog 33 #[.pointer (some ⟨g, 0, none⟩)] w fun en w' => en = .returned (.bool (sndB a b c e f)) ∧ Below w.heap.size w w' := by
  go_enter Try.func33, Try.ntmps33
  go_wp2_with fail
  refine (l04List_any g a b c e f _ h0 h1 h2 h3 h4).mono ?_
  rintro en w1 ⟨q, rfl, hq, hrow, hb⟩
  have HR := Lib.hid hrow
  have HB := Lib.hid hb
  clear hrow hb
  go_wp2_with fail
  refine (rises_any 10000 20000000 [a, b, c, e, f] q 0 5 5 _ rfl (by omega) (own_cells rfl HR.out)).mono ?_
  rintro en w2 ⟨rfl, hb⟩
  have HB2 := Lib.hid (below_of HB.out hb HB.out.size)
  clear hb
  go_wp2
  go_ret
  exact ⟨rfl, HB2.out⟩
theorem specValid_any (a b c e f : Int) (w : World) :
    Calls Try.prog 11 #[.agg #[.int .i64 a, .int .i64 b, .int .i64 c, .int .i64 e, .int .i64 f]] w fun en w' => en = .returned (.bool (sndB a b c e f)) ∧ Below w.heap.size w w' := by
  go_enter Try.func11, Try.ntmps11
  go_wp2_with fail
  refine (l04Ok_any w.heap.size a b c e f _ (by go_simp) (by go_simp) (by go_simp) (by go_simp) (by go_simp)).mono ?_
  rintro en w2 ⟨rfl, hb⟩
  have HB2 := Lib.hid (below_of ((Below.refl _ _).alloc (Nat.le_refl _) _) hb (by simp))
  clear hb
  go_wp2
  go_ret
  exact ⟨rfl, HB2.out⟩
theorem l04Partial_any (k : Int) (w : World) :
    Calls Try.prog 36 #[.int .i64 k] w fun en w' => en = .returned (.bool (inB k 1 5)) ∧ w = w' := by
  go_enter Try.func36, Try.ntmps36
  go_wp2_with fail
  refine (l00In_any _ _ _ _).mono ?_
  rintro e w' ⟨rfl, rfl⟩
  go_wp2
  go_ret
  exact ⟨rfl, rfl⟩
set_option maxHeartbeats 400000 in
theorem l04Sound_any (g : Nat) (a b c e f : Int) (w : World) (hg : g < w.heap.size) (h0 : w.cell? ⟨g, 0, none⟩ = some (.int .i64 a)) (h1 : w.cell? ⟨g, 1, none⟩ = some (.int .i64 b)) (h2 : w.cell? ⟨g, 2, none⟩ = some (.int .i64 c)) (h3 : w.cell? ⟨g, 3, none⟩ = some (.int .i64 e)) (h4 : w.cell? ⟨g, 4, none⟩ = some (.int .i64 f)) :
    Calls Try.prog 39 #[.slice (some ⟨g, 0, none⟩) 5 5] w fun en w' => en = .returned (.agg #[.int .i64 a, .int .i64 b, .int .i64 c, .int .i64 e, .int .i64 f]) ∧ Below w.heap.size w w' := by
  go_enter Try.func39, Try.ntmps39
  go_wp2
  have k0 := (below_cell (w1 := w.alloc (.cells #[.int .i64 0, .int .i64 0, .int .i64 0, .int .i64 0, .int .i64 0] 25)) ((Below.refl _ _).alloc (Nat.le_refl _) _) g 0 hg).trans h0
  have k1 := (below_cell (w1 := w.alloc (.cells #[.int .i64 0, .int .i64 0, .int .i64 0, .int .i64 0, .int .i64 0] 25)) ((Below.refl _ _).alloc (Nat.le_refl _) _) g 1 hg).trans h1
  have k2 := (below_cell (w1 := w.alloc (.cells #[.int .i64 0, .int .i64 0, .int .i64 0, .int .i64 0, .int .i64 0] 25)) ((Below.refl _ _).alloc (Nat.le_refl _) _) g 2 hg).trans h2
  have k3 := (below_cell (w1 := w.alloc (.cells #[.int .i64 0, .int .i64 0, .int .i64 0, .int .i64 0, .int .i64 0] 25)) ((Below.refl _ _).alloc (Nat.le_refl _) _) g 3 hg).trans h3
  have k4 := (below_cell (w1 := w.alloc (.cells #[.int .i64 0, .int .i64 0, .int .i64 0, .int .i64 0, .int .i64 0] 25)) ((Below.refl _ _).alloc (Nat.le_refl _) _) g 4 hg).trans h4
  go_region
  go_wp2
  refine bodyPost_ret (v := .agg #[.int .i64 a, .int .i64 b, .int .i64 c, .int .i64 e, .int .i64 f]) (by simp [results, Try.results39, go_sem]) rfl ⟨rfl, ?_⟩
  exact below_dr ((Below.refl _ _).alloc (Nat.le_refl _) _)
def ptR (a b c e f k : Int) : Int := if sndB a b c e f = true ∧ inB k 1 5 = true then [a, b, c, e, f].getD (k - 1).toNat 0 else 0
def ptC (a b c e f k : Int) : Int := if sndB a b c e f = true then (if inB k 1 5 = true then 0 else 2) else 1
theorem pt_0 {a b c e f k : Int} (h : sndB a b c e f = false) : ptR a b c e f k = 0 ∧ ptC a b c e f k = 1 := by
  unfold ptR ptC; rw [h]; exact ⟨if_neg (fun h => by cases h.1), if_neg (by decide)⟩
theorem pt_1 {a b c e f k : Int} (h : sndB a b c e f = true) (h1 : inB k 1 5 = false) : ptR a b c e f k = 0 ∧ ptC a b c e f k = 2 := by
  unfold ptR ptC; rw [h, h1]; exact ⟨if_neg (fun h => by cases h.2), by decide⟩
theorem pt_2 {a b c e f k : Int} (h : sndB a b c e f = true) (h1 : inB k 1 5 = true) : ptR a b c e f k = [a, b, c, e, f].getD (k - 1).toNat 0 ∧ ptC a b c e f k = 0 := by
  unfold ptR ptC; rw [h, h1]; exact ⟨if_pos ⟨rfl, rfl⟩, by decide⟩
theorem ret_two' {a b c d : Int} (h : a = b) (k : c = d) : Ending.returned (.tuple #[.int .i64 a, .int .i64 c]) = .returned (.tuple #[.int .i64 b, .int .i64 d]) := by rw [h, k]
set_option maxHeartbeats 1000000 in
theorem specPartial_any (a b c e f k : Int) (w : World) :
    Calls Try.prog 14 #[.agg #[.int .i64 a, .int .i64 b, .int .i64 c, .int .i64 e, .int .i64 f], .int .i64 k] w fun en w' => en = .returned (.tuple #[.int .i64 (ptR a b c e f k), .int .i64 (ptC a b c e f k)]) ∧ Below w.heap.size w w' := by
  rcases Bool.eq_false_or_eq_true (sndB a b c e f) with h0 | h0
  · rcases Bool.eq_false_or_eq_true (inB k 1 5) with h1 | h1
    · have R := Lib.hid (pt_2 (k := k) h0 h1)
      obtain ⟨k0, k1⟩ := inB_iff.1 h1
      obtain ⟨q, rfl⟩ : ∃ q : Nat, k = (q : Int) + 1 := ⟨(k - 1).toNat, by omega⟩
      have hq : q < 5 := by omega
      have HQ := Lib.hid (show ((q : Int) + 1 - 1).toNat = q by omega)
      have hs : ((q : Int) + 1 - 1) = (q : Int) := by omega
      go_enter Try.func14, Try.ntmps14
      go_wp2_with fail
      refine (l04Ok_any w.heap.size a b c e f _ (by go_simp) (by go_simp) (by go_simp) (by go_simp) (by go_simp)).mono ?_
      rintro en w1 ⟨rfl, hb⟩
      have b0 : w1.cell? ⟨w.heap.size, 0, none⟩ = some (.int .i64 a) := by rw [below_cell hb _ _ (by simp)]; go_simp
      have b1 : w1.cell? ⟨w.heap.size, 1, none⟩ = some (.int .i64 b) := by rw [below_cell hb _ _ (by simp)]; go_simp
      have b2 : w1.cell? ⟨w.heap.size, 2, none⟩ = some (.int .i64 c) := by rw [below_cell hb _ _ (by simp)]; go_simp
      have b3 : w1.cell? ⟨w.heap.size, 3, none⟩ = some (.int .i64 e) := by rw [below_cell hb _ _ (by simp)]; go_simp
      have b4 : w1.cell? ⟨w.heap.size, 4, none⟩ = some (.int .i64 f) := by rw [below_cell hb _ _ (by simp)]; go_simp
      have HB := Lib.hid (below_of ((Below.refl _ _).alloc (Nat.le_refl _) _) hb (by simp))
      clear hb
      rw [h0]
      go_wp2_with fail
      refine (l04Partial_any _ _).mono ?_
      rintro en w2 ⟨rfl, rfl⟩
      rw [h1]
      go_wp2_with fail
      refine (l04List_any w.heap.size a b c e f _ b0 b1 b2 b3 b4).mono ?_
      rintro en w2 ⟨g, rfl, hg, hrow, hb⟩
      have hcell : w2.cell? ⟨g, q, none⟩ = some (.int .i64 ([a, b, c, e, f].getD q 0)) := by
        have := own_cells (zs := [a, b, c, e, f]) rfl hrow q hq
        rwa [Nat.zero_add] at this
      have HB2 := Lib.hid (below_of HB.out hb HB.out.size)
      rw [HQ.out] at R
      generalize [a, b, c, e, f].getD q 0 = r at *
      clear hb hrow b0 b1 b2 b3 b4
      go_wp2
      go_ret2
      exact ⟨ret_two' R.out.1.symm R.out.2.symm, HB2.out⟩
    · have R := Lib.hid (pt_1 (k := k) h0 h1)
      go_enter Try.func14, Try.ntmps14
      go_wp2_with fail
      refine (l04Ok_any w.heap.size a b c e f _ (by go_simp) (by go_simp) (by go_simp) (by go_simp) (by go_simp)).mono ?_
      rintro en w1 ⟨rfl, hb⟩
      have HB := Lib.hid (below_of ((Below.refl _ _).alloc (Nat.le_refl _) _) hb (by simp))
      clear hb
      rw [h0]
      go_wp2_with fail
      refine (l04Partial_any _ _).mono ?_
      rintro en w2 ⟨rfl, rfl⟩
      rw [h1]
      go_wp2
      go_ret2
      exact ⟨ret_two' R.out.1.symm R.out.2.symm, HB.out⟩
  · have R := Lib.hid (pt_0 (k := k) h0)
    go_enter Try.func14, Try.ntmps14
    go_wp2_with fail
    refine (l04Ok_any w.heap.size a b c e f _ (by go_simp) (by go_simp) (by go_simp) (by go_simp) (by go_simp)).mono ?_
    rintro en w1 ⟨rfl, hb⟩
    have HB := Lib.hid (below_of ((Below.refl _ _).alloc (Nat.le_refl _) _) hb (by simp))
    clear hb
    rw [h0]
    go_wp2
    go_ret2
    exact ⟨ret_two' R.out.1.symm R.out.2.symm, HB.out⟩
end Go.Proofs.Ytmkopmdeelfmgaa
