/- Sounds: the reference model's validity, partials and changed partials. -/
import Derived.Test.YtpjopfhkgegahaaGreatG1
import Derived.Test.YtpjopfhkgegahaaGreatSnd
import Derived.BigRegion
namespace Go.Proofs.YtpjopfhkgegahaaGreat
open Go.ChangeShapes Go.WideShapes Go.ChangeAt Go.RowKit

def ListPost (zs : List Int) (w : World) (e : Ending) (w' : World) : Prop := ∃ g, e = .returned (.slice (some ⟨g, 0, none⟩) 5 5) ∧ w.heap.size ≤ g ∧ w'.ownsRow w.heap.size 2 1 (.slice (some ⟨g, 0, none⟩) 5 5) 5 (i64s zs) ∧ Below w.heap.size w w'
set_option maxHeartbeats 400000 in
theorem l04List_any (g : Nat) (a b c e f : Int) (w : World) (h0 : w.cell? ⟨g, 0, none⟩ = some (.int .i64 a)) (h1 : w.cell? ⟨g, 1, none⟩ = some (.int .i64 b)) (h2 : w.cell? ⟨g, 2, none⟩ = some (.int .i64 c)) (h3 : w.cell? ⟨g, 3, none⟩ = some (.int .i64 e)) (h4 : w.cell? ⟨g, 4, none⟩ = some (.int .i64 f)) :
    Calls Tryz.prog 65 #[.pointer (some ⟨g, 0, none⟩)] w (ListPost [a, b, c, e, f] w) := by
  go_enter Tryz.func65, Tryz.ntmps65
  go_wp2
  go_region
  go_wp2
  go_ret
  exact ⟨w.heap.size, rfl, Nat.le_refl _, World.ownsRow_lit w.drew (i64s [a, b, c, e, f]).toArray 5 (Nat.le_refl _) (by decide) rfl, below_dr ((Below.refl _ _).alloc (Nat.le_refl _) _)⟩

/-- The five numbers are the partials of a valid sound. -/
def sndB (a b c e f : Int) : Bool := risesB 10000 20000000 [a, b, c, e, f]
theorem l04Ok_any (g : Nat) (a b c e f : Int) (w : World) (h0 : w.cell? ⟨g, 0, none⟩ = some (.int .i64 a)) (h1 : w.cell? ⟨g, 1, none⟩ = some (.int .i64 b)) (h2 : w.cell? ⟨g, 2, none⟩ = some (.int .i64 c)) (h3 : w.cell? ⟨g, 3, none⟩ = some (.int .i64 e)) (h4 : w.cell? ⟨g, 4, none⟩ = some (.int .i64 f)) :
    Calls Tryz.prog 78 #[.pointer (some ⟨g, 0, none⟩)] w fun en w' => en = .returned (.bool (sndB a b c e f)) ∧ Below w.heap.size w w' := by
  go_enter Tryz.func78, Tryz.ntmps78
  go_wp2_with fail
  refine (l04List_any g a b c e f _ h0 h1 h2 h3 h4).mono ?_
  rintro en w1 ⟨q, rfl, hq, hrow, hb⟩
  have HR := Lib.hid hrow
  have HB := Lib.hid hb
  clear hrow hb
  go_wp2_with fail
  refine (rises_any 10000 20000000 [a, b, c, e, f] q 0 5 5 _ rfl (by omega) (own_cells rfl HR.out)).mono ?_
  rintro en w2 ⟨rfl, hb⟩
  have HB2 := Lib.hid (below_of HB.out hb HB.out.size)
  clear hb
  go_wp2
  go_ret
  exact ⟨rfl, HB2.out⟩
set_option maxHeartbeats 400000 in
theorem l04Sound_any (g : Nat) (a b c e f : Int) (w : World) (hg : g < w.heap.size) (h0 : w.cell? ⟨g, 0, none⟩ = some (.int .i64 a)) (h1 : w.cell? ⟨g, 1, none⟩ = some (.int .i64 b)) (h2 : w.cell? ⟨g, 2, none⟩ = some (.int .i64 c)) (h3 : w.cell? ⟨g, 3, none⟩ = some (.int .i64 e)) (h4 : w.cell? ⟨g, 4, none⟩ = some (.int .i64 f)) :
    Calls Tryz.prog 77 #[.slice (some ⟨g, 0, none⟩) 5 5] w fun en w' => en = .returned (.agg #[.int .i64 a, .int .i64 b, .int .i64 c, .int .i64 e, .int .i64 f]) ∧ Below w.heap.size w w' := by
  go_enter Tryz.func77, Tryz.ntmps77
  go_wp2
  have k0 := (below_cell (w1 := w.alloc (.cells #[.int .i64 0, .int .i64 0, .int .i64 0, .int .i64 0, .int .i64 0] 44)) ((Below.refl _ _).alloc (Nat.le_refl _) _) g 0 hg).trans h0
  have k1 := (below_cell (w1 := w.alloc (.cells #[.int .i64 0, .int .i64 0, .int .i64 0, .int .i64 0, .int .i64 0] 44)) ((Below.refl _ _).alloc (Nat.le_refl _) _) g 1 hg).trans h1
  have k2 := (below_cell (w1 := w.alloc (.cells #[.int .i64 0, .int .i64 0, .int .i64 0, .int .i64 0, .int .i64 0] 44)) ((Below.refl _ _).alloc (Nat.le_refl _) _) g 2 hg).trans h2
  have k3 := (below_cell (w1 := w.alloc (.cells #[.int .i64 0, .int .i64 0, .int .i64 0, .int .i64 0, .int .i64 0] 44)) ((Below.refl _ _).alloc (Nat.le_refl _) _) g 3 hg).trans h3
  have k4 := (below_cell (w1 := w.alloc (.cells #[.int .i64 0, .int .i64 0, .int .i64 0, .int .i64 0, .int .i64 0] 44)) ((Below.refl _ _).alloc (Nat.le_refl _) _) g 4 hg).trans h4
  go_region
  go_wp2
  refine bodyPost_ret (v := .agg #[.int .i64 a, .int .i64 b, .int .i64 c, .int .i64 e, .int .i64 f]) (by simp [results, Tryz.results77, go_sem]) rfl ⟨rfl, ?_⟩
  exact below_dr ((Below.refl _ _).alloc (Nat.le_refl _) _)
end Go.Proofs.YtpjopfhkgegahaaGreat
