/- The interval between two notes: the program's answer and the reference model's. -/
import Derived.Test.YtmkopmdeelfmgabDoorOff
import Derived.Deep.QuietTactic
import Derived.BigQuiet
namespace Go.Proofs.YtmkopmdeelfmgabDoor
open Go.ChangeShapes Go.WideShapes Go.ChangeAt Go.RowKit

theorem below_drewI {B : Nat} {w w1 : World} (h : Below B w w1) (n : Nat) : Below B w (w1.drewN n) := ⟨h.os, h.tape, h.output, h.size, h.block⟩
/-- The interval from a note to another one. -/
def ivN (zs : List Int) (a b : Nat) : Int := 1000 * ((b : Int) - a) + zs.getD (b % 12) 0 - zs.getD (a % 12) 0
theorem offs_in {zs : List Int} (h : allIn (-500) 500 zs = true) (hl : zs.length = 12) (j : Nat) (hj : j < 12) : -500 ≤ zs.getD j 0 ∧ zs.getD j 0 ≤ 500 := by
  unfold allIn at h
  rw [List.all_eq_true] at h
  have hj' : j < zs.length := by omega
  have := h zs[j] (List.getElem_mem hj')
  rw [List.getD_eq_getElem?_getD, List.getElem?_eq_getElem hj']
  exact inB_iff.1 this
theorem iv_bd {zs : List Int} (h : allIn (-500) 500 zs = true) (hl : zs.length = 12) (a b : Nat) (ha : a ≤ 127) (hb : b ≤ 127) : -128000 ≤ ivN zs a b ∧ ivN zs a b ≤ 128000 := by
  have h1 := offs_in h hl (b % 12) (by omega)
  have h2 := offs_in h hl (a % 12) (by omega)
  unfold ivN
  omega
theorem cell_12 (w : World) (x0 x1 x2 x3 x4 x5 x6 x7 x8 x9 x10 x11 : Int) (T : TypeId) (g : Nat) (hg : g = w.heap.size) (j : Nat) (hj : j < 12) : (w.alloc (.cells #[.int .i64 x0, .int .i64 x1, .int .i64 x2, .int .i64 x3, .int .i64 x4, .int .i64 x5, .int .i64 x6, .int .i64 x7, .int .i64 x8, .int .i64 x9, .int .i64 x10, .int .i64 x11] T)).cell? ⟨g, j, none⟩ = some (.int .i64 ([x0, x1, x2, x3, x4, x5, x6, x7, x8, x9, x10, x11].getD j 0)) := by
  subst hg
  rw [World.cell?_alloc_new]
  match j, hj with
  | 0, _ => rfl
  | 1, _ => rfl
  | 2, _ => rfl
  | 3, _ => rfl
  | 4, _ => rfl
  | 5, _ => rfl
  | 6, _ => rfl
  | 7, _ => rfl
  | 8, _ => rfl
  | 9, _ => rfl
  | 10, _ => rfl
  | 11, _ => rfl

set_option maxRecDepth 100000 in
set_option maxHeartbeats 2000000 in
theorem interval_any (x0 x1 x2 x3 x4 x5 x6 x7 x8 x9 x10 x11 : Int) (a b : Nat) (w : World) (ha : a ≤ 127) (hb : b ≤ 127) (hin : ∀ j, j < 12 → -500 ≤ [x0, x1, x2, x3, x4, x5, x6, x7, x8, x9, x10, x11].getD j 0 ∧ [x0, x1, x2, x3, x4, x5, x6, x7, x8, x9, x10, x11].getD j 0 ≤ 500) :
    Calls Tryd.prog 48 #[.agg #[.int .i64 x0, .int .i64 x1, .int .i64 x2, .int .i64 x3, .int .i64 x4, .int .i64 x5, .int .i64 x6, .int .i64 x7, .int .i64 x8, .int .i64 x9, .int .i64 x10, .int .i64 x11], .int .i64 a, .int .i64 b] w fun e w' => e = .returned (.int .i64 (ivN [x0, x1, x2, x3, x4, x5, x6, x7, x8, x9, x10, x11] a b)) ∧ Below w.heap.size w w' := by
  have HV := Lib.hid (show ivN [x0, x1, x2, x3, x4, x5, x6, x7, x8, x9, x10, x11] a b = 1000 * ((b : Int) - a) + [x0, x1, x2, x3, x4, x5, x6, x7, x8, x9, x10, x11].getD (b % 12) 0 - [x0, x1, x2, x3, x4, x5, x6, x7, x8, x9, x10, x11].getD (a % 12) 0 from rfl)
  have i1 := hin (b % 12) (by omega)
  have i2 := hin (a % 12) (by omega)
  have c1 := cell_12 w x0 x1 x2 x3 x4 x5 x6 x7 x8 x9 x10 x11 72 _ rfl (b % 12) (by omega)
  have c2 := cell_12 w x0 x1 x2 x3 x4 x5 x6 x7 x8 x9 x10 x11 72 _ rfl (a % 12) (by omega)
  generalize [x0, x1, x2, x3, x4, x5, x6, x7, x8, x9, x10, x11].getD (b % 12) 0 = y at *
  generalize [x0, x1, x2, x3, x4, x5, x6, x7, x8, x9, x10, x11].getD (a % 12) 0 = z at *
  clear hin
  go_enter Tryd.func48, Tryd.ntmps48
  go_wp2
  go_quiet (fail)
  go_wp2
  go_ret
  exact ⟨ret_i64 HV.out.symm, below_drewI ((Below.refl _ _).alloc (Nat.le_refl _) _) _⟩

end Go.Proofs.YtmkopmdeelfmgabDoor
