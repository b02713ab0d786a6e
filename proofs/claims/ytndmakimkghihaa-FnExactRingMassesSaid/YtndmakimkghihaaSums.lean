/- Sums over the rings of a profile: the program's sumOf, once for each function that is handed in. -/
import Derived.Test.YtndmakimkghihaaLip
import Derived.Test.YtndmakimkghihaaProf
import Derived.Test.YtndmakimkghihaaMassRing2
import Derived.Deep.QuietTactic
set_option linter.unusedVariables false
namespace Go.Proofs.Ytndmakimkghihaa
open Go.ChangeShapes Go.WideShapes Go.ChangeAt Go.RowKit Go.Shelf
attribute [local go_sem] Oper.semAt_some encPl

def sumPl (f : Pl → Int) : List Pl → Int
  | [] => 0
  | x :: xs => f x + sumPl f xs
theorem sumPl_append (f : Pl → Int) (xs ys : List Pl) : sumPl f (xs ++ ys) = sumPl f xs + sumPl f ys := by
  induction xs with
  | nil => simp [sumPl]
  | cons x xs ih => simp only [List.cons_append, sumPl, ih, Int.add_assoc]
theorem sumPl_snoc (f : Pl → Int) (xs : List Pl) (x : Pl) : sumPl f (xs ++ [x]) = sumPl f xs + f x := by rw [sumPl_append]; simp [sumPl]
theorem sumPl_bd (f : Pl → Int) (M : Int) (hf : ∀ x, 0 ≤ f x ∧ f x ≤ M) (xs : List Pl) : 0 ≤ sumPl f xs ∧ sumPl f xs ≤ M * xs.length := by
  induction xs with
  | nil => simp [sumPl]
  | cons x xs ih =>
    have := hf x
    have e : M * (((x :: xs).length : Nat) : Int) = M * xs.length + M := by rw [List.length_cons, Int.natCast_add, Int.mul_add]; simp
    simp only [sumPl]; omega
theorem sumPl_upto (g : Int → Rg → Int) (rs : List Rg) (u : Nat → Pl) (hu : ∀ j, j < rs.length → (u j).1 = (heights (rs.take j), rs.getD j zR)) (k : Nat) (hk : k ≤ rs.length) : sumPl (fun x => g x.1.1 x.1.2) (upto u k) = sumF g 0 (rs.take k) := by
  induction k with
  | zero => simp [upto, sumPl, sumF]
  | succ k ih => rw [upto_succ, sumPl_snoc, ih (by omega), sumF_next g rs k (by omega), hu k (by omega)]
theorem cellNew (W : World) (v : Value) (t : TypeId) : (W.alloc (.cells #[v] t)).cell? ⟨W.heap.size, 0, none⟩ = some v ∧ (W.alloc (.cells #[v] t)).frozen? ⟨W.heap.size, 0, none⟩ = false := ⟨by go_simp, by go_simp⟩
theorem cellAl {W : World} {a : Addr} {v : Value} (o : Obj) (h : W.cell? a = some v) : (W.alloc o).cell? a = some v := cell_kept h (World.grownBy_alloc W o none) (fun r e => by cases e)
theorem frozenAl {W : World} {a : Addr} {v : Value} (o : Obj) (h : W.cell? a = some v) (hf : W.frozen? a = false) : (W.alloc o).frozen? a = false := (frozen_kept h (World.grownBy_alloc W o none) (fun r e => by cases e)).trans hf
theorem below_dr6 {B : Nat} {w W : World} (h : Below B w W) : Below B w W.drew := h.trans ⟨rfl, rfl, rfl, Nat.le_refl _, fun _ _ => rfl⟩
theorem keeps_below {W W' : World} (h : Below W.heap.size W W') : KeepsOthers W W' := ⟨h.size, fun k o hk _ => (h.block k (Array.getElem?_eq_some_iff.1 hk).1).trans hk⟩
end Go.Proofs.Ytndmakimkghihaa
