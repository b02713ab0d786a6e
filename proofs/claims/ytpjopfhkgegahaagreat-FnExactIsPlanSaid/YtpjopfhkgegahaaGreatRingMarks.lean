/- Marks laid into a slice of rings, and looked for again. -/
import Derived.Test.YtpjopfhkgegahaaGreatG2
namespace Go.Proofs.YtpjopfhkgegahaaGreat
open Go.ChangeShapes Go.WideShapes Go.ChangeAt Go.RowKit

def markR (m : Int) (j : Nat) : Rg := (m + 3 * (j : Int), m + 3 * (j : Int) + 1, m + 3 * (j : Int) + 1 + 1)
def marksRTo (rs : List Rg) (m : Int) (k : Nat) : List Rg := (List.range k).map (markR m) ++ rs.drop k
def marksR (m : Int) (n : Nat) : List Rg := (List.range n).map (markR m)
theorem marksR_len (m : Int) (n : Nat) : (marksR m n).length = n := by simp [marksR]
theorem marksRTo_len (rs : List Rg) (m : Int) (k : Nat) (h : k ≤ rs.length) : (marksRTo rs m k).length = rs.length := by simp [marksRTo]; omega
theorem marksR_get (m : Int) (n j : Nat) (h : j < n) : (marksR m n).getD j zR = markR m j := by simp [marksR, List.getD, h]
theorem marksR_next (rs : List Rg) (m : Int) (k : Nat) (h : k < rs.length) : (marksRTo rs m k).set k (markR m k) = marksRTo rs m (k + 1) := by
  unfold marksRTo
  rw [List.drop_eq_getElem_cons h, List.range_succ, List.map_append, List.set_append_right _ _ (by simp), List.length_map, List.length_range, Nat.sub_self, List.set_cons_zero, List.append_assoc]
  rfl
theorem gb_refl (w : World) (row : Option Nat) : w.grownBy w row := ⟨rfl, rfl, rfl, Nat.le_refl _, fun _ _ _ => rfl⟩
theorem gb_trans {w w1 w2 : World} {row : Option Nat} (h : w.grownBy w1 row) (h2 : w1.grownBy w2 row) : w.grownBy w2 row :=
  ⟨h2.os.trans h.os, h2.tape.trans h.tape, h2.output.trans h.output, Nat.le_trans h.size h2.size, fun k hk hne => (h2.block k (Nat.lt_of_lt_of_le hk h.size) hne).trans (h.block k hk hne)⟩
theorem gb_set {w wr : World} {g : Nat} (k : Nat) (u : Value) (h : w.grownBy wr (some g)) : w.grownBy (wr.setCell ⟨g, k, none⟩ u) (some g) :=
  ⟨h.os, h.tape, h.output, by simpa using h.size, fun b hb hne => (Below.heap_setCell _ _ _ _ (by intro e; exact hne (by simp only at e; rw [e]))).trans (h.block b hb hne)⟩
theorem gb_below {w w' : World} {B : Nat} {row : Option Nat} (h : w.grownBy w' row) (hB : B ≤ w.heap.size) (hr : ∀ k, row = some k → B ≤ k) : Below B w w' :=
  ⟨h.os, h.tape, h.output, h.size, fun k hk => h.block k (by omega) (fun e => by have := hr k e.symm; omega)⟩
theorem gb_of_below {w w' : World} {row : Option Nat} (h : Below w.heap.size w w') : w.grownBy w' row := ⟨h.os, h.tape, h.output, h.size, fun k hk _ => h.block k hk⟩
end Go.Proofs.YtpjopfhkgegahaaGreat
