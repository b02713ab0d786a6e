/- The rings from the lip upwards: the program's iterator, for every loop body. -/
import Derived.RangeFuncFrom
import Derived.RangeFuncCalls
import Derived.RangeFuncLeaves
import Derived.RangeFuncNested
import Derived.Shelf.Abstract
import Derived.Shelf.RegionOpen
import Derived.WalkKit
import Derived.OwnWalkIn
import Derived.TacticsInMore
import Derived.LoopNIn
import Derived.LoopIn
import Derived.Test.YtpjopfhkgegahaaGreatG2
import Derived.Test.YtpjopfhkgegahaaGreatMassMath
set_option linter.unusedVariables false
namespace Go.Proofs.YtpjopfhkgegahaaGreat
open Go.ChangeShapes Go.WideShapes Go.ChangeAt Go.RowKit Go.Shelf
attribute [local go_sem] Oper.semAt_some

/-- A valid ring, and where it begins. -/
abbrev Pl := { x : Int × Rg // (0 ≤ x.1 ∧ x.1 ≤ 300000) ∧ ringB x.2 = true }
def encPl (x : Pl) : Array Value := #[.agg #[.int .i64 x.1.2.1, .int .i64 x.1.2.2.1, .int .i64 x.1.2.2.2, .int .i64 x.1.1]]
/-- What has come when k rounds are over. -/
def upto (f : Nat → Pl) (k : Nat) : List Pl := (List.range k).map f
theorem upto_succ (f : Nat → Pl) (k : Nat) : upto f (k + 1) = upto f k ++ [f k] := by simp [upto, List.range_succ]
theorem upto_length (f : Nat → Pl) (k : Nat) : (upto f k).length = k := by simp [upto]
theorem heights_up {rs : List Rg} (h : ∀ i, i < rs.length → ringB (rs.getD i zR) = true) (j d : Nat) (hj : j + d ≤ rs.length) : heights (rs.take j) ≤ heights (rs.take (j + d)) := by
  induction d with
  | zero => simp
  | succ d ih =>
    have h1 := ih (by omega)
    have h2 := heights_next rs (j + d) (by omega)
    have h3 := (ring_iff.1 (h (j + d) (by omega))).2.2.1
    rw [show j + (d + 1) = j + d + 1 by omega, h2]
    omega
theorem heights_le {s : ByteArray} {rs : List Rg} (h : profB s rs = true) (j : Nat) (hj : j ≤ rs.length) : 0 ≤ heights (rs.take j) ∧ heights (rs.take j) ≤ 300000 := by
  obtain ⟨-, ⟨-, n2⟩, -, n3⟩ := prof_iff.1 h
  have hb := heights_bd (fun i hi => prof_ring h i hi) j hj
  have hu := heights_up (fun i hi => prof_ring h i hi) j (rs.length - j) (by omega)
  rw [show j + (rs.length - j) = rs.length by omega, List.take_length] at hu
  omega
theorem pl_ex (s : ByteArray) (rs : List Rg) (h : profB s rs = true) : ∃ f : Nat → Pl, ∀ j, j < rs.length → (f j).1 = (heights (rs.take j), rs.getD j zR) := by
  have hz : ∀ j, j < rs.length → (0 ≤ heights (rs.take j) ∧ heights (rs.take j) ≤ 300000) ∧ ringB (rs.getD j zR) = true := fun j hj => ⟨heights_le h j (by omega), prof_ring h j hj⟩
  refine ⟨fun j => if hj : j < rs.length then ⟨(heights (rs.take j), rs.getD j zR), hz j hj⟩ else ⟨(0, (500, 0, 10)), by decide⟩, fun j hj => ?_⟩
  simp [hj]
/-- All cells lie as they lay, but those of the blocks in X. -/
def KeepCells (X : Nat → Prop) (W W' : World) : Prop := W.heap.size ≤ W'.heap.size ∧ ∀ k o, W.heap[k]? = some o → o.isCells = true → ¬ X k → W'.heap[k]? = some o
theorem kc_refl (X : Nat → Prop) (W : World) : KeepCells X W W := ⟨Nat.le_refl _, fun _ _ h _ _ => h⟩
theorem kc_trans {X : Nat → Prop} {A B C : World} (h : KeepCells X A B) (k : KeepCells X B C) : KeepCells X A C := ⟨Nat.le_trans h.1 k.1, fun b o hb ho hx => k.2 b o (h.2 b o hb ho hx) ho hx⟩
theorem kc_below {X : Nat → Prop} {W W' : World} (h : Below W.heap.size W W') : KeepCells X W W' := ⟨h.size, fun k o hk _ _ => (h.block k (Array.getElem?_eq_some_iff.1 hk).1).trans hk⟩
theorem kc_put {X : Nat → Prop} (W : World) (l : Nat) (o o' : Obj) (hl : W.heap[l]? = some o) (ho : o.isCells = false) : KeepCells X W (W.putObj l o') := by
  refine ⟨by simp, fun k o2 hk hc _ => ?_⟩
  by_cases e : l = k
  · subst e; rw [hl] at hk; cases hk; rw [ho] at hc; cases hc
  · exact (World.putObj_heap_other (Ne.symm e)).trans hk
theorem kc_cell {X : Nat → Prop} {W W' : World} (h : KeepCells X W W') {b o : Nat} {v : Value} (hb : ¬ X b) (hc : W.cell? ⟨b, o, none⟩ = some v) : W'.cell? ⟨b, o, none⟩ = some v := by
  unfold World.cell? at hc ⊢
  cases hh : W.heap[b]? with
  | none => rw [hh] at hc; simp at hc
  | some ob =>
    have hoc : ob.isCells = true := by
      rw [hh] at hc
      cases ob <;> simp_all [Obj.isCells]
    rw [h.2 b ob hh hoc hb]
    rw [hh] at hc
    exact hc
theorem kc_set {X : Nat → Prop} (W : World) (b o : Nat) (v : Value) (hb : X b) : KeepCells X W (W.setCell ⟨b, o, none⟩ v) := by
  refine ⟨by simp, fun k ob hk _ hx => ?_⟩
  rw [Below.heap_setCell _ _ _ _ (by intro e; exact hx (by simp only at e; rw [e]; exact hb))]
  exact hk
end Go.Proofs.YtpjopfhkgegahaaGreat
