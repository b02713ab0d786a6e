/- RemoveRing: the program's walk. -/
import Derived.Test.YtojkijcdfnfnlabWithI
set_option linter.unusedVariables false
namespace Go.Proofs.Ytojkijcdfnfnlab
open Go.ChangeShapes Go.WideShapes Go.ChangeAt Go.RowKit

def remC (s : ByteArray) (rs : List Rg) (k : Int) : Int := if profB s rs = true then (if inB k 0 (rs.length - 1) = true then resC s (remR rs k.toNat) else 2) else 1
def remL (rs : List Rg) (k : Int) : List Rg := remR rs k.toNat
theorem remC_1 {s : ByteArray} {rs : List Rg} {k : Int} (h : profB s rs = false) : remC s rs k = 1 := by unfold remC; rw [h]; rfl
theorem remC_2 {s : ByteArray} {rs : List Rg} {k : Int} (h : profB s rs = true) (h2 : inB k 0 (rs.length - 1) = false) : remC s rs k = 2 := by unfold remC; rw [if_pos h, h2]; rfl
theorem remC_3 {s : ByteArray} {rs : List Rg} {k : Int} (h : profB s rs = true) (h2 : inB k 0 (rs.length - 1) = true) : remC s rs k = resC s (remR rs k.toNat) := by unfold remC; rw [if_pos h, if_pos h2]
theorem k2_below {w w' : World} {b : Nat} {u v : Value} (hS : w.cell? ⟨b, 0, none⟩ = some u ∧ w.cell? ⟨b, 1, none⟩ = some v) (hz : b < w.heap.size) (hb : Below w.heap.size w w') : w'.cell? ⟨b, 0, none⟩ = some u ∧ w'.cell? ⟨b, 1, none⟩ = some v :=
  ⟨(below_cell hb _ _ hz).trans hS.1, (below_cell hb _ _ hz).trans hS.2⟩
theorem k2_gb {w w' : World} {b : Nat} {u v : Value} {row : Option Nat} (hS : w.cell? ⟨b, 0, none⟩ = some u ∧ w.cell? ⟨b, 1, none⟩ = some v) (hz : b < w.heap.size) (hb : w.grownBy w' row) (hne : some b ≠ row) : w'.cell? ⟨b, 0, none⟩ = some u ∧ w'.cell? ⟨b, 1, none⟩ = some v :=
  ⟨(gb_cell hb _ _ hz hne).trans hS.1, (gb_cell hb _ _ hz hne).trans hS.2⟩
theorem k2_set2 {w : World} {b b2 : Nat} {u v x y : Value} (hS : w.cell? ⟨b, 0, none⟩ = some u ∧ w.cell? ⟨b, 1, none⟩ = some v) (hne : b ≠ b2) : ((w.setCell ⟨b2, 0, none⟩ x).setCell ⟨b2, 1, none⟩ y).cell? ⟨b, 0, none⟩ = some u ∧ ((w.setCell ⟨b2, 0, none⟩ x).setCell ⟨b2, 1, none⟩ y).cell? ⟨b, 1, none⟩ = some v := by
  have e : ∀ (w : World) (k j : Nat) (z : Value), (w.setCell ⟨b2, k, none⟩ z).cell? ⟨b, j, none⟩ = w.cell? ⟨b, j, none⟩ := fun w k j z => World.cell?_of_block (Below.heap_setCell _ _ _ _ hne)
  exact ⟨by rw [e, e]; exact hS.1, by rw [e, e]; exact hS.2⟩
theorem blankP_gb {w w' : World} {g : Nat} {row : Option Nat} (hb : w.grownBy w' row) (hg : g < w.heap.size) (hne : some g ≠ row) (h : BlankP w g) : BlankP w' g := by
  have e : w'.heap[g]? = w.heap[g]? := hb.block g hg hne
  exact ⟨⟨(World.cell?_of_block e).trans h.1.1, (World.cell?_of_block e).trans h.1.2⟩, (World.frozen?_of_block e).trans h.2.1, (World.frozen?_of_block e).trans h.2.2⟩
theorem rings_of_row {w : World} {g m cap : Nat} {X : List Value} {l : List Rg} (h : RowAt w g X) (ht : X.take (m * 3) = i64s (flat l)) (hm : l.length = m) (h64 : m ≤ 1048576) : RingsAt w (.slice (some ⟨g, 0, none⟩) m cap) l := by
  refine ⟨by omega, .inr ⟨g, 0, cap, by rw [hm], rowAt_lt h, fun j hj => ?_⟩⟩
  rw [Nat.zero_add, rowAt_cell h]
  have h2 := i64s_get (flat l) j (by rw [flat_len]; exact hj)
  rw [← ht, List.getElem?_take] at h2
  split at h2
  · exact h2
  · cases h2
theorem ownR_set2 {w : World} {B : Nat} {v : Value} {zs : List Rg} (h : OwnRings w B v zs) (b : Nat) (x y : Value) (hne : ∀ g o n c, v = .slice (some ⟨g, o, none⟩) n c → b ≠ g) : OwnRings ((w.setCell ⟨b, 0, none⟩ x).setCell ⟨b, 1, none⟩ y) B v zs := by
  obtain ⟨g, cap, rfl, h1, h2, hown⟩ := h
  have hne := hne g 0 _ _ rfl
  have e : ∀ (w : World) (k : Nat) (z : Value), w.grownBy (w.setCell ⟨b, k, none⟩ z) (some b) := fun w k z => gb_set _ _ (gb_refl w (some b))
  refine ⟨g, cap, rfl, h1, by simpa using h2, (hown.kept (e _ _ _) (.inr ?_)).kept (e _ _ _) (.inr ?_)⟩ <;> simp [Value.ownBlock] <;> omega
end Go.Proofs.Ytojkijcdfnfnlab
