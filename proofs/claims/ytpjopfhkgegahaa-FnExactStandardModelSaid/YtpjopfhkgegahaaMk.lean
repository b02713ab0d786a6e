/- What marks change: the blocks from l up to u. What lies elsewhere stays. -/
import Derived.Test.YtpjopfhkgegahaaIntRes
namespace Go.Proofs.Ytpjopfhkgegahaa
open Go.ChangeShapes Go.WideShapes Go.ChangeAt Go.RowKit

structure Mk (l u : Nat) (w w' : World) : Prop where
  os : w'.os = w.os
  tape : w'.tape = w.tape
  output : w'.output = w.output
  size : w.heap.size ≤ w'.heap.size
  block : ∀ k, k < w.heap.size → (k < l ∨ u ≤ k) → w'.heap[k]? = w.heap[k]?
theorem mk_refl (l u : Nat) (w : World) : Mk l u w w := ⟨rfl, rfl, rfl, Nat.le_refl _, fun _ _ _ => rfl⟩
theorem mk_trans {l u : Nat} {w w1 w2 : World} (h : Mk l u w w1) (k : Mk l u w1 w2) : Mk l u w w2 :=
  ⟨k.os.trans h.os, k.tape.trans h.tape, k.output.trans h.output, Nat.le_trans h.size k.size, fun i hi ho => (k.block i (Nat.lt_of_lt_of_le hi h.size) ho).trans (h.block i hi ho)⟩
theorem mk_of_grown {l u : Nat} {w w' : World} {row : Option Nat} (h : w.grownBy w' row) (hr : ∀ k, row = some k → l ≤ k ∧ k < u) : Mk l u w w' :=
  ⟨h.os, h.tape, h.output, h.size, fun k hk ho => h.block k hk (fun e => by have := hr k e.symm; omega)⟩
theorem mk_of_below {l u : Nat} {w w' : World} (h : Below w.heap.size w w') : Mk l u w w' := ⟨h.os, h.tape, h.output, h.size, fun k hk _ => h.block k hk⟩
theorem mk_below {l u B : Nat} {w w' : World} (h : Mk l u w w') (hB : B ≤ w.heap.size) (hl : B ≤ l) : Below B w w' :=
  ⟨h.os, h.tape, h.output, h.size, fun k hk => h.block k (by omega) (by omega)⟩
theorem mk_cell {l u : Nat} {w w' : World} (h : Mk l u w w') (b o : Nat) (hb : b < w.heap.size) (ho : b < l ∨ u ≤ b) : w'.cell? ⟨b, o, none⟩ = w.cell? ⟨b, o, none⟩ := World.cell?_of_block (h.block b hb ho)
theorem row_blk {w w' : World} {B sz : Nat} {e : TypeId} {v : Value} {n : Nat} {xs : List Value} (h : w.ownsRow B e sz v n xs) (hb : ∀ k, v.ownBlock = some k → w'.heap[k]? = w.heap[k]?) : w'.ownsRow B e sz v n xs := by
  refine ⟨h.1, ?_⟩
  rcases h.2 with hn | ⟨g, cap, cur, rfl, hB, hgg, rest⟩
  · exact .inl hn
  · exact .inr ⟨g, cap, cur, rfl, hB, (hb g rfl).trans hgg, rest⟩
theorem row_apart {w : World} {B B' sz sz' : Nat} {e e' : TypeId} {v v' : Value} {n n' : Nat} {xs xs' : List Value} (h : w.ownsRow B e sz v n xs) (h' : w.ownsRow B' e' sz' v' n' xs') (hne : e ≠ e') (g : Nat) (hg : v.ownBlock = some g) : v'.ownBlock ≠ some g := by
  intro hg'
  rcases h.2 with ⟨rfl, -⟩ | ⟨g1, cap, cur, rfl, hB, hgg, rest⟩
  · simp [Value.ownBlock] at hg
  rcases h'.2 with ⟨rfl, -⟩ | ⟨g2, cap2, cur2, rfl, hB2, hgg2, rest2⟩
  · simp [Value.ownBlock] at hg'
  simp only [Value.ownBlock, Option.some.injEq] at hg hg'
  subst hg; subst hg'
  rw [hgg] at hgg2
  simp only [Option.some.injEq, Obj.cells.injEq] at hgg2
  exact hne hgg2.2.1
theorem iv_mk {l u B B' U' : Nat} {w w' : World} {v : Value} {zs : List Int} (hg : Mk l u w w') (h : Iv w B v zs) (hin : ∀ k, v.ownBlock = some k → B' ≤ k ∧ k < U') (ho : U' ≤ l ∨ u ≤ B') : Iv w' B v zs := by
  rcases h with h | ⟨g, cap, T, rfl, h2, h4⟩
  · exact .inl h
  · exact .inr ⟨g, cap, T, rfl, h2, row_blk h4 (fun k hk => hg.block k (h4.lt k hk).2 (by have := hin k hk; omega))⟩
theorem rv_mk {l u B B' U' : Nat} {w w' : World} {v : Value} {zs : List Rg} (hg : Mk l u w w') (h : Rv w B v zs) (hin : ∀ k, v.ownBlock = some k → B' ≤ k ∧ k < U') (ho : U' ≤ l ∨ u ≤ B') : Rv w' B v zs := by
  rcases h with h | ⟨g, cap, rfl, h2, h4⟩
  · exact .inl h
  · exact .inr ⟨g, cap, rfl, h2, row_blk h4 (fun k hk => hg.block k (h4.lt k hk).2 (by have := hin k hk; omega))⟩
/-- Ranges apart from one another, as facts on blocks. -/
theorem in_range {o : Option Nat} {l u l' u' : Nat} (h : ∀ k, o = some k → l ≤ k ∧ k < u) (h1 : l' ≤ l) (h2 : u ≤ u') : ∀ k, o = some k → l' ≤ k ∧ k < u' := fun k hk => by have := h k hk; omega
end Go.Proofs.Ytpjopfhkgegahaa
