/- Choices out of bytes: what the reference model's source answers, and that a draw changes the source's own block alone. -/
import Derived.Test.YtndmakimkghihabDoorBase
import Derived.Laws.AppendOwn
import Derived.Laws.BitsAllLaws
import Derived.OwnWalk
import Derived.Deep.QuietTactic
import Derived.BigQuiet
namespace Go.Proofs.YtndmakimkghihabDoor
open Go.ChangeShapes Go.WideShapes Go.ChangeAt Go.RowKit

/-- The slice v reads as bytes, in a block below B. -/
def BytesAt (w : World) (B : Nat) (v : Value) : Prop :=
  (∃ a c, v = .slice a 0 c) ∨ ∃ b off n cap : Nat, v = .slice (some ⟨b, off, none⟩) n cap ∧ 0 < n ∧ n ≤ 1048576 ∧ b < B ∧ ∀ j, j < n → ∃ x : Int, 0 ≤ x ∧ x ≤ 255 ∧ w.cell? ⟨b, off + j, none⟩ = some (.int .u8 x)
theorem bytes_grown {w w' : World} {B g : Nat} {v : Value} (hB : B ≤ g) (hg : w.grownBy w' (some g)) (h : BytesAt w B v) : BytesAt w' B v := by
  rcases h with h | ⟨b, off, n, cap, h1, h2, h3, h4, h5⟩
  · exact .inl h
  · refine .inr ⟨b, off, n, cap, h1, h2, h3, h4, fun j hj => ?_⟩
    obtain ⟨x, x0, x1, hx⟩ := h5 j hj
    exact ⟨x, x0, x1, hg.cell hx (by simp; omega)⟩
theorem bytes_below {w w' : World} {B B' : Nat} {v : Value} (hb : Below B w w') (h : BytesAt w B' v) (hB : B' ≤ B) : BytesAt w' B' v := by
  rcases h with h | ⟨b, off, n, cap, h1, h2, h3, h4, h5⟩
  · exact .inl h
  · refine .inr ⟨b, off, n, cap, h1, h2, h3, h4, fun j hj => ?_⟩
    obtain ⟨x, x0, x1, hx⟩ := h5 j hj
    exact ⟨x, x0, x1, by rw [hb.cell (p := ⟨b, off + j, none⟩) (by show b < B; omega)]; exact hx⟩
theorem bytes_more {w : World} {B B' : Nat} {v : Value} (h : BytesAt w B v) (hB : B ≤ B') : BytesAt w B' v := by
  rcases h with h | ⟨b, off, n, cap, h1, h2, h3, h4, h5⟩
  · exact .inl h
  · exact .inr ⟨b, off, n, cap, h1, h2, h3, by omega, h5⟩

/-- The source in block g, after at most k draws. -/
structure SrcIs (w : World) (g k : Nat) (v : Value) (p s : Int) : Prop where
  bytes : BytesAt w g v
  low : 0 ≤ p
  high : p ≤ k
  code : w.cell? ⟨g, 0, none⟩ = some v
  pos : w.cell? ⟨g, 1, none⟩ = some (.int .i64 p)
  seed : w.cell? ⟨g, 2, none⟩ = some (.int .u64 s)
  free1 : w.frozen? ⟨g, 1, none⟩ = false
  free2 : w.frozen? ⟨g, 2, none⟩ = false
def SrcAt (w : World) (g k : Nat) : Prop := ∃ v p s, SrcIs w g k v p s
theorem src_more {w : World} {g k k' : Nat} (h : SrcAt w g k) (hk : k ≤ k') : SrcAt w g k' := by
  obtain ⟨v, p, s, h⟩ := h
  exact ⟨v, p, s, h.bytes, h.low, by have := h.high; omega, h.code, h.pos, h.seed, h.free1, h.free2⟩
theorem src_kept {w w' : World} {g k : Nat} {row : Option Nat} (h : SrcAt w g k) (hg : w.grownBy w' row) (hr : ∀ r, row = some r → g < r) (hlt : g < w.heap.size) : SrcAt w' g k := by
  obtain ⟨v, p, s, h⟩ := h
  have hne : some g ≠ row := fun e => by have := hr g e.symm; omega
  have hf : ∀ o, w'.frozen? ⟨g, o, none⟩ = w.frozen? ⟨g, o, none⟩ := fun o => World.frozen?_of_block (hg.block g hlt hne)
  refine ⟨v, p, s, ?_, h.low, h.high, hg.cell h.code hne, hg.cell h.pos hne, hg.cell h.seed hne, (hf 1).trans h.free1, (hf 2).trans h.free2⟩
  rcases h.bytes with hb | ⟨b, off, n, cap, h1, h2, h3, h4, h5⟩
  · exact .inl hb
  · refine .inr ⟨b, off, n, cap, h1, h2, h3, h4, fun j hj => ?_⟩
    obtain ⟨x, x0, x1, hx⟩ := h5 j hj
    refine ⟨x, x0, x1, hg.cell hx fun e => ?_⟩
    have := hr b e.symm
    omega
theorem cell_lt {w : World} {a : Addr} {v : Value} (h : w.cell? a = some v) : a.block < w.heap.size := by
  unfold World.cell? at h
  cases hh : w.heap[a.block]? with
  | none => rw [hh] at h; simp at h
  | some o => exact (Array.getElem?_eq_some_iff.1 hh).1

theorem grown_set (w : World) (g o : Nat) (v : Value) : w.grownBy (w.setCell ⟨g, o, none⟩ v) (some g) :=
  ⟨rfl, rfl, rfl, by simp, fun k _ hk => Below.heap_setCell _ _ _ _ (by intro e; exact hk (by simp only at e; rw [e]))⟩
theorem grown_trans {a b c : World} {row : Option Nat} (h : a.grownBy b row) (k : b.grownBy c row) : a.grownBy c row :=
  ⟨k.os.trans h.os, k.tape.trans h.tape, k.output.trans h.output, Nat.le_trans h.size k.size, fun i hi hr => (k.block i (Nat.lt_of_lt_of_le hi h.size) hr).trans (h.block i hi hr)⟩
theorem src_step {w : World} {g k k' : Nat} {v : Value} {p s p' s' : Int} (h : SrcIs w g k v p s) (h0 : 0 ≤ p') (h1 : p' ≤ k') :
    SrcAt ((w.setCell ⟨g, 1, none⟩ (.int .i64 p')).setCell ⟨g, 2, none⟩ (.int .u64 s')) g k' ∧ w.grownBy ((w.setCell ⟨g, 1, none⟩ (.int .i64 p')).setCell ⟨g, 2, none⟩ (.int .u64 s')) (some g) := by
  have hg := grown_trans (grown_set w g 1 (.int .i64 p')) (grown_set (w.setCell ⟨g, 1, none⟩ (.int .i64 p')) g 2 (.int .u64 s'))
  have e1 : (w.setCell ⟨g, 1, none⟩ (.int .i64 p')).cell? ⟨g, 2, none⟩ = some (.int .u64 s) := by rw [World.cell?_setCell_other _ _ _ _ (by simp)]; exact h.seed
  refine ⟨⟨v, p', s', bytes_grown (Nat.le_refl g) hg h.bytes, h0, h1, ?_, ?_, World.cell?_setCell_same _ _ _ e1, ?_, ?_⟩, hg⟩
  · rw [World.cell?_setCell_other _ _ _ _ (by simp), World.cell?_setCell_other _ _ _ _ (by simp)]; exact h.code
  · rw [World.cell?_setCell_other _ _ _ _ (by simp)]; exact World.cell?_setCell_same _ _ _ h.pos
  · rw [World.frozen?_setCell, World.frozen?_setCell]; exact h.free1
  · rw [World.frozen?_setCell, World.frozen?_setCell]; exact h.free2

theorem and255 (x : Int) : 0 ≤ bits BinOp.and .u64 x 255 ∧ bits BinOp.and .u64 x 255 ≤ 255 := by
  have h : ((BitVec.ofInt 64 x) &&& (BitVec.ofInt 64 255)).toNat ≤ 255 := by
    rw [BitVec.toNat_and]
    exact Nat.le_trans Nat.and_le_right (by decide)
  have e : bits BinOp.and .u64 x 255 = IntKind.u64.wrap ((((BitVec.ofInt 64 x) &&& (BitVec.ofInt 64 255)).toNat : Nat) : Int) := rfl
  rw [IntKind.wrap_u64] at e
  rw [e]
  omega
end Go.Proofs.YtndmakimkghihabDoor
