/- Slices of int64 as lists of numbers: a copy of one; two compared. -/
import Derived.Test.YtjicnfgpbbganabDoorWithin
import Derived.Test.YtjicnfgpbbganabDoorLaidOut
import Derived.Laws.AppendOwn
import Derived.OwnWalk
import Derived.Deep.QuietTactic
import Derived.BigQuiet
import Derived.ChangeSlices
import Derived.Carry
import Derived.Laws.IdiomAt
namespace Go.Proofs.YtjicnfgpbbganabDoor
open Go.ChangeShapes Go.WideShapes Go.ChangeAt Go.RowKit

theorem infoI64 : (Tryd.prog.info? 2).map (fun i => (i.zero, i.size, i.bytes)) = some (some (.int .i64 0), 1, 8) := by kernel_rfl
def i64s (zs : List Int) : List Value := zs.map (Value.int .i64)
theorem i64s_get (zs : List Int) (j : Nat) (h : j < zs.length) : (i64s zs)[j]? = some (.int .i64 (zs.getD j 0)) := by simp [i64s, List.getD, h]

/-- The slice v reads as zs. -/
def IntsAt (w : World) (v : Value) (zs : List Int) : Prop :=
  zs.length ≤ 1048576 ∧ ((∃ a c, v = .slice a 0 c ∧ zs = []) ∨ ∃ b off cap, v = .slice (some ⟨b, off, none⟩) zs.length cap ∧ b < w.heap.size ∧ ∀ j, j < zs.length → w.cell? ⟨b, off + j, none⟩ = some (.int .i64 (zs.getD j 0)))
/-- .. in a block of its own, from B on, that may be written. -/
def OwnInts (w : World) (B : Nat) (v : Value) (zs : List Int) : Prop := ∃ g cap, v = .slice (some ⟨g, 0, none⟩) zs.length cap ∧ B ≤ g ∧ g < w.heap.size ∧ w.ownsRow B 2 1 v zs.length (i64s zs)

theorem ints_kept {w w' : World} {v : Value} {zs : List Int} (hb : Below w.heap.size w w') (h : IntsAt w v zs) : IntsAt w' v zs := by
  obtain ⟨hl, h | ⟨b, off, cap, rfl, hlt, hc⟩⟩ := h
  · exact ⟨hl, .inl h⟩
  · exact ⟨hl, .inr ⟨b, off, cap, rfl, by have := hb.size; omega, fun j hj => by rw [hb.cell (p := ⟨b, off + j, none⟩) hlt]; exact hc j hj⟩⟩
theorem own_ints {w : World} {B : Nat} {v : Value} {zs : List Int} (hl : zs.length ≤ 1048576) (h : OwnInts w B v zs) : IntsAt w v zs := by
  obtain ⟨g, cap, rfl, _, hg, hown⟩ := h
  refine ⟨hl, .inr ⟨g, 0, cap, rfl, hg, fun j hj => ?_⟩⟩
  rw [Nat.zero_add, hown.cellAt j (by omega)]
  exact i64s_get zs j hj
theorem own_kept {w w' : World} {B : Nat} {v : Value} {zs : List Int} (hb : Below w.heap.size w w') (h : OwnInts w B v zs) : OwnInts w' B v zs := by
  obtain ⟨g, cap, rfl, h1, h2, hown⟩ := h
  have hs := hb.size
  exact ⟨g, cap, rfl, h1, by omega, hown.kept (row := none) ⟨hb.os, hb.tape, hb.output, hb.size, fun k hk _ => hb.block k hk⟩ (.inr (by simp [Value.ownBlock]))⟩

/-- What the copy holds after k rounds. -/
def copied (zs : List Int) (k : Nat) : List Int := zs.take k ++ List.replicate (zs.length - k) 0
theorem copied_len (zs : List Int) (k : Nat) (h : k ≤ zs.length) : (copied zs k).length = zs.length := by simp [copied]; omega
theorem copied_next (zs : List Int) (k : Nat) (h : k < zs.length) : (i64s (copied zs k)).set k (.int .i64 (zs.getD k 0)) = i64s (copied zs (k + 1)) := by
  unfold copied i64s
  rw [show zs.length - k = zs.length - (k + 1) + 1 from by omega, List.replicate_succ, List.map_append, List.map_cons, List.set_append_right _ _ (by simp; omega), List.length_map, List.length_take,
    Nat.min_eq_left (by omega), Nat.sub_self, List.set_cons_zero, List.take_succ_eq_append_getElem h, List.map_append, List.map_append]
  simp [List.getD, h]
theorem made_ints (n : Nat) : (madeCells (Value.int .i64 0).cells (n * 1)).toList = i64s (List.replicate n 0) := by
  unfold madeCells i64s
  rw [List.map_replicate, Nat.mul_one]
  apply List.ext_getElem?
  intro j
  by_cases h : j < n
  · simp [h, Value.cells, Nat.mod_one]
  · simp [h]

theorem own_cells {w : World} {B g cap n : Nat} {zs : List Int} (hn : zs.length = n) (hown : w.ownsRow B 2 1 (.slice (some ⟨g, 0, none⟩) n cap) n (i64s zs)) : ∀ j, j < n → w.cell? ⟨g, 0 + j, none⟩ = some (.int .i64 (zs.getD j 0)) := by
  intro j hj
  rw [Nat.zero_add, hown.cellAt j (by omega)]
  exact i64s_get zs j (by omega)
end Go.Proofs.YtjicnfgpbbganabDoor
