/- What the parts of a text are read as: the answer of the program's readParts at numbers. -/
import Derived.Test.YtblkbjeongmgdaaGreatDoorInts
import Derived.Test.YtblkbjeongmgdaaGreatDoorSplitMath
import Derived.Test.YtblkbjeongmgdaaGreatDoorNumImpl
namespace Go.Proofs.YtblkbjeongmgdaaGreatDoor
open Go.ChangeShapes Go.WideShapes Go.ChangeAt Go.RowKit

theorem listP_size (s : ByteArray) : s.data.toList.length = s.size := by cases s; rfl
/-- All parts of s between separators c are read by rd, and there are no more than m of them; or none is answered. -/
def PartsPost (rd : ByteArray → Option Int) (c : UInt8) (m : Nat) (s : ByteArray) (w : World) (e : Ending) (w' : World) : Prop := Below w.heap.size w w' ∧
  ((e = .returned (.tuple #[.slice none 0 0, .bool false]) ∧ (m < (splitL c s.data.toList).length ∨ ∃ (ps : List ByteArray) (k : Nat), ps.map (·.data.toList) = splitL c s.data.toList ∧ k < ps.length ∧ rd (ps.getD k ByteArray.empty) = none)) ∨
   ∃ (ps : List ByteArray) (zs : List Int) (v : Value), ps.map (·.data.toList) = splitL c s.data.toList ∧ ps.length ≤ m ∧ zs.length = ps.length ∧ (∀ j, j < ps.length → rd (ps.getD j ByteArray.empty) = some (zs.getD j 0)) ∧ e = .returned (.tuple #[v, .bool true]) ∧ OwnInts w' w.heap.size v zs)
def filledP (zs : List Int) (n : Nat) : List Int := zs ++ List.replicate (n - zs.length) 0
theorem filledP_next (zs : List Int) (n k : Nat) (z : Int) (hk : zs.length = k) (h : k < n) : (i64s (filledP zs n)).set k (.int .i64 z) = i64s (filledP (zs ++ [z]) n) := by
  unfold filledP i64s
  rw [List.length_append, List.length_singleton, hk, show n - k = n - (k + 1) + 1 from by omega, List.replicate_succ, List.map_append, List.map_cons, List.set_append_right _ _ (by simp [hk]), List.length_map, hk, Nat.sub_self, List.set_cons_zero]
  simp
theorem filledP_get (zs : List Int) (n k : Nat) (hk : zs.length = k) (h : k < n) : ∃ old, (i64s (filledP zs n))[k]? = some (.int .i64 old) := by
  refine ⟨(filledP zs n).getD k 0, i64s_get _ k ?_⟩
  unfold filledP
  rw [List.length_append, List.length_replicate]; omega
theorem mapP_getD (ps : List ByteArray) (k : Nat) (h : k < ps.length) : (ps.map (·.data.toList)).getD k [] = (ps.getD k ByteArray.empty).data.toList := by
  simp [List.getD, h]
theorem partP_size {s : ByteArray} {c : UInt8} {ps : List ByteArray} (h : ps.map (·.data.toList) = splitL c s.data.toList) (k : Nat) (hk : k < ps.length) : (ps.getD k ByteArray.empty).size ≤ s.size := by
  have hm : (ps.getD k ByteArray.empty).data.toList ∈ splitL c s.data.toList := by
    rw [← h, ← mapP_getD ps k hk, List.getD_eq_getElem?_getD, List.getElem?_eq_getElem (by simpa using hk)]
    exact List.getElem_mem _
  have := splitL_part c _ _ hm
  rw [listP_size, listP_size] at this
  exact this
theorem snocP_get (zs : List Int) (z : Int) (j : Nat) (h : j < zs.length) : (zs ++ [z]).getD j 0 = zs.getD j 0 := by
  rw [List.getD_eq_getElem?_getD, List.getD_eq_getElem?_getD, List.getElem?_append_left h]
theorem snocP_last (zs : List Int) (z : Int) (j : Nat) (h : zs.length = j) : (zs ++ [z]).getD j 0 = z := by
  rw [← h, List.getD_eq_getElem?_getD, List.getElem?_append_right (Nat.le_refl _)]; simp
theorem rowP_keep {w w' : World} {B sz : Nat} {e : TypeId} {v : Value} {n : Nat} {xs : List Value} (hb : Below w.heap.size w w') (h : w.ownsRow B e sz v n xs) : w'.ownsRow B e sz v n xs :=
  h.kept (row := none) ⟨hb.os, hb.tape, hb.output, hb.size, fun k hk _ => hb.block k hk⟩ (by cases hv : v.ownBlock <;> simp)
theorem rowP_base {w : World} {B B' : Nat} {e : TypeId} {v : Value} {n : Nat} {xs : List Value} (h : w.ownsRow B e 1 v n xs) (hB : B' ≤ B) : w.ownsRow B' e 1 v n xs := by
  obtain ⟨h1, h2 | ⟨g, cap, cur, h3, h4, h5⟩⟩ := h
  · exact ⟨h1, .inl h2⟩
  · exact ⟨h1, .inr ⟨g, cap, cur, h3, Nat.le_trans hB h4, h5⟩⟩
theorem ownP_row {w : World} {B g cap n : Nat} {zs : List Int} (hn : zs.length = n) (h : w.ownsRow B 2 1 (.slice (some ⟨g, 0, none⟩) n cap) n (i64s zs)) : OwnInts w B (.slice (some ⟨g, 0, none⟩) n cap) zs := by
  subst hn
  have hlt := h.lt g rfl
  exact ⟨g, cap, rfl, hlt.1, hlt.2, h⟩
end Go.Proofs.YtblkbjeongmgdaaGreatDoor
