/- ReadList: what is read; the reference model's walk. -/
import Derived.Test.YtblkbjeongmgdaaGreatDoorSplitSpecP
import Derived.Test.YtblkbjeongmgdaaGreatDoorInts
import Derived.Test.YtblkbjeongmgdaaGreatDoorNumImpl
namespace Go.Proofs.YtblkbjeongmgdaaGreatDoor
open Go.ChangeShapes Go.WideShapes Go.ChangeAt Go.RowKit

theorem bytes_same {a b : ByteArray} (h : a.data.toList = b.data.toList) : a = b := by
  cases a; cases b; congr 1; exact Array.toList_inj.1 h

def numIn (p : List UInt8) : Option Int := (specNum p).bind fun v => if inB v (-1000000000000) 1000000000000 = true then some v else none
def numsOf : List (List UInt8) → Option (List Int)
  | [] => some []
  | p :: r => (numIn p).bind fun v => (numsOf r).map (v :: ·)
def readV (l : List UInt8) : Option (List Int) := if l = [45] then some [] else if 64 < (splitL 44 l).length then none else numsOf (splitL 44 l)

theorem nums_some : ∀ (ps : List (List UInt8)) (zs : List Int), zs.length = ps.length → (∀ j, j < ps.length → numIn (ps.getD j []) = some (zs.getD j 0)) → numsOf ps = some zs
  | [], zs, h, _ => by
    have : zs = [] := List.eq_nil_of_length_eq_zero h
    subst this; rfl
  | p :: r, [], h, _ => by simp at h
  | p :: r, z :: zs, h, ha => by
    have h0 := ha 0 (by simp)
    have ih := nums_some r zs (by simpa using h) (fun j hj => by have := ha (j + 1) (by simp; omega); simpa using this)
    simp only [List.getD_cons_zero] at h0
    rw [numsOf, h0, ih]; rfl
theorem nums_none : ∀ (ps : List (List UInt8)) (k : Nat), k < ps.length → numIn (ps.getD k []) = none → numsOf ps = none
  | [], k, h, _ => by simp at h
  | p :: r, 0, _, h0 => by simp only [List.getD_cons_zero] at h0; rw [numsOf, h0]; rfl
  | p :: r, k + 1, h, h0 => by
    rw [numsOf, nums_none r k (by simpa using h) (by simpa using h0)]
    cases numIn p <;> rfl
theorem numIn_no {q : ByteArray} (h : numOk q = false) : numIn q.data.toList = none := by
  unfold numOk at h; unfold numIn
  cases hs : specNum q.data.toList with
  | none => rfl
  | some v => rw [hs] at h; cases h
theorem numIn_out {q : ByteArray} (h : inB (numV q) (-1000000000000) 1000000000000 = false) : numIn q.data.toList = none := by
  unfold numV at h; unfold numIn
  cases hs : specNum q.data.toList with
  | none => rfl
  | some v => rw [hs] at h; simp only [Option.getD_some] at h; simp [h]
theorem numIn_yes {q : ByteArray} (h : inB (numV q) (-1000000000000) 1000000000000 = true) (ho : numOk q = true) : numIn q.data.toList = some (numV q) := by
  unfold numOk at ho; unfold numV at h ⊢; unfold numIn
  cases hs : specNum q.data.toList with
  | none => rw [hs] at ho; cases ho
  | some v => rw [hs] at h; simp only [Option.getD_some] at h ⊢; simp [h]
theorem map_getD (ps : List ByteArray) (k : Nat) (h : k < ps.length) : (ps.map (·.data.toList)).getD k [] = (ps.getD k ByteArray.empty).data.toList := by
  simp [List.getD, h]
theorem part_size {s : ByteArray} {c : UInt8} {ps : List ByteArray} (h : ps.map (·.data.toList) = splitL c s.data.toList) (k : Nat) (hk : k < ps.length) : (ps.getD k ByteArray.empty).size ≤ s.size := by
  have hm : (ps.getD k ByteArray.empty).data.toList ∈ splitL c s.data.toList := by
    rw [← h, ← map_getD ps k hk, List.getD_eq_getElem?_getD, List.getElem?_eq_getElem (by simpa using hk)]
    exact List.getElem_mem _
  have := splitL_part c _ _ hm
  rw [size_list, size_list] at this
  exact this
theorem strs_cell {w : World} {B g cap n : Nat} {ss : List ByteArray} (hn : ss.length = n) (hown : w.ownsRow B 9 1 (.slice (some ⟨g, 0, none⟩) n cap) n (strVs ss)) (j : Nat) (hj : j < n) : w.cell? ⟨g, j, none⟩ = some (.string (ss.getD j ByteArray.empty)) := by
  rw [hown.cellAt j (by omega)]
  simp [strVs, List.getD, show j < ss.length by omega]
theorem ints_snoc (zs : List Int) (z : Int) : i64s (zs ++ [z]) = i64s zs ++ [.int .i64 z] := by simp [i64s]
theorem snoc_get (zs : List Int) (z : Int) (j : Nat) (h : j < zs.length) : (zs ++ [z]).getD j 0 = zs.getD j 0 := by
  rw [List.getD_eq_getElem?_getD, List.getD_eq_getElem?_getD, List.getElem?_append_left h]
theorem snoc_last (zs : List Int) (z : Int) : (zs ++ [z]).getD zs.length 0 = z := by
  rw [List.getD_eq_getElem?_getD, List.getElem?_append_right (Nat.le_refl _)]; simp

/-- What a reading of a list answers. -/
def ReadPost (s : ByteArray) (w : World) (e : Ending) (w' : World) : Prop := Below w.heap.size w w' ∧
  ((readV s.data.toList = none ∧ e = .returned (.tuple #[.slice none 0 0, .bool false])) ∨ ∃ zs v, readV s.data.toList = some zs ∧ zs.length ≤ 64 ∧ e = .returned (.tuple #[v, .bool true]) ∧ OwnInts w' w.heap.size v zs)
theorem row_base {w : World} {B B' : Nat} {e : TypeId} {v : Value} {n : Nat} {xs : List Value} (h : w.ownsRow B e 1 v n xs) (hB : B' ≤ B) : w.ownsRow B' e 1 v n xs := by
  obtain ⟨h1, h2 | ⟨g, cap, cur, h3, h4, h5⟩⟩ := h
  · exact ⟨h1, .inl h2⟩
  · exact ⟨h1, .inr ⟨g, cap, cur, h3, Nat.le_trans hB h4, h5⟩⟩
theorem own_of_row {w : World} {B g cap n : Nat} {zs : List Int} (hn : zs.length = n) (h : w.ownsRow B 2 1 (.slice (some ⟨g, 0, none⟩) n cap) n (i64s zs)) : OwnInts w B (.slice (some ⟨g, 0, none⟩) n cap) zs := by
  subst hn
  have hlt := h.lt g rfl
  exact ⟨g, cap, rfl, hlt.1, hlt.2, h⟩
theorem minus_list {s : ByteArray} (h : s = ⟨#[45]⟩) : s.data.toList = [45] := by subst h; rfl

end Go.Proofs.YtblkbjeongmgdaaGreatDoor
