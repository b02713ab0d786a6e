/- A melt read back from its text: the mathematics. -/
import Derived.Test.YtjicnfgpbbganabDoorMeltV
import Derived.Test.YtjicnfgpbbganabDoorNumImpl
import Derived.Test.YtjicnfgpbbganabDoorSplitSpecP
set_option linter.unusedVariables false
namespace Go.Proofs.YtjicnfgpbbganabDoor
open Go.ChangeShapes Go.WideShapes Go.ChangeAt Go.RowKit

theorem digit_noM (d : Nat) (h : d < 10) : UInt8.ofNat (48 + d) ≠ 32 := by
  rcases (by omega : d = 0 ∨ d = 1 ∨ d = 2 ∨ d = 3 ∨ d = 4 ∨ d = 5 ∨ d = 6 ∨ d = 7 ∨ d = 8 ∨ d = 9) with rfl | rfl | rfl | rfl | rfl | rfl | rfl | rfl | rfl | rfl <;> decide
theorem dec_noM (u : Nat) : ∀ x ∈ Lib.decDigits u, x ≠ 32 := by
  induction u using Nat.strongRecOn with
  | ind u ih =>
    rw [Lib.decDigits]
    split
    · rename_i h
      intro x hx
      obtain rfl : x = UInt8.ofNat (48 + u) := by simpa using hx
      exact digit_noM u h
    · intro x hx
      rcases List.mem_append.1 hx with hx | hx
      · exact ih _ (by omega) x hx
      · obtain rfl : x = UInt8.ofNat (48 + u % 10) := by simpa using hx
        exact digit_noM _ (by omega)
theorem itoa_noM (n : Int) : ∀ x ∈ Lib.itoa n, x ≠ 32 := by
  unfold Lib.itoa
  split
  · intro x hx
    rcases List.mem_cons.1 hx with rfl | hx
    · decide
    · exact dec_noM _ x hx
  · exact dec_noM _
theorem num_textM {l : List UInt8} {u : Int} (h : specNum l = some u) : Lib.itoa u = l := by
  rw [← impl_spec] at h
  unfold implNum at h
  split at h
  · cases h
  · split at h
    · split at h
      · rename_i h2
        obtain rfl := Option.some.inj h
        exact h2
      · cases h
    · cases h
theorem num_noM {p : ByteArray} (h : (32 : UInt8) ∈ p.data.toList) : numOk p = false := by
  unfold numOk
  cases hs : specNum p.data.toList with
  | none => rfl
  | some u =>
    exfalso
    rw [← num_textM hs] at h
    exact itoa_noM u 32 h rfl
theorem splitK_lastM (c : UInt8) : ∀ (k : Nat) (l : List UInt8), k + 1 < (splitL c l).length → c ∈ (Lib.splitK [c] 0 k l).getD k []
  | 0, l, h => by
    show c ∈ l
    by_cases hc : c ∈ l
    · exact hc
    · rw [splitL_none c l (fun x hx e => hc (e ▸ hx))] at h
      simp at h
  | k + 1, l, h => by
    obtain ⟨h1, h2⟩ := splitL_index c l
    rw [Lib.splitK]
    by_cases hm : Lib.index l [c] = -1
    · rw [h1 hm] at h; simp at h
    · rw [if_neg (by rw [beq_iff_eq]; exact hm)]
      have hge := Lib.index_ge l [c]
      have e := h2 (Lib.index l [c]).toNat (by omega)
      rw [e, List.length_cons] at h
      have ih := splitK_lastM c k (l.drop ((Lib.index l [c]).toNat + 1)) (by omega)
      simpa using ih
/-- The program's division in at most n parts. -/
theorem splitN_is (c : UInt8) (n : Nat) (hn : 1 ≤ n) (l : List UInt8) : ((splitL c l).length ≤ n → Lib.splitK [c] 0 (min n (l.length + 1) - 1) l = splitL c l) ∧ (n < (splitL c l).length → (Lib.splitK [c] 0 (min n (l.length + 1) - 1) l).length = n ∧ c ∈ (Lib.splitK [c] 0 (min n (l.length + 1) - 1) l).getD (n - 1) []) := by
  have hl := splitL_len c l
  obtain ⟨h1, h2⟩ := splitK_spec c (min n (l.length + 1) - 1) l
  refine ⟨fun h => h1 (by omega), fun h => ?_⟩
  have e : min n (l.length + 1) - 1 = n - 1 := by omega
  rw [e] at h2 ⊢
  refine ⟨by rw [h2 (by omega)]; omega, splitK_lastM c (n - 1) l (by omega)⟩
theorem name_no44 {x : ByteArray} (h : (44 : UInt8) ∈ x.data.toList) : nameB x = false := by
  rcases Bool.eq_false_or_eq_true (nameB x) with hc | hc
  · exfalso
    unfold nameB NameP at hc
    have hk := (of_decide_eq_true hc).2.2.2
    obtain ⟨j, hj, he⟩ := List.mem_iff_getElem.1 h
    have hsz : j < x.size := by simpa using hj
    have := hk j hsz
    unfold byteAt okByte at this
    rw [List.getD_eq_getElem?_getD, List.getElem?_eq_getElem hj, Option.getD_some, he] at this
    revert this
    decide
  · exact hc
def toBA (l : List UInt8) : ByteArray := ⟨l.toArray⟩
theorem toBA_list (l : List UInt8) : (toBA l).data.toList = l := by simp [toBA]
theorem texts_eqM {ps : List ByteArray} {ls : List (List UInt8)} (h : ps.map (·.data.toList) = ls) : ps = ls.map toBA := by
  subst h
  rw [List.map_map]
  conv => lhs; rw [← List.map_id ps]
  apply List.map_congr_left
  intro a _
  cases a
  simp [toBA]
/-- What is read out of the Id, the names and the number. -/
def rmC (p0 p2 : ByteArray) (qs : List ByteArray) : Option Mt := if (numOk p2 && meltB p0 qs (numV p2)) = true then some (p0, qs, numV p2) else none
def namesL (p1 : ByteArray) : List ByteArray := (splitL 44 p1.data.toList).map toBA
def rmA (s : ByteArray) : Option Mt := match (splitL 32 s.data.toList).map toBA with | [p0, p1, p2] => rmC p0 p2 (namesL p1) | _ => none
theorem rmC_no {p0 p2 : ByteArray} {qs : List ByteArray} (h : numOk p2 = false) : rmC p0 p2 qs = none := by unfold rmC; rw [h]; rfl
theorem rmC_bad {p0 p2 : ByteArray} {qs : List ByteArray} (h : meltB p0 qs (numV p2) = false) : rmC p0 p2 qs = none := by unfold rmC; rw [h, Bool.and_false]; rfl
theorem rmC_yes {p0 p2 : ByteArray} {qs : List ByteArray} (h : numOk p2 = true) (h2 : meltB p0 qs (numV p2) = true) : rmC p0 p2 qs = some (p0, qs, numV p2) := by unfold rmC; rw [h, h2]; rfl
theorem rmA_three {s p0 p1 p2 : ByteArray} (h : [p0, p1, p2].map (·.data.toList) = splitL 32 s.data.toList) : rmA s = rmC p0 p2 (namesL p1) := by
  unfold rmA
  rw [← texts_eqM h]
theorem rmA_not {s : ByteArray} (h : (splitL 32 s.data.toList).length ≠ 3) : rmA s = none := by
  unfold rmA
  split
  · rename_i e
    exact absurd (by have := congrArg List.length e; simpa using this) h
  · rfl
/-- The program's names, of which the last may hold the rest, are as good. -/
theorem rmC_names {p0 p1 p2 : ByteArray} {qs : List ByteArray} (h : qs.map (·.data.toList) = Lib.splitK [44] 0 (min 16 (p1.data.toList.length + 1) - 1) p1.data.toList) : rmC p0 p2 qs = rmC p0 p2 (namesL p1) := by
  obtain ⟨h1, h2⟩ := splitN_is 44 16 (by omega) p1.data.toList
  by_cases hl : (splitL 44 p1.data.toList).length ≤ 16
  · rw [h1 hl] at h
    rw [texts_eqM h]
    rfl
  · obtain ⟨h3, h4⟩ := h2 (by omega)
    rw [← h] at h3 h4
    rw [List.length_map] at h3
    have hb1 : meltB p0 (namesL p1) (numV p2) = false := by
      unfold meltB
      rw [namesB_len (by unfold namesL; rw [List.length_map]; omega), Bool.false_and, Bool.and_false]
    have hq : 15 < qs.length := by omega
    have h5 : (44 : UInt8) ∈ (qs.getD 15 ByteArray.empty).data.toList := by
      have e : (qs.map (·.data.toList)).getD (16 - 1) [] = (qs.getD 15 ByteArray.empty).data.toList := by
        simp [List.getD, hq]
      rwa [e] at h4
    have hb2 : meltB p0 qs (numV p2) = false := by
      have hok : okN qs 15 = false := by unfold okN; rw [name_no44 h5]; rfl
      unfold meltB
      rw [namesB_in (by omega), chainN_no hq hok, Bool.false_and, Bool.and_false]
    rw [rmC_bad hb1, rmC_bad hb2]
theorem rmA_prog {s p0 p1 p2 : ByteArray} (h : [p0, p1, p2].map (·.data.toList) = Lib.splitK [32] 0 (min 3 (s.data.toList.length + 1) - 1) s.data.toList) : rmA s = rmC p0 p2 (namesL p1) := by
  obtain ⟨h1, h2⟩ := splitN_is 32 3 (by omega) s.data.toList
  by_cases hl : (splitL 32 s.data.toList).length ≤ 3
  · rw [h1 hl] at h
    exact rmA_three h
  · obtain ⟨h3, h4⟩ := h2 (by omega)
    rw [← h] at h4
    rw [rmA_not (by omega), rmC_no (num_noM (by simpa using h4))]
theorem rmA_progno {s : ByteArray} {ps : List ByteArray} (h : ps.map (·.data.toList) = Lib.splitK [32] 0 (min 3 (s.data.toList.length + 1) - 1) s.data.toList) (hn : ps.length ≠ 3) : rmA s = none := by
  obtain ⟨h1, h2⟩ := splitN_is 32 3 (by omega) s.data.toList
  by_cases hl : (splitL 32 s.data.toList).length ≤ 3
  · rw [h1 hl] at h
    exact rmA_not (by rw [← h, List.length_map]; exact hn)
  · obtain ⟨h3, -⟩ := h2 (by omega)
    rw [← h, List.length_map] at h3
    exact absurd h3 hn
/-- What both programs return. -/
def RmPost (r : Option Mt) (w : World) (e : Ending) (w' : World) : Prop := match r with
  | none => e = .returned (.tuple #[.agg #[.string ⟨#[]⟩, .slice none 0 0, .int .i64 0], .bool false]) ∧ Below w.heap.size w w'
  | some (s, ss, z) => ∃ v, e = .returned (.tuple #[.agg #[.string s, v, .int .i64 z], .bool true]) ∧ OwnSt w' w.heap.size v ss ∧ Below w.heap.size w w'
theorem rmC_some {p0 p2 : ByteArray} {qs ss : List ByteArray} {s : ByteArray} {z : Int} (h : rmC p0 p2 qs = some (s, ss, z)) : 1 ≤ ss.length ∧ ss.length ≤ 16 := by
  unfold rmC at h
  split at h
  · rename_i h2
    rw [Bool.and_eq_true] at h2
    have := (meltB_iff.1 h2.2).2.1
    unfold namesB at this
    rw [Bool.and_eq_true, decide_eq_true_eq] at this
    cases h
    exact this.1
  · cases h
theorem rmA_some {x : ByteArray} {ss : List ByteArray} {s : ByteArray} {z : Int} (h : rmA x = some (s, ss, z)) : 1 ≤ ss.length ∧ ss.length ≤ 16 := by
  unfold rmA at h
  split at h
  · exact rmC_some h
  · cases h
theorem list_threeM {ps : List ByteArray} (h : ps.length = 3) : ∃ a b c, ps = [a, b, c] := by
  match ps, h with
  | [a, b, c], _ => exact ⟨_, _, _, rfl⟩
/-- Block g holds a melt, and may be written. -/
def MlF (w : World) (g : Nat) (a b c : Value) : Prop := (w.cell? ⟨g, 0, none⟩ = some a ∧ w.cell? ⟨g, 1, none⟩ = some b ∧ w.cell? ⟨g, 2, none⟩ = some c) ∧ w.frozen? ⟨g, 0, none⟩ = false ∧ w.frozen? ⟨g, 1, none⟩ = false ∧ w.frozen? ⟨g, 2, none⟩ = false
theorem mlF_kept {w w' : World} {B g : Nat} {a b c : Value} (hb : Below B w w') (hg : g < B) (h : MlF w g a b c) : MlF w' g a b c :=
  ⟨⟨(hb.cell (p := ⟨g, 0, none⟩) hg).trans h.1.1, (hb.cell (p := ⟨g, 1, none⟩) hg).trans h.1.2.1, (hb.cell (p := ⟨g, 2, none⟩) hg).trans h.1.2.2⟩, (hb.frozen (p := ⟨g, 0, none⟩) hg).trans h.2.1, (hb.frozen (p := ⟨g, 1, none⟩) hg).trans h.2.2.1, (hb.frozen (p := ⟨g, 2, none⟩) hg).trans h.2.2.2⟩
theorem mlF_alloc (w : World) (a b c : Value) (T : TypeId) : MlF (w.alloc (.cells #[a, b, c] T)) w.heap.size a b c := ⟨⟨by go_simp, by go_simp, by go_simp⟩, by go_simp, by go_simp, by go_simp⟩
theorem below_aldM (w : World) (o : Obj) : Below w.heap.size w (w.alloc o).drew := (let h := below_alT w o; ⟨h.os, h.tape, h.output, h.size, h.block⟩)
theorem ret_valM {a b : Value} (h : a = b) : Ending.returned a = .returned b := by rw [h]
theorem ownSt_cells0 {w : World} {B : Nat} {v : Value} {ss : List ByteArray} (h : OwnSt w B v ss) : ∃ g cap, v = .slice (some ⟨g, 0, none⟩) ss.length cap ∧ B ≤ g ∧ g < w.heap.size ∧ ∀ j, j < ss.length → w.cell? ⟨g, j, none⟩ = some (.string (ss.getD j ByteArray.empty)) := by
  obtain ⟨g, cap, rfl, h1, h2, hown⟩ := h
  exact ⟨g, cap, rfl, h1, h2, fun j hj => (hown.cellAt j (by omega)).trans (stV_get ss j hj)⟩
theorem splitL_part1 (c : UInt8) : ∀ (l : List UInt8), ∀ p ∈ splitL c l, p.length + (splitL c l).length ≤ l.length + 1
  | [], p, h => by simp [splitL] at h; simp [h, splitL]
  | b :: l, p, h => by
    have ih := splitL_part1 c l
    have hl := splitL_len c l
    rw [splitL] at h ⊢
    split at h
    · rename_i hb
      rw [if_pos hb]
      rcases List.mem_cons.1 h with rfl | h
      · simp; omega
      · have := ih p h; simp; omega
    · rename_i hb
      rw [if_neg hb]
      cases hs : splitL c l with
      | nil => exact absurd hs (splitL_ne c l)
      | cons x t =>
        rw [hs] at h ih
        simp only [headCons] at h ⊢
        rcases List.mem_cons.1 h with rfl | h
        · have := ih x (by simp); simp at this ⊢; omega
        · have := ih p (by simp [h]); simp at this ⊢; omega
theorem splitK_part (c : UInt8) : ∀ (k : Nat) (l : List UInt8), ∀ p ∈ Lib.splitK [c] 0 k l, p.length ≤ l.length
  | 0, l, p, h => by
    obtain rfl : p = l := by simpa [Lib.splitK] using h
    exact Nat.le_refl _
  | k + 1, l, p, h => by
    rw [Lib.splitK] at h
    split at h
    · obtain rfl : p = l := by simpa using h
      exact Nat.le_refl _
    · rcases List.mem_cons.1 h with rfl | h
      · rw [List.length_take]; omega
      · have := splitK_part c k _ p h
        rw [List.length_drop] at this; omega
theorem size_listM (s : ByteArray) : s.data.toList.length = s.size := by simp
theorem sizes_of {ps : List ByteArray} {ls : List (List UInt8)} {m : Nat} (h : ps.map (·.data.toList) = ls) (hl : ∀ l ∈ ls, l.length ≤ m) : ∀ p ∈ ps, p.size ≤ m := by
  intro p hp
  have := hl p.data.toList (by rw [← h]; exact List.mem_map.2 ⟨p, hp, rfl⟩)
  rw [size_listM] at this; exact this
theorem sizes_three {s p0 p1 p2 : ByteArray} (h : [p0, p1, p2].map (·.data.toList) = splitL 32 s.data.toList) : p0.size ≤ s.size ∧ p1.size + 2 ≤ s.size ∧ p2.size ≤ s.size := by
  have hl : (splitL 32 s.data.toList).length = 3 := by rw [← h]; rfl
  have hA : ∀ p ∈ splitL 32 s.data.toList, p.length + 2 ≤ s.size := fun p hp => by have := splitL_part1 32 _ p hp; rw [size_listM, hl] at this; omega
  have h0 := hA p0.data.toList (by rw [← h]; simp)
  have h1 := hA p1.data.toList (by rw [← h]; simp)
  have h2 := hA p2.data.toList (by rw [← h]; simp)
  rw [size_listM] at h0 h1 h2
  omega
theorem sizes_prog {s p0 p1 p2 : ByteArray} (h : [p0, p1, p2].map (·.data.toList) = Lib.splitK [32] 0 (min 3 (s.data.toList.length + 1) - 1) s.data.toList) : p0.size ≤ s.size ∧ p1.size ≤ s.size ∧ p2.size ≤ s.size := by
  have hA := sizes_of h (m := s.size) (fun l hl => by have := splitK_part 32 _ _ l hl; rw [size_listM] at this; exact this)
  exact ⟨hA p0 (by simp), hA p1 (by simp), hA p2 (by simp)⟩
theorem szSt_of {qs : List ByteArray} {m : Nat} (hm : m ≤ 1048576) (h : ∀ p ∈ qs, p.size ≤ m) : SzSt qs := fun i hi => by
  have : qs.getD i ByteArray.empty ∈ qs := by rw [List.getD_eq_getElem?_getD, List.getElem?_eq_getElem hi]; exact List.getElem_mem hi
  have := h _ this
  omega
theorem sz_split {p1 : ByteArray} {qs : List ByteArray} (hz : p1.size ≤ 1048576) (h : qs.map (·.data.toList) = splitL 44 p1.data.toList) : SzSt qs :=
  szSt_of hz (sizes_of h (m := p1.size) (fun l hl => by have := splitL_part 44 _ l hl; rw [size_listM] at this; exact this))
theorem len_split {p1 : ByteArray} {qs : List ByteArray} (hz : p1.size ≤ 1048575) (h : qs.map (·.data.toList) = splitL 44 p1.data.toList) : qs.length ≤ 1048576 := by
  have := splitL_len 44 p1.data.toList
  rw [← h, List.length_map, size_listM] at this
  omega
theorem sz_prog {p1 : ByteArray} {qs : List ByteArray} (hz : p1.size ≤ 1048576) (h : qs.map (·.data.toList) = Lib.splitK [44] 0 (min 16 (p1.data.toList.length + 1) - 1) p1.data.toList) : SzSt qs :=
  szSt_of hz (sizes_of h (m := p1.size) (fun l hl => by have := splitK_part 44 _ _ l hl; rw [size_listM] at this; exact this))
theorem len_prog {p1 : ByteArray} {qs : List ByteArray} (hz : p1.size ≤ 1048576) (h : qs.map (·.data.toList) = Lib.splitK [44] 0 (min 16 (p1.data.toList.length + 1) - 1) p1.data.toList) : qs.length ≤ 1048576 := by
  obtain ⟨h1, h2⟩ := splitN_is 44 16 (by omega) p1.data.toList
  have e := congrArg List.length h
  rw [List.length_map] at e
  by_cases hl : (splitL 44 p1.data.toList).length ≤ 16
  · rw [h1 hl] at e; omega
  · rw [(h2 (by omega)).1] at e; omega
theorem hrow_base {w : World} {B B' g n cap : Nat} {T : TypeId} {xs : List Value} (hg : B' ≤ g) (h : w.ownsRow B T 1 (.slice (some ⟨g, 0, none⟩) n cap) n xs) : w.ownsRow B' T 1 (.slice (some ⟨g, 0, none⟩) n cap) n xs := by
  obtain ⟨h1, h2⟩ := h
  refine ⟨h1, ?_⟩
  rcases h2 with ⟨h, _⟩ | ⟨g', cap', cur, e, hb, rest⟩
  · cases h
  · cases e; exact .inr ⟨g, cap, cur, rfl, hg, rest⟩
/-- A slice of strings in a block of its own. -/
def StrsIn (w : World) (B : Nat) (v : Value) (qs : List ByteArray) : Prop := ∃ g cap, v = .slice (some ⟨g, 0, none⟩) qs.length cap ∧ B ≤ g ∧ g < w.heap.size ∧ ∀ j, j < qs.length → w.cell? ⟨g, j, none⟩ = some (.string (qs.getD j ByteArray.empty))
end Go.Proofs.YtjicnfgpbbganabDoor
