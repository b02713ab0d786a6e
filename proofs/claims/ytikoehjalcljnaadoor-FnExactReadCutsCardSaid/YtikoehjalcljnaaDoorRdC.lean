/- Cuts read back from their text: the mathematics, and the reference model. -/
import Derived.Test.YtikoehjalcljnaaDoorCutsV
import Derived.Laws.AppendOwn
import Derived.Test.YtikoehjalcljnaaDoorNumImpl
import Derived.Test.YtikoehjalcljnaaDoorSplitSpecP
import Derived.Maps.AppendAt
set_option linter.unusedVariables false
namespace Go.Proofs.YtikoehjalcljnaaDoor
open Go.ChangeShapes Go.WideShapes Go.ChangeAt Go.RowKit Go.Deep

theorem digit_no120 (d : Nat) (h : d < 10) : UInt8.ofNat (48 + d) ≠ 120 := by
  rcases (by omega : d = 0 ∨ d = 1 ∨ d = 2 ∨ d = 3 ∨ d = 4 ∨ d = 5 ∨ d = 6 ∨ d = 7 ∨ d = 8 ∨ d = 9) with rfl | rfl | rfl | rfl | rfl | rfl | rfl | rfl | rfl | rfl <;> decide
theorem dec_no120 (u : Nat) : ∀ x ∈ Lib.decDigits u, x ≠ 120 := by
  induction u using Nat.strongRecOn with
  | ind u ih =>
    rw [Lib.decDigits]
    split
    · rename_i h
      intro x hx
      obtain rfl : x = UInt8.ofNat (48 + u) := by simpa using hx
      exact digit_no120 u h
    · intro x hx
      rcases List.mem_append.1 hx with hx | hx
      · exact ih _ (by omega) x hx
      · obtain rfl : x = UInt8.ofNat (48 + u % 10) := by simpa using hx
        exact digit_no120 _ (by omega)
theorem itoa_no120 (n : Int) : ∀ x ∈ Lib.itoa n, x ≠ 120 := by
  unfold Lib.itoa
  split
  · intro x hx
    rcases List.mem_cons.1 hx with rfl | hx
    · decide
    · exact dec_no120 _ x hx
  · exact dec_no120 _
theorem num_text {l : List UInt8} {u : Int} (h : specNum l = some u) : Lib.itoa u = l := by
  rw [← impl_spec] at h
  unfold implNum at h
  split at h
  · cases h
  · split at h
    · split at h
      · rename_i h2
        obtain rfl := Option.some.inj h
        exact h2
      · cases h
    · cases h
theorem num_no120 {l : List UInt8} {u : Int} (h : specNum l = some u) : ∀ x ∈ l, x ≠ 120 := by
  rw [← num_text h]; exact itoa_no120 u
theorem num_nil : specNum [] = none := spec_empty (s := ⟨#[]⟩) rfl

def pairC (a b : List UInt8) : Option Ct := match specNum a, specNum b with | some x, some y => some (x, y) | _, _ => none
/-- The cut with a text. -/
def rdCL (l : List UInt8) : Option Ct := match splitL 120 l with | [a, b] => pairC a b | _ => none
def rdC (q : ByteArray) : Option Ct := rdCL q.data.toList
theorem pairC_no2 {a b : List UInt8} (h : specNum b = none) : pairC a b = none := by unfold pairC; rw [h]; cases specNum a <;> rfl
theorem pairC_no1 {a b : List UInt8} (h : specNum a = none) : pairC a b = none := by unfold pairC; rw [h]
theorem pairC_of {a b : ByteArray} : pairC a.data.toList b.data.toList = if numOk a = true ∧ numOk b = true then some (numV a, numV b) else none := by
  unfold pairC numOk numV
  cases specNum a.data.toList <;> cases specNum b.data.toList <;> rfl
theorem rdCL_two {l a b : List UInt8} (h : splitL 120 l = [a, b]) : rdCL l = pairC a b := by unfold rdCL; rw [h]
theorem rdCL_not {l : List UInt8} (h : (splitL 120 l).length ≠ 2) : rdCL l = none := by
  unfold rdCL
  split
  · rename_i h2; rw [h2] at h; exact absurd rfl h
  · rfl
theorem rdC_ps {q : ByteArray} {a b : ByteArray} (h : [a, b].map (·.data.toList) = splitL 120 q.data.toList) : rdC q = if numOk a = true ∧ numOk b = true then some (numV a, numV b) else none := by
  unfold rdC
  rw [rdCL_two h.symm, pairC_of]
theorem rdC_len {q : ByteArray} {ps : List ByteArray} (h : ps.map (·.data.toList) = splitL 120 q.data.toList) (hn : ps.length ≠ 2) : rdC q = none := rdCL_not (by rw [← h, List.length_map]; exact hn)
theorem cut_at120 (l : List UInt8) : (Lib.cut l [120] = (l, [], false) ∧ splitL 120 l = [l]) ∨ (∃ i, Lib.cut l [120] = (l.take i, l.drop (i + 1), true) ∧ splitL 120 l = l.take i :: splitL 120 (l.drop (i + 1))) := by
  obtain ⟨h1, h2⟩ := splitL_index 120 l
  by_cases hi : 0 ≤ Lib.index l [120]
  · obtain ⟨i, hi2⟩ := Int.eq_ofNat_of_zero_le hi
    refine .inr ⟨i, ?_, h2 i hi2⟩
    unfold Lib.cut
    rw [if_pos hi, hi2]; rfl
  · have hm : Lib.index l [120] = -1 := by have := Lib.index_ge l [120]; omega
    refine .inl ⟨?_, h1 hm⟩
    unfold Lib.cut
    rw [if_neg hi]
theorem rdC_cut (l : List UInt8) : rdCL l = pairC (Lib.cut l [120]).1 (Lib.cut l [120]).2.1 := by
  rcases cut_at120 l with ⟨e, hs⟩ | ⟨i, e, hs⟩
  · rw [e]
    rw [rdCL_not (by rw [hs]; simp)]
    exact (pairC_no2 num_nil).symm
  · rw [e]
    simp only []
    generalize l.take i = a at *
    generalize l.drop (i + 1) = b at *
    cases hb : specNum b with
    | some v =>
      rw [splitL_none 120 b (num_no120 hb)] at hs
      exact rdCL_two hs
    | none =>
      rw [pairC_no2 hb]
      by_cases hl : (splitL 120 b).length = 1
      · obtain ⟨d, hd⟩ : ∃ d, splitL 120 b = [d] := by
          match splitL 120 b, hl with
          | [d], _ => exact ⟨d, rfl⟩
        have hc : d = b := by
          rcases cut_at120 b with ⟨-, h⟩ | ⟨m, -, h⟩
          · rw [h] at hd; exact (List.cons.inj hd).1.symm
          · rw [h] at hd
            exact absurd (List.cons.inj hd).2 (splitL_ne _ _)
        subst hc
        rw [hd] at hs
        rw [rdCL_two hs, pairC_no2 hb]
      · exact rdCL_not (by rw [hs]; simp only [List.length_cons]; omega)
theorem cut_len120 (l : List UInt8) : (Lib.cut l [120]).1.length ≤ l.length ∧ (Lib.cut l [120]).2.1.length ≤ l.length := by
  rcases cut_at120 l with ⟨e, -⟩ | ⟨i, e, -⟩
  · rw [e]; simp
  · rw [e]; simp only [List.length_take, List.length_drop]; omega
/-- All parts' cuts. -/
def allX : List (List UInt8) → Option (List Ct)
  | [] => some []
  | q :: l => match rdCL q, allX l with | some r, some rs => some (r :: rs) | _, _ => none
theorem allX_some : ∀ {ls : List (List UInt8)} {rs : List Ct}, rs.length = ls.length → (∀ j, j < ls.length → rdCL (ls.getD j []) = some (rs.getD j zC)) → allX ls = some rs
  | [], rs, h, _ => by rw [List.length_eq_zero_iff.1 h]; rfl
  | q :: l, [], h, _ => by simp at h
  | q :: l, r :: rs, h, ha => by
    have h0 := ha 0 (by simp)
    have h1 := allX_some (ls := l) (rs := rs) (by simpa using h) (fun j hj => by simpa using ha (j + 1) (by simpa using hj))
    have h0' : rdCL q = some r := by simpa using h0
    unfold allX
    rw [h0', h1]
theorem allX_none : ∀ {ls : List (List UInt8)} {k : Nat}, k < ls.length → rdCL (ls.getD k []) = none → allX ls = none
  | [], k, h, _ => by simp at h
  | q :: l, 0, _, hn => by
    have hn' : rdCL q = none := by simpa using hn
    unfold allX
    rw [hn']
  | q :: l, k + 1, h, hn => by
    have := allX_none (ls := l) (k := k) (by simpa using h) (by simpa using hn)
    unfold allX
    rw [this]
    cases rdCL q <;> rfl
theorem allX_len : ∀ {ls : List (List UInt8)} {rs : List Ct}, allX ls = some rs → rs.length = ls.length
  | [], rs, h => by unfold allX at h; rw [← Option.some.inj h]; rfl
  | q :: l, rs, h => by
    unfold allX at h
    split at h
    · rename_i h1 h2
      rw [← Option.some.inj h, List.length_cons, List.length_cons, allX_len h2]
    · cases h
theorem mapC_getD (ps : List ByteArray) (k : Nat) (h : k < ps.length) : (ps.map (·.data.toList)).getD k [] = (ps.getD k ByteArray.empty).data.toList := by
  simp [List.getD, h]
/-- The cuts with a text. -/
def okO (o : Option (List Ct)) : Option (List Ct) := match o with | some rs => if cutsB rs = true then some rs else none | none => none
def dashB : ByteArray := ⟨#[45]⟩
def rsA (s : ByteArray) : Option (List Ct) := if s = dashB then some [] else okO (allX (splitL 44 s.data.toList))
def rsL (s : ByteArray) : List Ct := (rsA s).getD []
def rsO (s : ByteArray) : Bool := (rsA s).isSome
theorem rs_dash {s : ByteArray} (h : s = dashB) : rsL s = [] ∧ rsO s = true := by unfold rsL rsO rsA; rw [if_pos h]; exact ⟨rfl, rfl⟩
theorem rs_none {s : ByteArray} {ps : List ByteArray} {k : Nat} (h : s ≠ dashB) (hp : ps.map (·.data.toList) = splitL 44 s.data.toList) (hk : k < ps.length) (hn : rdC (ps.getD k ByteArray.empty) = none) : rsL s = [] ∧ rsO s = false := by
  have : allX (splitL 44 s.data.toList) = none := by
    rw [← hp]
    exact allX_none (k := k) (by rw [List.length_map]; exact hk) (by rw [mapC_getD ps k hk]; exact hn)
  unfold rsL rsO rsA
  rw [if_neg h, this]
  exact ⟨rfl, rfl⟩
theorem rs_some {s : ByteArray} {ps : List ByteArray} {rs : List Ct} (h : s ≠ dashB) (hp : ps.map (·.data.toList) = splitL 44 s.data.toList) (hl : rs.length = ps.length) (ha : ∀ j, j < ps.length → rdC (ps.getD j ByteArray.empty) = some (rs.getD j zC)) : rsA s = okO (some rs) := by
  have : allX (splitL 44 s.data.toList) = some rs := by
    rw [← hp]
    exact allX_some (by rw [List.length_map]; exact hl) (fun j hj => by rw [List.length_map] at hj; rw [mapC_getD ps j hj]; exact ha j hj)
  unfold rsA
  rw [if_neg h, this]
theorem rs_yes {s : ByteArray} {rs : List Ct} (h : rsA s = okO (some rs)) (hv : cutsB rs = true) : rsL s = rs ∧ rsO s = true := by
  have e : okO (some rs) = some rs := by unfold okO; simp only []; rw [if_pos hv]
  unfold rsL rsO; rw [h, e]; exact ⟨rfl, rfl⟩
theorem rs_no {s : ByteArray} {rs : List Ct} (h : rsA s = okO (some rs)) (hv : cutsB rs = false) : rsL s = [] ∧ rsO s = false := by
  have e : okO (some rs) = none := by unfold okO; simp only []; rw [if_neg (by rw [hv]; simp)]
  unfold rsL rsO; rw [h, e]; exact ⟨rfl, rfl⟩
theorem rs_long {s : ByteArray} (h : s ≠ dashB) (hl : 64 < (splitL 44 s.data.toList).length) : rsL s = [] ∧ rsO s = false := by
  have : okO (allX (splitL 44 s.data.toList)) = none := by
    unfold okO
    split
    · rename_i rs hr
      rw [if_neg]
      intro hv
      have := (cutsB_iff.1 hv).1
      have := allX_len hr
      omega
    · rfl
  unfold rsL rsO rsA
  rw [if_neg h, this]
  exact ⟨rfl, rfl⟩
theorem rsL_len (s : ByteArray) : (rsL s).length ≤ 64 := by
  unfold rsL rsA
  split
  · exact Nat.zero_le _
  · unfold okO
    split
    · split
      · rename_i hv
        exact (cutsB_iff.1 hv).1
      · exact Nat.zero_le _
    · exact Nat.zero_le _
/-- The answer: a row of the call's own and whether there is one. -/
def CB (R : List Ct) (o : Bool) (w : World) (e : Ending) (w' : World) : Prop := ∃ v, e = .returned (.tuple #[v, .bool o]) ∧ Cv w' w.heap.size v R ∧ Below w.heap.size w w'
theorem strs_atC {w : World} {B g cap n : Nat} {ss : List ByteArray} (hn : ss.length = n) (hown : w.ownsRow B 9 1 (.slice (some ⟨g, 0, none⟩) n cap) n (strVs ss)) (j : Nat) (hj : j < n) : w.cell? ⟨g, j, none⟩ = some (.string (ss.getD j ByteArray.empty)) := by
  rw [hown.cellAt j (by omega)]
  simp [strVs, List.getD, show j < ss.length by omega]
def RowC (w : World) (B : Nat) (v : Value) (L : List Ct) : Prop := w.ownsRow B 47 2 v L.length (i64s (flatC L))
theorem rowC_push (L : List Ct) (r : Ct) : i64s (flatC (L ++ [r])) = i64s (flatC L) ++ [.int .i64 r.1, .int .i64 r.2] := by rw [flatC_append]; simp [i64s, flatC]
theorem base_al {B : Nat} {W : World} {o : Obj} (h : B ≤ W.heap.size) : B ≤ (W.alloc o).heap.size := by rw [World.size_alloc]; omega
theorem newsN {w : World} {x y : Int} {T : TypeId} {m : Nat} (hm : m = w.heap.size) : ∀ j u, ([Value.int .i64 x, Value.int .i64 y] : List Value)[j]? = some u → (w.alloc (.cells #[.int .i64 x, .int .i64 y] T)).cell? ((⟨m, 0, none⟩ : Addr).add j) = some u := by
  subst hm
  intro j u hj
  match j, hj with
  | 0, hj => simp at hj; subst hj; simp [Addr.add]
  | 1, hj => simp at hj; subst hj; simp [Addr.add]
  | j + 2, hj => simp at hj
theorem snocC_get (zs : List Ct) (z : Ct) (j : Nat) (h : j < zs.length) : (zs ++ [z]).getD j zC = zs.getD j zC := by
  rw [List.getD_eq_getElem?_getD, List.getD_eq_getElem?_getD, List.getElem?_append_left h]
theorem snocC_last (zs : List Ct) (z : Ct) (j : Nat) (h : zs.length = j) : (zs ++ [z]).getD j zC = z := by
  rw [← h, List.getD_eq_getElem?_getD, List.getElem?_append_right (Nat.le_refl _)]; simp
theorem partC_size {s : ByteArray} {c : UInt8} {ps : List ByteArray} (h : ps.map (·.data.toList) = splitL c s.data.toList) (k : Nat) (hk : k < ps.length) : (ps.getD k ByteArray.empty).size ≤ s.size := by
  have hm : (ps.getD k ByteArray.empty).data.toList ∈ splitL c s.data.toList := by
    rw [← h, ← mapC_getD ps k hk, List.getD_eq_getElem?_getD, List.getElem?_eq_getElem (by simpa using hk)]
    exact List.getElem_mem _
  have := splitL_part c _ _ hm
  rw [size_list, size_list] at this
  exact this
theorem splitL_sharp (c : UInt8) : ∀ l : List UInt8, (splitL c l).length + ((splitL c l).getD 0 []).length ≤ l.length + 1
  | [] => by simp [splitL]
  | b :: l => by
    have ih := splitL_sharp c l
    have hl := splitL_len c l
    rw [splitL]
    split
    · simp only [List.length_cons, List.getD_cons_zero, List.length_nil]; omega
    · cases hs : splitL c l with
      | nil => exact absurd hs (splitL_ne c l)
      | cons q t =>
        rw [hs] at ih
        simp only [headCons, List.length_cons, List.getD_cons_zero] at ih ⊢
        omega
theorem rdC_pos {q : ByteArray} {z : Ct} (h : rdC q = some z) : 1 ≤ q.data.toList.length := by
  cases hq : q.data.toList with
  | nil =>
    unfold rdC at h
    rw [hq] at h
    cases h
  | cons a l => simp
theorem parts_bound {s : ByteArray} {ps : List ByteArray} {z : Ct} (hp : ps.map (·.data.toList) = splitL 44 s.data.toList) (hz : rdC (ps.getD 0 ByteArray.empty) = some z) (h0 : 0 < ps.length) : ps.length ≤ s.size := by
  have h1 := splitL_sharp 44 s.data.toList
  have h2 := rdC_pos hz
  rw [← hp, mapC_getD ps 0 h0, List.length_map, size_list s] at h1
  omega
theorem far_cellC {w w' : World} {row : Option Nat} {b o : Nat} {u : Value} (h : w.grownBy w' row) (hr : ∀ q, row = some q → q ≠ b) (hb : b < w.heap.size) (hc : w.cell? ⟨b, o, none⟩ = some u) : w'.cell? ⟨b, o, none⟩ = some u :=
  (World.cell?_of_block (h.block b hb (fun e => hr b e.symm rfl))).trans hc
theorem list_two {ps : List ByteArray} (h : ps.length = 2) : ∃ a b, ps = [a, b] := by
  match ps, h with
  | [a, b], _ => exact ⟨_, _, rfl⟩
theorem part2 {s p0 p1 : ByteArray} (h : [p0, p1].map (·.data.toList) = splitL 120 s.data.toList) : p0.size ≤ s.size ∧ p1.size ≤ s.size := by
  have h0 := partC_size h 0 (by simp)
  have h1 := partC_size h 1 (by simp)
  exact ⟨h0, h1⟩
theorem bytesC_t : ((dashB.toList) == (dashB.toList)) = true := by simp
theorem bytesC_f {a b : ByteArray} (h : a ≠ b) : (a.toList == b.toList) = false :=
  beq_eq_false_iff_ne.2 (fun e => h (bytes_of (by rw [ByteArray.toList_eq, ByteArray.toList_eq] at e; exact e)))
end Go.Proofs.YtikoehjalcljnaaDoor
