/- Spots read back from their text: the mathematics, and the reference model. -/
import Derived.Test.YtlhbjchanalnaaaDoorSpotV
import Derived.Test.YtlhbjchanalnaaaDoorNumImpl
import Derived.Test.YtlhbjchanalnaaaDoorSplitSpecP
import Derived.Maps.AppendAt
set_option linter.unusedVariables false
namespace Go.Proofs.YtlhbjchanalnaaaDoor
open Go.ChangeShapes Go.WideShapes Go.ChangeAt Go.RowKit Go.Deep

theorem digit_no58 (d : Nat) (h : d < 10) : UInt8.ofNat (48 + d) ≠ 58 := by
  rcases (by omega : d = 0 ∨ d = 1 ∨ d = 2 ∨ d = 3 ∨ d = 4 ∨ d = 5 ∨ d = 6 ∨ d = 7 ∨ d = 8 ∨ d = 9) with rfl | rfl | rfl | rfl | rfl | rfl | rfl | rfl | rfl | rfl <;> decide
theorem dec_no58 (u : Nat) : ∀ x ∈ Lib.decDigits u, x ≠ 58 := by
  induction u using Nat.strongRecOn with
  | ind u ih =>
    rw [Lib.decDigits]
    split
    · rename_i h
      intro x hx
      obtain rfl : x = UInt8.ofNat (48 + u) := by simpa using hx
      exact digit_no58 u h
    · intro x hx
      rcases List.mem_append.1 hx with hx | hx
      · exact ih _ (by omega) x hx
      · obtain rfl : x = UInt8.ofNat (48 + u % 10) := by simpa using hx
        exact digit_no58 _ (by omega)
theorem itoa_no58 (n : Int) : ∀ x ∈ Lib.itoa n, x ≠ 58 := by
  unfold Lib.itoa
  split
  · intro x hx
    rcases List.mem_cons.1 hx with rfl | hx
    · decide
    · exact dec_no58 _ x hx
  · exact dec_no58 _
theorem num_text {l : List UInt8} {u : Int} (h : specNum l = some u) : Lib.itoa u = l := by
  rw [← impl_spec] at h
  unfold implNum at h
  split at h
  · cases h
  · split at h
    · split at h
      · rename_i h2
        obtain rfl := Option.some.inj h
        exact h2
      · cases h
    · cases h
theorem num_no58 {l : List UInt8} {u : Int} (h : specNum l = some u) : ∀ x ∈ l, x ≠ 58 := by
  rw [← num_text h]; exact itoa_no58 u
theorem num_nil : specNum [] = none := spec_empty (s := ⟨#[]⟩) rfl

def pairQ (a b : List UInt8) : Option Qt := match specNum a, specNum b with | some x, some y => some (x, y) | _, _ => none
/-- The spot with a text. -/
def rdQL (l : List UInt8) : Option Qt := match splitL 58 l with | [a, b] => pairQ a b | _ => none
def rdQ (q : ByteArray) : Option Qt := rdQL q.data.toList
theorem pairQ_no2 {a b : List UInt8} (h : specNum b = none) : pairQ a b = none := by unfold pairQ; rw [h]; cases specNum a <;> rfl
theorem pairQ_no1 {a b : List UInt8} (h : specNum a = none) : pairQ a b = none := by unfold pairQ; rw [h]
theorem pairQ_of {a b : ByteArray} : pairQ a.data.toList b.data.toList = if numOk a = true ∧ numOk b = true then some (numV a, numV b) else none := by
  unfold pairQ numOk numV
  cases specNum a.data.toList <;> cases specNum b.data.toList <;> rfl
theorem rdQL_two {l a b : List UInt8} (h : splitL 58 l = [a, b]) : rdQL l = pairQ a b := by unfold rdQL; rw [h]
theorem rdQL_not {l : List UInt8} (h : (splitL 58 l).length ≠ 2) : rdQL l = none := by
  unfold rdQL
  split
  · rename_i h2; rw [h2] at h; exact absurd rfl h
  · rfl
theorem rdQ_ps {q : ByteArray} {a b : ByteArray} (h : [a, b].map (·.data.toList) = splitL 58 q.data.toList) : rdQ q = if numOk a = true ∧ numOk b = true then some (numV a, numV b) else none := by
  unfold rdQ
  rw [rdQL_two h.symm, pairQ_of]
theorem rdQ_len {q : ByteArray} {ps : List ByteArray} (h : ps.map (·.data.toList) = splitL 58 q.data.toList) (hn : ps.length ≠ 2) : rdQ q = none := rdQL_not (by rw [← h, List.length_map]; exact hn)
theorem cut_at58 (l : List UInt8) : (Lib.cut l [58] = (l, [], false) ∧ splitL 58 l = [l]) ∨ (∃ i, Lib.cut l [58] = (l.take i, l.drop (i + 1), true) ∧ splitL 58 l = l.take i :: splitL 58 (l.drop (i + 1))) := by
  obtain ⟨h1, h2⟩ := splitL_index 58 l
  by_cases hi : 0 ≤ Lib.index l [58]
  · obtain ⟨i, hi2⟩ := Int.eq_ofNat_of_zero_le hi
    refine .inr ⟨i, ?_, h2 i hi2⟩
    unfold Lib.cut
    rw [if_pos hi, hi2]; rfl
  · have hm : Lib.index l [58] = -1 := by have := Lib.index_ge l [58]; omega
    refine .inl ⟨?_, h1 hm⟩
    unfold Lib.cut
    rw [if_neg hi]
theorem rdQ_cut (l : List UInt8) : rdQL l = pairQ (Lib.cut l [58]).1 (Lib.cut l [58]).2.1 := by
  rcases cut_at58 l with ⟨e, hs⟩ | ⟨i, e, hs⟩
  · rw [e]
    rw [rdQL_not (by rw [hs]; simp)]
    exact (pairQ_no2 num_nil).symm
  · rw [e]
    simp only []
    generalize l.take i = a at *
    generalize l.drop (i + 1) = b at *
    cases hb : specNum b with
    | some v =>
      rw [splitL_none 58 b (num_no58 hb)] at hs
      exact rdQL_two hs
    | none =>
      rw [pairQ_no2 hb]
      by_cases hl : (splitL 58 b).length = 1
      · obtain ⟨d, hd⟩ : ∃ d, splitL 58 b = [d] := by
          match splitL 58 b, hl with
          | [d], _ => exact ⟨d, rfl⟩
        have hc : d = b := by
          rcases cut_at58 b with ⟨-, h⟩ | ⟨m, -, h⟩
          · rw [h] at hd; exact (List.cons.inj hd).1.symm
          · rw [h] at hd
            exact absurd (List.cons.inj hd).2 (splitL_ne _ _)
        subst hc
        rw [hd] at hs
        rw [rdQL_two hs, pairQ_no2 hb]
      · exact rdQL_not (by rw [hs]; simp only [List.length_cons]; omega)
theorem cut_len58 (l : List UInt8) : (Lib.cut l [58]).1.length ≤ l.length ∧ (Lib.cut l [58]).2.1.length ≤ l.length := by
  rcases cut_at58 l with ⟨e, -⟩ | ⟨i, e, -⟩
  · rw [e]; simp
  · rw [e]; simp only [List.length_take, List.length_drop]; omega
/-- All parts' spots. -/
def allQ : List (List UInt8) → Option (List Qt)
  | [] => some []
  | q :: l => match rdQL q, allQ l with | some r, some rs => some (r :: rs) | _, _ => none
theorem allQ_some : ∀ {ls : List (List UInt8)} {rs : List Qt}, rs.length = ls.length → (∀ j, j < ls.length → rdQL (ls.getD j []) = some (rs.getD j zQ)) → allQ ls = some rs
  | [], rs, h, _ => by rw [List.length_eq_zero_iff.1 h]; rfl
  | q :: l, [], h, _ => by simp at h
  | q :: l, r :: rs, h, ha => by
    have h0 := ha 0 (by simp)
    have h1 := allQ_some (ls := l) (rs := rs) (by simpa using h) (fun j hj => by simpa using ha (j + 1) (by simpa using hj))
    have h0' : rdQL q = some r := by simpa using h0
    unfold allQ
    rw [h0', h1]
theorem allQ_none : ∀ {ls : List (List UInt8)} {k : Nat}, k < ls.length → rdQL (ls.getD k []) = none → allQ ls = none
  | [], k, h, _ => by simp at h
  | q :: l, 0, _, hn => by
    have hn' : rdQL q = none := by simpa using hn
    unfold allQ
    rw [hn']
  | q :: l, k + 1, h, hn => by
    have := allQ_none (ls := l) (k := k) (by simpa using h) (by simpa using hn)
    unfold allQ
    rw [this]
    cases rdQL q <;> rfl
theorem allQ_len : ∀ {ls : List (List UInt8)} {rs : List Qt}, allQ ls = some rs → rs.length = ls.length
  | [], rs, h => by unfold allQ at h; rw [← Option.some.inj h]; rfl
  | q :: l, rs, h => by
    unfold allQ at h
    split at h
    · rename_i h1 h2
      rw [← Option.some.inj h, List.length_cons, List.length_cons, allQ_len h2]
    · cases h
theorem mapQ_getD (ps : List ByteArray) (k : Nat) (h : k < ps.length) : (ps.map (·.data.toList)).getD k [] = (ps.getD k ByteArray.empty).data.toList := by
  simp [List.getD, h]
/-- The spots with a text. -/
def okO (o : Option (List Qt)) : Option (List Qt) := match o with | some rs => if spotsB rs = true then some rs else none | none => none
def dashB : ByteArray := ⟨#[45]⟩
def rsA (s : ByteArray) : Option (List Qt) := if s = dashB then some [] else okO (allQ (splitL 32 s.data.toList))
def rsL (s : ByteArray) : List Qt := (rsA s).getD []
def rsO (s : ByteArray) : Bool := (rsA s).isSome
theorem rs_dash {s : ByteArray} (h : s = dashB) : rsL s = [] ∧ rsO s = true := by unfold rsL rsO rsA; rw [if_pos h]; exact ⟨rfl, rfl⟩
theorem rs_none {s : ByteArray} {ps : List ByteArray} {k : Nat} (h : s ≠ dashB) (hp : ps.map (·.data.toList) = splitL 32 s.data.toList) (hk : k < ps.length) (hn : rdQ (ps.getD k ByteArray.empty) = none) : rsL s = [] ∧ rsO s = false := by
  have : allQ (splitL 32 s.data.toList) = none := by
    rw [← hp]
    exact allQ_none (k := k) (by rw [List.length_map]; exact hk) (by rw [mapQ_getD ps k hk]; exact hn)
  unfold rsL rsO rsA
  rw [if_neg h, this]
  exact ⟨rfl, rfl⟩
theorem rs_some {s : ByteArray} {ps : List ByteArray} {rs : List Qt} (h : s ≠ dashB) (hp : ps.map (·.data.toList) = splitL 32 s.data.toList) (hl : rs.length = ps.length) (ha : ∀ j, j < ps.length → rdQ (ps.getD j ByteArray.empty) = some (rs.getD j zQ)) : rsA s = okO (some rs) := by
  have : allQ (splitL 32 s.data.toList) = some rs := by
    rw [← hp]
    exact allQ_some (by rw [List.length_map]; exact hl) (fun j hj => by rw [List.length_map] at hj; rw [mapQ_getD ps j hj]; exact ha j hj)
  unfold rsA
  rw [if_neg h, this]
theorem rs_yes {s : ByteArray} {rs : List Qt} (h : rsA s = okO (some rs)) (hv : spotsB rs = true) : rsL s = rs ∧ rsO s = true := by
  have e : okO (some rs) = some rs := by unfold okO; simp only []; rw [if_pos hv]
  unfold rsL rsO; rw [h, e]; exact ⟨rfl, rfl⟩
theorem rs_no {s : ByteArray} {rs : List Qt} (h : rsA s = okO (some rs)) (hv : spotsB rs = false) : rsL s = [] ∧ rsO s = false := by
  have e : okO (some rs) = none := by unfold okO; simp only []; rw [if_neg (by rw [hv]; simp)]
  unfold rsL rsO; rw [h, e]; exact ⟨rfl, rfl⟩
theorem rs_long {s : ByteArray} (h : s ≠ dashB) (hl : 16 < (splitL 32 s.data.toList).length) : rsL s = [] ∧ rsO s = false := by
  have : okO (allQ (splitL 32 s.data.toList)) = none := by
    unfold okO
    split
    · rename_i rs hr
      rw [if_neg]
      intro hv
      have := (spots_iff.1 hv).1
      have := allQ_len hr
      omega
    · rfl
  unfold rsL rsO rsA
  rw [if_neg h, this]
  exact ⟨rfl, rfl⟩
theorem rsL_len (s : ByteArray) : (rsL s).length ≤ 16 := by
  unfold rsL rsA
  split
  · exact Nat.zero_le _
  · unfold okO
    split
    · split
      · rename_i hv
        exact (spots_iff.1 hv).1
      · exact Nat.zero_le _
    · exact Nat.zero_le _
/-- The answer: a row of the call's own and whether there is one. -/
def QB (R : List Qt) (o : Bool) (w : World) (e : Ending) (w' : World) : Prop := ∃ v, e = .returned (.tuple #[v, .bool o]) ∧ Qv w' w.heap.size v R ∧ Below w.heap.size w w'
theorem strs_atQ {w : World} {B g cap n : Nat} {ss : List ByteArray} (hn : ss.length = n) (hown : w.ownsRow B 9 1 (.slice (some ⟨g, 0, none⟩) n cap) n (strVs ss)) (j : Nat) (hj : j < n) : w.cell? ⟨g, j, none⟩ = some (.string (ss.getD j ByteArray.empty)) := by
  rw [hown.cellAt j (by omega)]
  simp [strVs, List.getD, show j < ss.length by omega]
def RowQ (w : World) (B : Nat) (v : Value) (L : List Qt) : Prop := w.ownsRow B 33 2 v L.length (i64s (flatQ L))
theorem rowQ_push (L : List Qt) (r : Qt) : i64s (flatQ (L ++ [r])) = i64s (flatQ L) ++ [.int .i64 r.1, .int .i64 r.2] := by rw [flatQ_append]; simp [i64s, flatQ]
theorem base_al {B : Nat} {W : World} {o : Obj} (h : B ≤ W.heap.size) : B ≤ (W.alloc o).heap.size := by rw [World.size_alloc]; omega
theorem newsN {w : World} {x y : Int} {T : TypeId} {m : Nat} (hm : m = w.heap.size) : ∀ j u, ([Value.int .i64 x, Value.int .i64 y] : List Value)[j]? = some u → (w.alloc (.cells #[.int .i64 x, .int .i64 y] T)).cell? ((⟨m, 0, none⟩ : Addr).add j) = some u := by
  subst hm
  intro j u hj
  match j, hj with
  | 0, hj => simp at hj; subst hj; simp [Addr.add]
  | 1, hj => simp at hj; subst hj; simp [Addr.add]
  | j + 2, hj => simp at hj
theorem snocQ_get (zs : List Qt) (z : Qt) (j : Nat) (h : j < zs.length) : (zs ++ [z]).getD j zQ = zs.getD j zQ := by
  rw [List.getD_eq_getElem?_getD, List.getD_eq_getElem?_getD, List.getElem?_append_left h]
theorem snocQ_last (zs : List Qt) (z : Qt) (j : Nat) (h : zs.length = j) : (zs ++ [z]).getD j zQ = z := by
  rw [← h, List.getD_eq_getElem?_getD, List.getElem?_append_right (Nat.le_refl _)]; simp
theorem partQ_size {s : ByteArray} {c : UInt8} {ps : List ByteArray} (h : ps.map (·.data.toList) = splitL c s.data.toList) (k : Nat) (hk : k < ps.length) : (ps.getD k ByteArray.empty).size ≤ s.size := by
  have hm : (ps.getD k ByteArray.empty).data.toList ∈ splitL c s.data.toList := by
    rw [← h, ← mapQ_getD ps k hk, List.getD_eq_getElem?_getD, List.getElem?_eq_getElem (by simpa using hk)]
    exact List.getElem_mem _
  have := splitL_part c _ _ hm
  rw [size_list, size_list] at this
  exact this
theorem splitL_sharp (c : UInt8) : ∀ l : List UInt8, (splitL c l).length + ((splitL c l).getD 0 []).length ≤ l.length + 1
  | [] => by simp [splitL]
  | b :: l => by
    have ih := splitL_sharp c l
    have hl := splitL_len c l
    rw [splitL]
    split
    · simp only [List.length_cons, List.getD_cons_zero, List.length_nil]; omega
    · cases hs : splitL c l with
      | nil => exact absurd hs (splitL_ne c l)
      | cons q t =>
        rw [hs] at ih
        simp only [headCons, List.length_cons, List.getD_cons_zero] at ih ⊢
        omega
theorem rdQ_pos {q : ByteArray} {z : Qt} (h : rdQ q = some z) : 1 ≤ q.data.toList.length := by
  cases hq : q.data.toList with
  | nil =>
    unfold rdQ at h
    rw [hq] at h
    cases h
  | cons a l => simp
theorem parts_bound {s : ByteArray} {ps : List ByteArray} {z : Qt} (hp : ps.map (·.data.toList) = splitL 32 s.data.toList) (hz : rdQ (ps.getD 0 ByteArray.empty) = some z) (h0 : 0 < ps.length) : ps.length ≤ s.size := by
  have h1 := splitL_sharp 32 s.data.toList
  have h2 := rdQ_pos hz
  rw [← hp, mapQ_getD ps 0 h0, List.length_map, size_list s] at h1
  omega
theorem far_cellQ {w w' : World} {row : Option Nat} {b o : Nat} {u : Value} (h : w.grownBy w' row) (hr : ∀ q, row = some q → q ≠ b) (hb : b < w.heap.size) (hc : w.cell? ⟨b, o, none⟩ = some u) : w'.cell? ⟨b, o, none⟩ = some u :=
  (World.cell?_of_block (h.block b hb (fun e => hr b e.symm rfl))).trans hc
theorem list_two {ps : List ByteArray} (h : ps.length = 2) : ∃ a b, ps = [a, b] := by
  match ps, h with
  | [a, b], _ => exact ⟨_, _, rfl⟩
theorem part2 {s p0 p1 : ByteArray} (h : [p0, p1].map (·.data.toList) = splitL 58 s.data.toList) : p0.size ≤ s.size ∧ p1.size ≤ s.size := by
  have h0 := partQ_size h 0 (by simp)
  have h1 := partQ_size h 1 (by simp)
  exact ⟨h0, h1⟩
theorem bytesQ_t : ((dashB.toList) == (dashB.toList)) = true := by simp
theorem bytesQ_f {a b : ByteArray} (h : a ≠ b) : (a.toList == b.toList) = false :=
  beq_eq_false_iff_ne.2 (fun e => h (bytes_of (by rw [ByteArray.toList_eq, ByteArray.toList_eq] at e; exact e)))
end Go.Proofs.YtlhbjchanalnaaaDoor
