/- Lists of melts: an argument opened; measured, copied, compared. -/
import Derived.Test.YtjicnfgpbbganabDoorMelt
import Derived.Deep.RegionWith
import Derived.BigRegion
set_option linter.unusedVariables false
namespace Go.Proofs.YtjicnfgpbbganabDoor
open Go.ChangeShapes Go.WideShapes Go.ChangeAt Go.RowKit Go.Deep

abbrev Mt := ByteArray × List ByteArray × Int
def zM : Mt := (ByteArray.empty, [], 0)
/-- Block b holds the melt r from o on. -/
def MAt (w : World) (b o : Nat) (r : Mt) : Prop := ∃ u, w.cell? ⟨b, o, none⟩ = some (.string r.1) ∧ w.cell? ⟨b, o + 1, none⟩ = some u ∧ w.cell? ⟨b, o + 2, none⟩ = some (.int .i64 r.2.2) ∧ StAt w u r.2.1
theorem mat_kept {w w' : World} {b o : Nat} {r : Mt} (hb : Below w.heap.size w w') (hl : b < w.heap.size) (h : MAt w b o r) : MAt w' b o r := by
  obtain ⟨u, h0, h1, h2, h3⟩ := h
  exact ⟨u, (below_cell hb _ _ hl).trans h0, (below_cell hb _ _ hl).trans h1, (below_cell hb _ _ hl).trans h2, st_kept hb h3⟩
/-- The slice v reads as ms. -/
def MeltsAt (w : World) (v : Value) (ms : List Mt) : Prop :=
  ms.length ≤ 1048576 ∧ ((∃ a c, v = .slice a 0 c ∧ ms = []) ∨ ∃ b off cap, v = .slice (some ⟨b, off, none⟩) ms.length cap ∧ b < w.heap.size ∧ ∀ i, i < ms.length → MAt w b (off + i * 3) (ms.getD i zM))
theorem melts_kept {w w' : World} {v : Value} {ms : List Mt} (hb : Below w.heap.size w w') (h : MeltsAt w v ms) : MeltsAt w' v ms := by
  obtain ⟨hl, h | ⟨b, off, cap, rfl, hlt, hc⟩⟩ := h
  · exact ⟨hl, .inl h⟩
  · exact ⟨hl, .inr ⟨b, off, cap, rfl, Nat.lt_of_lt_of_le hlt hb.size, fun i hi => mat_kept hb hlt (hc i hi)⟩⟩
theorem melts_form {w : World} {v : Value} {ms : List Mt} (h : MeltsAt w v ms) : ∃ a c, v = .slice a ms.length c := by
  obtain ⟨_, ⟨a, c, rfl, rfl⟩ | ⟨b, off, cap, rfl, _⟩⟩ := h
  · exact ⟨_, _, rfl⟩
  · exact ⟨_, _, rfl⟩
theorem melts_cells {w : World} {v : Value} {ms : List Mt} (h : MeltsAt w v ms) (h0 : 0 < ms.length) : ∃ b off cap, v = .slice (some ⟨b, off, none⟩) ms.length cap ∧ b < w.heap.size ∧ ∀ i, i < ms.length → MAt w b (off + i * 3) (ms.getD i zM) := by
  obtain ⟨_, ⟨a, c, _, rfl⟩ | h⟩ := h
  · simp at h0
  · exact h
abbrev Ut := ByteArray × Value × Int
def zU : Ut := (ByteArray.empty, .slice none 0 0, 0)
def flatU : List Ut → List Value
  | [] => []
  | r :: rs => .string r.1 :: r.2.1 :: .int .i64 r.2.2 :: flatU rs
theorem flatU_len (rs : List Ut) : (flatU rs).length = rs.length * 3 := by
  induction rs with
  | nil => rfl
  | cons r rs ih => simp [flatU, ih]; omega
theorem flatU_get (rs : List Ut) (j : Nat) (h : j < rs.length) : (flatU rs)[j * 3]? = some (.string (rs.getD j zU).1) ∧ (flatU rs)[j * 3 + 1]? = some (rs.getD j zU).2.1 ∧ (flatU rs)[j * 3 + 2]? = some (.int .i64 (rs.getD j zU).2.2) := by
  induction rs generalizing j with
  | nil => simp at h
  | cons r rs ih =>
    match j with
    | 0 => simp [flatU]
    | j + 1 =>
      have := ih j (by simpa using h)
      have e : (j + 1) * 3 = j * 3 + 3 := by omega
      rw [e]
      simpa [flatU] using this
theorem flatU_set (rs : List Ut) (j : Nat) (r : Ut) : ((((flatU rs).set (j * 3) (.string r.1)).set (j * 3 + 1) r.2.1).set (j * 3 + 2) (.int .i64 r.2.2)) = flatU (rs.set j r) := by
  induction rs generalizing j with
  | nil => rfl
  | cons q rs ih =>
    match j with
    | 0 => simp [flatU]
    | j + 1 =>
      have e : (j + 1) * 3 = j * 3 + 3 := by omega
      have := ih j
      rw [e]
      simpa [flatU] using this
theorem infoM : (Tryd.prog.info? 24).map (fun i => (i.zero, i.size, i.bytes)) = some (some (.agg #[.string ByteArray.empty, .slice none 0 0, .int .i64 0]), 3, 48) := by kernel_rfl
theorem made_melts (n : Nat) : (madeCells (Value.cells (.agg #[.string ByteArray.empty, .slice none 0 0, .int .i64 0])) (n * 3)).toList = flatU (List.replicate n zU) := by
  apply List.ext_getElem?
  intro j
  have hL : (flatU (List.replicate n zU)).length = n * 3 := by rw [flatU_len, List.length_replicate]
  by_cases h : j < n * 3
  · obtain ⟨i, f, rfl, hf⟩ : ∃ i f, j = i * 3 + f ∧ f < 3 := ⟨j / 3, j % 3, by omega, by omega⟩
    have hi : i < n := by omega
    obtain ⟨g0, g1, g2⟩ := flatU_get (List.replicate n zU) i (by rw [List.length_replicate]; exact hi)
    have hz : (List.replicate n zU).getD i zU = zU := by simp [List.getD, hi]
    rw [hz] at g0 g1 g2
    have hm : (i * 3 + f) % 3 = f := by omega
    unfold madeCells
    rcases (by omega : f = 0 ∨ f = 1 ∨ f = 2) with rfl | rfl | rfl
    · rw [Nat.add_zero] at h hm ⊢; rw [g0]; simp [h, Value.cells, hm, zU]
    · rw [g1]; simp [h, Value.cells, hm, zU]
    · rw [g2]; simp [h, Value.cells, hm, zU]
  · rw [List.getElem?_eq_none (by unfold madeCells; simp; omega), List.getElem?_eq_none (by omega)]
/-- Element j is the melt r, its ingots in a block of their own from B on. -/
def UOwn (w : World) (B : Nat) (x : Ut) (r : Mt) : Prop := x.1 = r.1 ∧ x.2.2 = r.2.2 ∧ OwnSt w B x.2.1 r.2.1
/-- A list of melts in blocks of the call's own. -/
def OwnMelts (w : World) (B : Nat) (v : Value) (ms : List Mt) : Prop := ∃ g cap us, v = .slice (some ⟨g, 0, none⟩) ms.length cap ∧ B ≤ g ∧ g < w.heap.size ∧ us.length = ms.length ∧ w.ownsRow B 24 3 v ms.length (flatU us) ∧ ∀ j, j < ms.length → UOwn w (g + 1) (us.getD j zU) (ms.getD j zM)
theorem own_inM {w : World} {B g n cap : Nat} {T : TypeId} {rs : List Ut} (hn : rs.length = n) (h : w.ownsRow B T 3 (.slice (some ⟨g, 0, none⟩) n cap) n (flatU rs)) (i : Nat) (hi : i < n) : w.cell? ⟨g, i * 3, none⟩ = some (.string (rs.getD i zU).1) ∧ w.cell? ⟨g, i * 3 + 1, none⟩ = some (rs.getD i zU).2.1 ∧ w.cell? ⟨g, i * 3 + 2, none⟩ = some (.int .i64 (rs.getD i zU).2.2) := by
  obtain ⟨g0, g1, g2⟩ := flatU_get rs i (by omega)
  exact ⟨(h.cellAt (i * 3) (by omega)).trans g0, (h.cellAt (i * 3 + 1) (by omega)).trans g1, (h.cellAt (i * 3 + 2) (by omega)).trans g2⟩
theorem own_melts {w : World} {B : Nat} {v : Value} {ms : List Mt} (hl : ms.length ≤ 1048576) (hi : ∀ j, j < ms.length → (ms.getD j zM).2.1.length ≤ 1048576) (h : OwnMelts w B v ms) : MeltsAt w v ms := by
  obtain ⟨g, cap, us, rfl, _, hg, hu, hown, he⟩ := h
  refine ⟨hl, .inr ⟨g, 0, cap, rfl, hg, fun i hi2 => ?_⟩⟩
  obtain ⟨c0, c1, c2⟩ := own_inM hu hown i hi2
  obtain ⟨e0, e1, e2⟩ := he i hi2
  rw [Nat.zero_add]
  exact ⟨_, by rw [c0, e0], c1, by rw [c2, e1], own_st (hi i hi2) e2⟩
theorem storeM {w : World} {B g n cap : Nat} {rs : List Ut} (h : w.ownsRow B 24 3 (.slice (some ⟨g, 0, none⟩) n cap) n (flatU rs)) (j : Nat) (r : Ut) :
    (((w.setCell ⟨g, j * 3, none⟩ (.string r.1)).setCell ⟨g, j * 3 + 1, none⟩ r.2.1).setCell ⟨g, j * 3 + 2, none⟩ (.int .i64 r.2.2)).ownsRow B 24 3 (.slice (some ⟨g, 0, none⟩) n cap) n (flatU (rs.set j r)) := by
  have h1 := (h.stored (j * 3) (.string r.1)).1
  have h2 := (h1.stored (j * 3 + 1) r.2.1).1
  have h3 := (h2.stored (j * 3 + 2) (.int .i64 r.2.2)).1
  rw [flatU_set] at h3
  exact h3
/-- The elements so far, and the empty ones behind. -/
def usTo (us : List Ut) (n : Nat) : List Ut := us ++ List.replicate (n - us.length) zU
theorem usTo_len (us : List Ut) (n : Nat) (h : us.length ≤ n) : (usTo us n).length = n := by simp [usTo]; omega
theorem usTo_next (us : List Ut) (n k : Nat) (u : Ut) (hk : us.length = k) (h : k < n) : (usTo us n).set k u = usTo (us ++ [u]) n := by
  unfold usTo
  rw [List.length_append, List.length_singleton, hk, show n - k = n - (k + 1) + 1 from by omega, List.replicate_succ, List.set_append_right _ _ (by omega), hk, Nat.sub_self, List.set_cons_zero]
  simp
theorem usTo_all (us : List Ut) (n : Nat) (hk : us.length = n) : usTo us n = us := by unfold usTo; rw [hk, Nat.sub_self]; simp
theorem uown_kept {w w' : World} {B : Nat} {x : Ut} {r : Mt} (hb : Below w.heap.size w w') (h : UOwn w B x r) : UOwn w' B x r := ⟨h.1, h.2.1, ownSt_kept hb h.2.2⟩
theorem uown_set {w : World} {B : Nat} {x : Ut} {r : Mt} (h : UOwn w B x r) (b o : Nat) (y : Value) (hb : b < B) : UOwn (w.setCell ⟨b, o, none⟩ y) B x r := ⟨h.1, h.2.1, ownSt_set h.2.2 b o y hb⟩
theorem getDU_old (us : List Ut) (u : Ut) (j : Nat) (h : j < us.length) : (us ++ [u]).getD j zU = us.getD j zU := by
  rw [List.getD_eq_getElem?_getD, List.getD_eq_getElem?_getD, List.getElem?_append_left h]
theorem getDU_new (us : List Ut) (u : Ut) (j : Nat) (h : j = us.length) : (us ++ [u]).getD j zU = u := by
  subst h
  rw [List.getD_eq_getElem?_getD, List.getElem?_append_right (Nat.le_refl _)]; simp
def CopyMls (w : World) (ms : List Mt) (e : Ending) (w' : World) : Prop := ∃ v, e = .returned v ∧ OwnMelts w' w.heap.size v ms ∧ Below w.heap.size w w'
theorem mat_drew {w : World} {b o : Nat} {r : Mt} (h : MAt w b o r) : MAt w.drew b o r := by
  obtain ⟨u, h0, h1, h2, h3⟩ := h
  exact ⟨u, h0, h1, h2, st_kept (w := w) (w' := w.drew) ⟨rfl, rfl, rfl, Nat.le_refl _, fun _ _ => rfl⟩ h3⟩
theorem st_drew {w : World} {v : Value} {ss : List ByteArray} (h : StAt w v ss) : StAt w.drew v ss := st_kept (w := w) (w' := w.drew) ⟨rfl, rfl, rfl, Nat.le_refl _, fun _ _ => rfl⟩ h
def sumK (L : Nat → Nat) : Nat → Nat
  | 0 => 0
  | n + 1 => sumK L n + L n
theorem sumK_le (L : Nat → Nat) (n j : Nat) (h : j < n) : L j ≤ sumK L n := by
  induction n with
  | zero => omega
  | succ n ih =>
    unfold sumK
    by_cases e : j = n
    · subst e; omega
    · have := ih (by omega); omega
theorem sumK_mono (L : Nat → Nat) {m n : Nat} (h : m ≤ n) : sumK L m ≤ sumK L n := by
  induction n with
  | zero => obtain rfl : m = 0 := by omega
            exact Nat.le_refl _
  | succ n ih =>
    by_cases e : m = n + 1
    · subst e; exact Nat.le_refl _
    · have := ih (by omega); show sumK L m ≤ sumK L n + L n; omega
def leftK (n : Nat) (left : Int) : Int := if left - n < 0 then -1 else left - n
theorem leftK_no {n : Nat} {left : Int} (h : left - n < 0) : leftK n left = -1 := by unfold leftK; rw [if_pos h]
theorem leftK_yes {n : Nat} {left : Int} (h : ¬ left - n < 0) : leftK n left = left - n := by unfold leftK; rw [if_neg h]
/-- What a melt's text and its ingots u take off a measure. -/
def SzIn (w : World) (s : ByteArray) (u : Value) (m : Nat) : Prop := (∃ ss, StAt w u ss ∧ SzSt ss ∧ m = s.size + ss.length + lenT ss ss.length) ∨ ∃ a n c, u = .slice a n c ∧ n ≤ 9223372036854775807 ∧ 1048576 < n ∧ m = s.size + n
theorem szIn_kept {w w' : World} {s : ByteArray} {u : Value} {m : Nat} (hb : Below w.heap.size w w') (h : SzIn w s u m) : SzIn w' s u m := by
  rcases h with ⟨ss, h1, h2, h3⟩ | h
  · exact .inl ⟨ss, st_kept hb h1, h2, h3⟩
  · exact .inr h
theorem szIn_form {w : World} {s : ByteArray} {u : Value} {m : Nat} (h : SzIn w s u m) : ∃ a n c, u = .slice a n c := by
  rcases h with ⟨ss, h1, h2, h3⟩ | ⟨a, n, c, rfl, _⟩
  · obtain ⟨a, c, rfl⟩ := st_form h1; exact ⟨_, _, _, rfl⟩
  · exact ⟨_, _, _, rfl⟩
def SzElt (w : World) (b o m : Nat) : Prop := ∃ s u z, w.cell? ⟨b, o, none⟩ = some (.string s) ∧ w.cell? ⟨b, o + 1, none⟩ = some u ∧ w.cell? ⟨b, o + 2, none⟩ = some (.int .i64 z) ∧ s.size ≤ 9223372036854775807 ∧ SzIn w s u m
theorem szElt_kept {w w' : World} {b o m : Nat} (hb : Below w.heap.size w w') (hl : b < w.heap.size) (h : SzElt w b o m) : SzElt w' b o m := by
  obtain ⟨s, u, z, h0, h1, h2, h3, h4⟩ := h
  exact ⟨s, u, z, (below_cell hb _ _ hl).trans h0, (below_cell hb _ _ hl).trans h1, (below_cell hb _ _ hl).trans h2, h3, szIn_kept hb h4⟩
/-- What a list of melts takes off a measure: N. -/
def SzMl (w : World) (v : Value) (N : Nat) : Prop := ∃ a n c, v = .slice a n c ∧ n ≤ 9223372036854775807 ∧ ((1048576 < n ∧ N = n) ∨ (n = 0 ∧ N = 0) ∨ ∃ M b off, n ≤ 1048576 ∧ N = n + sumK M n ∧ a = some ⟨b, off, none⟩ ∧ b < w.heap.size ∧ ∀ j, j < n → SzElt w b (off + j * 3) (M j))
theorem szMl_kept {w w' : World} {v : Value} {N : Nat} (hb : Below w.heap.size w w') (h : SzMl w v N) : SzMl w' v N := by
  obtain ⟨a, n, c, rfl, h1, h2 | h2 | ⟨M, b, off, h2, h3, h4, h5, h6⟩⟩ := h
  · exact ⟨a, n, c, rfl, h1, .inl h2⟩
  · exact ⟨a, n, c, rfl, h1, .inr (.inl h2)⟩
  · exact ⟨a, n, c, rfl, h1, .inr (.inr ⟨M, b, off, h2, h3, h4, Nat.lt_of_lt_of_le h5 hb.size, fun j hj => szElt_kept hb h5 (h6 j hj)⟩)⟩
/-- What is known of an argument of type Melt. -/
def MeltArgX (W : World) (v : Value) : Prop := ∃ (s : ByteArray) (u : Value) (z : Int) (N : Nat), v = .agg #[.string s, u, .int .i64 z] ∧ s.size ≤ 9223372036854775807 ∧ SzIn W s u N ∧ (N ≤ 1048576 → ∃ ss, StAt W u ss ∧ SzSt ss ∧ ss.length ≤ 1048576)
theorem own_meltsC {w : World} {B : Nat} {v : Value} {ms : List Mt} (hl : ms.length ≤ 1048576 ∧ ∀ j, j < ms.length → (ms.getD j zM).2.1.length ≤ 1048576) (h : OwnMelts w B v ms) : MeltsAt w v ms := own_melts hl.1 hl.2 h
theorem ownMelts_form {w : World} {B : Nat} {v : Value} {ms : List Mt} (h : OwnMelts w B v ms) : ∃ a c, v = .slice a ms.length c := by
  obtain ⟨g, cap, us, rfl, _⟩ := h
  exact ⟨_, _, rfl⟩
/-- What is known of an argument of type []Melt. -/
def MlArg (W : World) (v : Value) : Prop := ∃ N, SzMl W v N ∧ (N ≤ 1048576 → ∃ ms, MeltsAt W v ms ∧ ms.length ≤ 1048576 ∧ (∀ j, j < ms.length → (ms.getD j zM).2.1.length ≤ 1048576 ∧ (ms.getD j zM).1.size ≤ 9223372036854775807 ∧ SzSt (ms.getD j zM).2.1))
end Go.Proofs.YtjicnfgpbbganabDoor
