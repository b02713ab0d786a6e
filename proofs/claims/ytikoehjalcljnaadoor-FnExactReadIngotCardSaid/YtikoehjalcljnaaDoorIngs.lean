/- Lists of ingots: measured, copied, compared; one of them. -/
import Derived.Test.YtikoehjalcljnaaDoorInts
import Derived.Test.YtikoehjalcljnaaDoorBase
import Derived.Deep.Slices
import Derived.Deep.Strs
import Derived.Lib.SmallJoins
import Derived.Deep.RegionWith
import Derived.BigRegion
set_option linter.unusedVariables false
namespace Go.Proofs.YtikoehjalcljnaaDoor
open Go.ChangeShapes Go.WideShapes Go.ChangeAt Go.RowKit Go.Deep

abbrev Gt := ByteArray × Int × Int × Int × Int
def zG : Gt := (ByteArray.empty, 0, 0, 0, 0)
/-- The cells, one element after the other. -/
def flatG : List Gt → List Value
  | [] => []
  | r :: rs => .string (r.1) :: .int .i64 (r.2.1) :: .int .i64 (r.2.2.1) :: .int .i64 (r.2.2.2.1) :: .int .i64 (r.2.2.2.2) :: flatG rs
theorem flatG_len (rs : List Gt) : (flatG rs).length = rs.length * 5 := by
  induction rs with
  | nil => rfl
  | cons r rs ih => simp [flatG, ih]; omega
theorem flatG_get (rs : List Gt) (j : Nat) (h : j < rs.length) : (flatG rs)[j * 5]? = some (.string ((rs.getD j zG).1)) ∧ (flatG rs)[j * 5 + 1]? = some (.int .i64 ((rs.getD j zG).2.1)) ∧ (flatG rs)[j * 5 + 2]? = some (.int .i64 ((rs.getD j zG).2.2.1)) ∧ (flatG rs)[j * 5 + 3]? = some (.int .i64 ((rs.getD j zG).2.2.2.1)) ∧ (flatG rs)[j * 5 + 4]? = some (.int .i64 ((rs.getD j zG).2.2.2.2)) := by
  induction rs generalizing j with
  | nil => simp at h
  | cons r rs ih =>
    match j with
    | 0 => simp [flatG]
    | j + 1 =>
      have := ih j (by simpa using h)
      have e : (j + 1) * 5 = j * 5 + 5 := by omega
      rw [e]
      simpa [flatG] using this
theorem flatG_set (rs : List Gt) (j : Nat) (r : Gt) : ((((((flatG rs).set (j * 5) (.string r.1)).set (j * 5 + 1) (.int .i64 r.2.1)).set (j * 5 + 2) (.int .i64 r.2.2.1)).set (j * 5 + 3) (.int .i64 r.2.2.2.1)).set (j * 5 + 4) (.int .i64 r.2.2.2.2)) = flatG (rs.set j r) := by
  induction rs generalizing j with
  | nil => rfl
  | cons q rs ih =>
    match j with
    | 0 => simp [flatG]
    | j + 1 =>
      have e : (j + 1) * 5 = j * 5 + 5 := by omega
      have := ih j
      rw [e]
      simpa [flatG] using this
/-- Block b holds the element r from o on. -/
structure GIn (w : World) (b o : Nat) (r : Gt) : Prop where
  c0 : w.cell? ⟨b, o, none⟩ = some (.string (r.1))
  c1 : w.cell? ⟨b, o + 1, none⟩ = some (.int .i64 (r.2.1))
  c2 : w.cell? ⟨b, o + 2, none⟩ = some (.int .i64 (r.2.2.1))
  c3 : w.cell? ⟨b, o + 3, none⟩ = some (.int .i64 (r.2.2.2.1))
  c4 : w.cell? ⟨b, o + 4, none⟩ = some (.int .i64 (r.2.2.2.2))
theorem Gin_kept {w w' : World} {b o : Nat} {r : Gt} (hb : Below w.heap.size w w') (hl : b < w.heap.size) (h : GIn w b o r) : GIn w' b o r :=
  ⟨(below_cell hb _ _ hl).trans h.c0, (below_cell hb _ _ hl).trans h.c1, (below_cell hb _ _ hl).trans h.c2, (below_cell hb _ _ hl).trans h.c3, (below_cell hb _ _ hl).trans h.c4⟩
/-- The slice v reads as rs. -/
def IngsAt (w : World) (v : Value) (rs : List Gt) : Prop :=
  rs.length ≤ 1048576 ∧ ((∃ a c, v = .slice a 0 c ∧ rs = []) ∨ ∃ b off cap, v = .slice (some ⟨b, off, none⟩) rs.length cap ∧ b < w.heap.size ∧ ∀ i, i < rs.length → GIn w b (off + i * 5) (rs.getD i zG))
/-- .. in a block of its own, from B on, that may be written. -/
def OwnIngs (w : World) (B : Nat) (v : Value) (rs : List Gt) : Prop := ∃ g cap, v = .slice (some ⟨g, 0, none⟩) rs.length cap ∧ B ≤ g ∧ g < w.heap.size ∧ w.ownsRow B 36 5 v rs.length (flatG rs)
theorem ings_kept {w w' : World} {v : Value} {rs : List Gt} (hb : Below w.heap.size w w') (h : IngsAt w v rs) : IngsAt w' v rs := by
  obtain ⟨hl, h | ⟨b, off, cap, rfl, hlt, hc⟩⟩ := h
  · exact ⟨hl, .inl h⟩
  · exact ⟨hl, .inr ⟨b, off, cap, rfl, Nat.lt_of_lt_of_le hlt hb.size, fun i hi => Gin_kept hb hlt (hc i hi)⟩⟩
theorem own_inG {w : World} {B g n cap : Nat} {T : TypeId} {rs : List Gt} (hn : rs.length = n) (h : w.ownsRow B T 5 (.slice (some ⟨g, 0, none⟩) n cap) n (flatG rs)) (i : Nat) (hi : i < n) : GIn w g (i * 5) (rs.getD i zG) := by
  obtain ⟨g0, g1, g2, g3, g4⟩ := flatG_get rs i (by omega)
  exact ⟨(h.cellAt (i * 5) (by omega)).trans g0, (h.cellAt (i * 5 + 1) (by omega)).trans g1, (h.cellAt (i * 5 + 2) (by omega)).trans g2, (h.cellAt (i * 5 + 3) (by omega)).trans g3, (h.cellAt (i * 5 + 4) (by omega)).trans g4⟩
theorem own_ings {w : World} {B : Nat} {v : Value} {rs : List Gt} (hl : rs.length ≤ 1048576) (h : OwnIngs w B v rs) : IngsAt w v rs := by
  obtain ⟨g, cap, rfl, _, hg, hown⟩ := h
  refine ⟨hl, .inr ⟨g, 0, cap, rfl, hg, fun i hi => ?_⟩⟩
  rw [Nat.zero_add]
  exact own_inG rfl hown i hi
theorem own_ings_form {w : World} {B : Nat} {v : Value} {rs : List Gt} (h : OwnIngs w B v rs) : ∃ a c, v = .slice a rs.length c := by
  obtain ⟨g, cap, rfl, _⟩ := h
  exact ⟨_, _, rfl⟩
theorem ings_form {w : World} {v : Value} {zs : List Gt} (h : IngsAt w v zs) : ∃ a c, v = .slice a zs.length c := by
  obtain ⟨_, ⟨a, c, rfl, rfl⟩ | ⟨b, off, cap, rfl, _⟩⟩ := h
  · exact ⟨_, _, rfl⟩
  · exact ⟨_, _, rfl⟩
theorem ings_cells {w : World} {v : Value} {rs : List Gt} (h : IngsAt w v rs) (h0 : 0 < rs.length) : ∃ b off cap, v = .slice (some ⟨b, off, none⟩) rs.length cap ∧ b < w.heap.size ∧ ∀ i, i < rs.length → GIn w b (off + i * 5) (rs.getD i zG) := by
  obtain ⟨_, ⟨a, c, _, rfl⟩ | h⟩ := h
  · simp at h0
  · exact h
theorem infoG : (Tryd.prog.info? 36).map (fun i => (i.zero, i.size, i.bytes)) = some (some (.agg #[.string ByteArray.empty, .int .i64 0, .int .i64 0, .int .i64 0, .int .i64 0]), 5, 48) := by kernel_rfl
def copiedG (rs : List Gt) (k : Nat) : List Gt := rs.take k ++ List.replicate (rs.length - k) zG
theorem copiedG_len (rs : List Gt) (k : Nat) (h : k ≤ rs.length) : (copiedG rs k).length = rs.length := by simp [copiedG]; omega
theorem copiedG_next (rs : List Gt) (k : Nat) (h : k < rs.length) : (copiedG rs k).set k (rs.getD k zG) = copiedG rs (k + 1) := by
  unfold copiedG
  rw [show rs.length - k = rs.length - (k + 1) + 1 from by omega, List.replicate_succ, List.set_append_right _ _ (by simp; omega), List.length_take,
    Nat.min_eq_left (by omega), Nat.sub_self, List.set_cons_zero, List.take_succ_eq_append_getElem h]
  simp only [List.append_assoc, List.singleton_append, List.getD_eq_getElem?_getD, List.getElem?_eq_getElem h, Option.getD_some]
theorem copiedG_all (rs : List Gt) : copiedG rs rs.length = rs := by simp [copiedG]
theorem made_ings (n : Nat) : (madeCells (Value.cells (.agg #[.string ByteArray.empty, .int .i64 0, .int .i64 0, .int .i64 0, .int .i64 0])) (n * 5)).toList = flatG (List.replicate n zG) := by
  apply List.ext_getElem?
  intro j
  have hL : (flatG (List.replicate n zG)).length = n * 5 := by rw [flatG_len, List.length_replicate]
  by_cases h : j < n * 5
  · obtain ⟨i, f, rfl, hf⟩ : ∃ i f, j = i * 5 + f ∧ f < 5 := ⟨j / 5, j % 5, by omega, by omega⟩
    have hi : i < n := by omega
    obtain ⟨g0, g1, g2, g3, g4⟩ := flatG_get (List.replicate n zG) i (by rw [List.length_replicate]; exact hi)
    have hz : (List.replicate n zG).getD i zG = zG := by simp [List.getD, hi]
    rw [hz] at g0 g1 g2 g3 g4
    have hm : (i * 5 + f) % 5 = f := by omega
    unfold madeCells
    rcases (by omega : f = 0 ∨ f = 1 ∨ f = 2 ∨ f = 3 ∨ f = 4) with rfl | rfl | rfl | rfl | rfl
    · rw [Nat.add_zero] at h hm ⊢; rw [g0]; simp [h, Value.cells, hm, zG]
    · rw [g1]; simp [h, Value.cells, hm, zG]
    · rw [g2]; simp [h, Value.cells, hm, zG]
    · rw [g3]; simp [h, Value.cells, hm, zG]
    · rw [g4]; simp [h, Value.cells, hm, zG]
  · rw [List.getElem?_eq_none (by unfold madeCells; simp; omega), List.getElem?_eq_none (by omega)]
theorem row_keepG {w w' : World} {B sz : Nat} {e : TypeId} {v : Value} {n : Nat} {xs : List Value} (hb : Below w.heap.size w w') (h : w.ownsRow B e sz v n xs) : w'.ownsRow B e sz v n xs :=
  h.kept (row := none) ⟨hb.os, hb.tape, hb.output, hb.size, fun k hk _ => hb.block k hk⟩ (by cases hv : v.ownBlock <;> simp)
theorem storeG {w : World} {B g n cap : Nat} {rs : List Gt} (h : w.ownsRow B 36 5 (.slice (some ⟨g, 0, none⟩) n cap) n (flatG rs)) (j : Nat) (r : Gt) :
    (((((w.setCell ⟨g, j * 5, none⟩ (.string r.1)).setCell ⟨g, j * 5 + 1, none⟩ (.int .i64 r.2.1)).setCell ⟨g, j * 5 + 2, none⟩ (.int .i64 r.2.2.1)).setCell ⟨g, j * 5 + 3, none⟩ (.int .i64 r.2.2.2.1)).setCell ⟨g, j * 5 + 4, none⟩ (.int .i64 r.2.2.2.2)).ownsRow B 36 5 (.slice (some ⟨g, 0, none⟩) n cap) n (flatG (rs.set j r)) := by
  have h1 := (h.stored (j * 5) (.string r.1)).1
  have h2 := (h1.stored (j * 5 + 1) (.int .i64 r.2.1)).1
  have h3 := (h2.stored (j * 5 + 2) (.int .i64 r.2.2.1)).1
  have h4 := (h3.stored (j * 5 + 3) (.int .i64 r.2.2.2.1)).1
  have h5 := (h4.stored (j * 5 + 4) (.int .i64 r.2.2.2.2)).1
  rw [flatG_set] at h5
  exact h5
theorem results_cellGs {P : Program} {fn : Func} {p : Tmp} {ty : TypeId} (h : fn.results = #[.cell p ty]) (tmps : Array Value) (w : World) :
    (results fn tmps).run P w = ((asAddr (tmps.getD p undef)).run P w).andThen fun a w1 => (loadVar ty a).run P w1 := by
  simp only [results, h]
  simp [Sem.run_bind, Result.andThen]
theorem alloc_ltG (w : World) (o : Obj) : w.heap.size < (w.alloc o).heap.size := by show _ < (w.heap.push o).size; rw [Array.size_push]; omega
theorem below_alG (w : World) (o : Obj) : Below w.heap.size w (w.alloc o) := (Below.refl _ _).alloc (Nat.le_refl _) o
/-- Block p holds one. -/
def GBlk (w : World) (p : Nat) (r : Gt) : Prop := GIn w p 0 r
theorem Gblk_new (w : World) (r : Gt) (T : TypeId) : GBlk (w.alloc (.cells #[.string r.1, .int .i64 r.2.1, .int .i64 r.2.2.1, .int .i64 r.2.2.2.1, .int .i64 r.2.2.2.2] T)) w.heap.size r := ⟨by go_simp, by go_simp, by go_simp, by go_simp, by go_simp⟩
set_option maxHeartbeats 1000000 in
theorem toAlloy_any (x2 x3 x4 : Int) (w : World) :
    Calls Tryd.prog 26 #[.agg #[.int .i64 x2, .int .i64 x3, .int .i64 x4]] w fun e w' => e = .returned (.agg #[.int .i64 x2, .int .i64 x3, .int .i64 x4]) ∧ Below w.heap.size w w' := by
  go_enter Tryd.func26, Tryd.ntmps26
  go_wp2
  try simp only [Exit.inBlock, Exit.then]
  refine bodyPost_ret_by (v := .agg #[.int .i64 x2, .int .i64 x3, .int .i64 x4]) (by rw [results_cellGs rfl]; go_simp) rfl ?_
  exact ⟨rfl, (((Below.refl _ _).alloc (Nat.le_refl _) _).alloc (by simp) _).alloc (by simp <;> omega) _⟩
set_option maxHeartbeats 1000000 in
theorem eqAlloy_any (x2 x3 x4 : Int) (w : World) : Calls Tryd.prog 32 #[.agg #[.int .i64 x2, .int .i64 x3, .int .i64 x4], .agg #[.int .i64 x2, .int .i64 x3, .int .i64 x4]] w fun e w' => e = .returned (.bool true) ∧ Below w.heap.size w w' := by

  have hx2 : (x2 != x2) = false := by simp
  have hx3 : (x3 != x3) = false := by simp
  have hx4 : (x4 != x4) = false := by simp
  go_enter Tryd.func32, Tryd.ntmps32
  go_wp2
  go_ret
  exact ⟨rfl, ((Below.refl _ _).alloc (Nat.le_refl _) _).alloc (by simp) _⟩
def CleanG (w : World) (g : Nat) : Prop := GBlk w g zG ∧ ∀ i, w.frozen? ⟨g, i, none⟩ = false
set_option maxHeartbeats 2000000 in
theorem toIngot_any (x0 : ByteArray) (x1 x2 x3 x4 : Int) (w : World) :
    Calls Tryd.prog 13 #[.agg #[.string x0, .int .i64 x1, .int .i64 x2, .int .i64 x3, .int .i64 x4]] w fun e w' => e = .returned (.agg #[.string x0, .int .i64 x1, .int .i64 x2, .int .i64 x3, .int .i64 x4]) ∧ Below w.heap.size w w' := by
  have hba : Below w.heap.size w (((w.alloc (.cells #[.string x0, .int .i64 x1, .int .i64 x2, .int .i64 x3, .int .i64 x4] 31)).alloc (.cells #[.string ByteArray.empty, .int .i64 0, .int .i64 0, .int .i64 0, .int .i64 0] 36)).alloc (.cells #[.string ByteArray.empty, .int .i64 0, .int .i64 0, .int .i64 0, .int .i64 0] 36)) := (((below_alG _ _)).alloc (by simp) _).alloc (by simp <;> omega) _
  have HBA := Lib.hid hba
  clear hba
  go_enter Tryd.func13, Tryd.ntmps13
  go_wp2_with fail
  refine (toAlloy_any x2 x3 x4 _).mono ?_
  rintro e w1 ⟨rfl, hb⟩
  have a0 : w1.cell? ⟨w.heap.size, 0, none⟩ = some (.string (x0)) := by rw [below_cell hb _ _ (by simp <;> omega)]; go_simp
  have a1 : w1.cell? ⟨w.heap.size, 1, none⟩ = some (.int .i64 (x1)) := by rw [below_cell hb _ _ (by simp <;> omega)]; go_simp
  have a2 : w1.cell? ⟨w.heap.size, 2, none⟩ = some (.int .i64 (x2)) := by rw [below_cell hb _ _ (by simp <;> omega)]; go_simp
  have a3 : w1.cell? ⟨w.heap.size, 3, none⟩ = some (.int .i64 (x3)) := by rw [below_cell hb _ _ (by simp <;> omega)]; go_simp
  have a4 : w1.cell? ⟨w.heap.size, 4, none⟩ = some (.int .i64 (x4)) := by rw [below_cell hb _ _ (by simp <;> omega)]; go_simp
  have b10 : w1.cell? ⟨w.heap.size + 1, 0, none⟩ = some (.string ⟨#[]⟩) := by rw [below_cell hb _ _ (by simp <;> omega)]; go_simp
  have f10 : w1.frozen? ⟨w.heap.size + 1, 0, none⟩ = false := by rw [below_frozen hb _ _ (by simp <;> omega)]; go_simp
  have b11 : w1.cell? ⟨w.heap.size + 1, 1, none⟩ = some (.int .i64 0) := by rw [below_cell hb _ _ (by simp <;> omega)]; go_simp
  have f11 : w1.frozen? ⟨w.heap.size + 1, 1, none⟩ = false := by rw [below_frozen hb _ _ (by simp <;> omega)]; go_simp
  have b12 : w1.cell? ⟨w.heap.size + 1, 2, none⟩ = some (.int .i64 0) := by rw [below_cell hb _ _ (by simp <;> omega)]; go_simp
  have f12 : w1.frozen? ⟨w.heap.size + 1, 2, none⟩ = false := by rw [below_frozen hb _ _ (by simp <;> omega)]; go_simp
  have b13 : w1.cell? ⟨w.heap.size + 1, 3, none⟩ = some (.int .i64 0) := by rw [below_cell hb _ _ (by simp <;> omega)]; go_simp
  have f13 : w1.frozen? ⟨w.heap.size + 1, 3, none⟩ = false := by rw [below_frozen hb _ _ (by simp <;> omega)]; go_simp
  have b14 : w1.cell? ⟨w.heap.size + 1, 4, none⟩ = some (.int .i64 0) := by rw [below_cell hb _ _ (by simp <;> omega)]; go_simp
  have f14 : w1.frozen? ⟨w.heap.size + 1, 4, none⟩ = false := by rw [below_frozen hb _ _ (by simp <;> omega)]; go_simp
  have b20 : w1.cell? ⟨w.heap.size + 1 + 1, 0, none⟩ = some (.string (x0)) := by rw [below_cell hb _ _ (by simp <;> omega)]; go_simp
  have f20 : w1.frozen? ⟨w.heap.size + 1 + 1, 0, none⟩ = false := by rw [below_frozen hb _ _ (by simp <;> omega)]; go_simp
  have b21 : w1.cell? ⟨w.heap.size + 1 + 1, 1, none⟩ = some (.int .i64 (x1)) := by rw [below_cell hb _ _ (by simp <;> omega)]; go_simp
  have f21 : w1.frozen? ⟨w.heap.size + 1 + 1, 1, none⟩ = false := by rw [below_frozen hb _ _ (by simp <;> omega)]; go_simp
  have b22 : w1.cell? ⟨w.heap.size + 1 + 1, 2, none⟩ = some (.int .i64 0) := by rw [below_cell hb _ _ (by simp <;> omega)]; go_simp
  have f22 : w1.frozen? ⟨w.heap.size + 1 + 1, 2, none⟩ = false := by rw [below_frozen hb _ _ (by simp <;> omega)]; go_simp
  have b23 : w1.cell? ⟨w.heap.size + 1 + 1, 3, none⟩ = some (.int .i64 0) := by rw [below_cell hb _ _ (by simp <;> omega)]; go_simp
  have f23 : w1.frozen? ⟨w.heap.size + 1 + 1, 3, none⟩ = false := by rw [below_frozen hb _ _ (by simp <;> omega)]; go_simp
  have b24 : w1.cell? ⟨w.heap.size + 1 + 1, 4, none⟩ = some (.int .i64 0) := by rw [below_cell hb _ _ (by simp <;> omega)]; go_simp
  have f24 : w1.frozen? ⟨w.heap.size + 1 + 1, 4, none⟩ = false := by rw [below_frozen hb _ _ (by simp <;> omega)]; go_simp
  have hz : w.heap.size + 3 ≤ w1.heap.size := by have := hb.size; simp at this; omega
  have HB1 := Lib.hid (below_of (B := w.heap.size) (((below_alG _ _).alloc (by simp) _).alloc (by simp <;> omega) _) hb (by simp <;> omega))
  clear hb
  go_wp2
  refine bodyPost_ret (v := .agg #[.string x0, .int .i64 x1, .int .i64 x2, .int .i64 x3, .int .i64 x4]) (by simp [results, Tryd.results13, go_sem, b10, b11, b12, b13, b14]) rfl ⟨rfl, ?_⟩
  repeat (first | with_reducible exact HB1.out | refine Below.setCell ?_ (by simp <;> omega) _)
set_option maxHeartbeats 2000000 in
theorem eqIngot_any (x0 : ByteArray) (x1 x2 x3 x4 : Int) (w : World) : Calls Tryd.prog 17 #[.agg #[.string x0, .int .i64 x1, .int .i64 x2, .int .i64 x3, .int .i64 x4], .agg #[.string x0, .int .i64 x1, .int .i64 x2, .int .i64 x3, .int .i64 x4]] w fun e w' => e = .returned (.bool true) ∧ Below w.heap.size w w' := by
  have hs : (x0.toList != x0.toList) = false := by simp
  have hx1 : (x1 != x1) = false := by simp
  have hba : Below w.heap.size w ((w.alloc (.cells #[.string x0, .int .i64 x1, .int .i64 x2, .int .i64 x3, .int .i64 x4] 36)).alloc (.cells #[.string x0, .int .i64 x1, .int .i64 x2, .int .i64 x3, .int .i64 x4] 36)) := (below_alG _ _).alloc (by simp) _
  have HBA := Lib.hid hba
  clear hba
  go_enter Tryd.func17, Tryd.ntmps17
  go_wp2_with fail
  refine (eqAlloy_any x2 x3 x4 _).mono ?_
  rintro e w1 ⟨rfl, hb⟩
  have HB := Lib.hid (below_of HBA.out hb HBA.out.size)
  clear hb
  go_wp2
  go_ret
  exact ⟨rfl, HB.out⟩
/-- How long the strings of the first k elements are together. -/
def lenG (rs : List Gt) : Nat → Nat
  | 0 => 0
  | k + 1 => lenG rs k + (rs.getD k zG).1.size
theorem lenG_mono (rs : List Gt) {j k : Nat} (h : j ≤ k) : lenG rs j ≤ lenG rs k := by
  induction k with
  | zero => obtain rfl : j = 0 := by omega
            exact Nat.le_refl _
  | succ k ih =>
    by_cases e : j = k + 1
    · subst e; exact Nat.le_refl _
    · have := ih (by omega)
      show lenG rs j ≤ lenG rs k + (rs.getD k zG).1.size
      omega
/-- What is left of the laws' bound. -/
def leftG (n q : Nat) : Int := if n + q ≤ 1048576 then (1048576 : Int) - n - q else -1
theorem leftG_yes {n q : Nat} (h : n + q ≤ 1048576) : leftG n q = (1048576 : Int) - n - q := by unfold leftG; rw [if_pos h]
theorem leftG_no {n q : Nat} (h : ¬ n + q ≤ 1048576) : leftG n q = -1 := by unfold leftG; rw [if_neg h]
/-- The strings of a list are no longer than strings are. -/
def SzOkG (rs : List Gt) : Prop := ∀ i, i < rs.length → (rs.getD i zG).1.size ≤ maxLen
theorem szIngot_any (x0 : ByteArray) (x1 x2 x3 x4 : Int) (left : Int) (w : World) (hs : x0.size ≤ 9223372036854775807) (h0 : 0 ≤ left) (h1 : left ≤ 1048576) :
    Calls Tryd.prog 11 #[.agg #[.string x0, .int .i64 x1, .int .i64 x2, .int .i64 x3, .int .i64 x4], .int .i64 left] w fun e w' => e = .returned (.int .i64 (if left - (x0.size : Int) < 0 then -1 else left - x0.size)) ∧ Below w.heap.size w w' := by
  by_cases h : left - (x0.size : Int) < 0
  · rw [if_pos h]
    go_enter Tryd.func11, Tryd.ntmps11
    go_wp2
    go_ret
    exact ⟨rfl, (Below.refl _ _).alloc (Nat.le_refl _) _⟩
  · rw [if_neg h]
    go_enter Tryd.func11, Tryd.ntmps11
    go_wp2
    go_ret
    exact ⟨rfl, (Below.refl _ _).alloc (Nat.le_refl _) _⟩
end Go.Proofs.YtikoehjalcljnaaDoor
