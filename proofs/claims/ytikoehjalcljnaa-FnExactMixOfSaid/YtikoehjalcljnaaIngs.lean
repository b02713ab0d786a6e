/- Lists of ingots: measured, copied, compared; one of them. -/
import Derived.Test.YtikoehjalcljnaaInts
import Derived.Test.YtikoehjalcljnaaBase
import Derived.Deep.Slices
import Derived.Deep.Strs
import Derived.Lib.SmallJoins
import Derived.Deep.RegionWith
import Derived.BigRegion
set_option linter.unusedVariables false
namespace Go.Proofs.Ytikoehjalcljnaa
open Go.ChangeShapes Go.WideShapes Go.ChangeAt Go.RowKit Go.Deep

abbrev Gt := ByteArray × Int × Int × Int × Int
def zG : Gt := (ByteArray.empty, 0, 0, 0, 0)
/-- The cells, one element after the other. -/
def flatG : List Gt → List Value
  | [] => []
  | r :: rs => .string (r.1) :: .int .i64 (r.2.1) :: .int .i64 (r.2.2.1) :: .int .i64 (r.2.2.2.1) :: .int .i64 (r.2.2.2.2) :: flatG rs
theorem flatG_len (rs : List Gt) : (flatG rs).length = rs.length * 5 := by
  induction rs with
  | nil => rfl
  | cons r rs ih => simp [flatG, ih]; omega
theorem flatG_get (rs : List Gt) (j : Nat) (h : j < rs.length) : (flatG rs)[j * 5]? = some (.string ((rs.getD j zG).1)) ∧ (flatG rs)[j * 5 + 1]? = some (.int .i64 ((rs.getD j zG).2.1)) ∧ (flatG rs)[j * 5 + 2]? = some (.int .i64 ((rs.getD j zG).2.2.1)) ∧ (flatG rs)[j * 5 + 3]? = some (.int .i64 ((rs.getD j zG).2.2.2.1)) ∧ (flatG rs)[j * 5 + 4]? = some (.int .i64 ((rs.getD j zG).2.2.2.2)) := by
  induction rs generalizing j with
  | nil => simp at h
  | cons r rs ih =>
    match j with
    | 0 => simp [flatG]
    | j + 1 =>
      have := ih j (by simpa using h)
      have e : (j + 1) * 5 = j * 5 + 5 := by omega
      rw [e]
      simpa [flatG] using this
theorem flatG_set (rs : List Gt) (j : Nat) (r : Gt) : ((((((flatG rs).set (j * 5) (.string r.1)).set (j * 5 + 1) (.int .i64 r.2.1)).set (j * 5 + 2) (.int .i64 r.2.2.1)).set (j * 5 + 3) (.int .i64 r.2.2.2.1)).set (j * 5 + 4) (.int .i64 r.2.2.2.2)) = flatG (rs.set j r) := by
  induction rs generalizing j with
  | nil => rfl
  | cons q rs ih =>
    match j with
    | 0 => simp [flatG]
    | j + 1 =>
      have e : (j + 1) * 5 = j * 5 + 5 := by omega
      have := ih j
      rw [e]
      simpa [flatG] using this
/-- Block b holds the element r from o on. -/
structure GIn (w : World) (b o : Nat) (r : Gt) : Prop where
  c0 : w.cell? ⟨b, o, none⟩ = some (.string (r.1))
  c1 : w.cell? ⟨b, o + 1, none⟩ = some (.int .i64 (r.2.1))
  c2 : w.cell? ⟨b, o + 2, none⟩ = some (.int .i64 (r.2.2.1))
  c3 : w.cell? ⟨b, o + 3, none⟩ = some (.int .i64 (r.2.2.2.1))
  c4 : w.cell? ⟨b, o + 4, none⟩ = some (.int .i64 (r.2.2.2.2))
theorem Gin_kept {w w' : World} {b o : Nat} {r : Gt} (hb : Below w.heap.size w w') (hl : b < w.heap.size) (h : GIn w b o r) : GIn w' b o r :=
  ⟨(below_cell hb _ _ hl).trans h.c0, (below_cell hb _ _ hl).trans h.c1, (below_cell hb _ _ hl).trans h.c2, (below_cell hb _ _ hl).trans h.c3, (below_cell hb _ _ hl).trans h.c4⟩
/-- The slice v reads as rs. -/
def IngsAt (w : World) (v : Value) (rs : List Gt) : Prop :=
  rs.length ≤ 1048576 ∧ ((∃ a c, v = .slice a 0 c ∧ rs = []) ∨ ∃ b off cap, v = .slice (some ⟨b, off, none⟩) rs.length cap ∧ b < w.heap.size ∧ ∀ i, i < rs.length → GIn w b (off + i * 5) (rs.getD i zG))
/-- .. in a block of its own, from B on, that may be written. -/
def OwnIngs (w : World) (B : Nat) (v : Value) (rs : List Gt) : Prop := ∃ g cap, v = .slice (some ⟨g, 0, none⟩) rs.length cap ∧ B ≤ g ∧ g < w.heap.size ∧ w.ownsRow B 60 5 v rs.length (flatG rs)
theorem ings_kept {w w' : World} {v : Value} {rs : List Gt} (hb : Below w.heap.size w w') (h : IngsAt w v rs) : IngsAt w' v rs := by
  obtain ⟨hl, h | ⟨b, off, cap, rfl, hlt, hc⟩⟩ := h
  · exact ⟨hl, .inl h⟩
  · exact ⟨hl, .inr ⟨b, off, cap, rfl, Nat.lt_of_lt_of_le hlt hb.size, fun i hi => Gin_kept hb hlt (hc i hi)⟩⟩
theorem own_inG {w : World} {B g n cap : Nat} {T : TypeId} {rs : List Gt} (hn : rs.length = n) (h : w.ownsRow B T 5 (.slice (some ⟨g, 0, none⟩) n cap) n (flatG rs)) (i : Nat) (hi : i < n) : GIn w g (i * 5) (rs.getD i zG) := by
  obtain ⟨g0, g1, g2, g3, g4⟩ := flatG_get rs i (by omega)
  exact ⟨(h.cellAt (i * 5) (by omega)).trans g0, (h.cellAt (i * 5 + 1) (by omega)).trans g1, (h.cellAt (i * 5 + 2) (by omega)).trans g2, (h.cellAt (i * 5 + 3) (by omega)).trans g3, (h.cellAt (i * 5 + 4) (by omega)).trans g4⟩
theorem own_ings {w : World} {B : Nat} {v : Value} {rs : List Gt} (hl : rs.length ≤ 1048576) (h : OwnIngs w B v rs) : IngsAt w v rs := by
  obtain ⟨g, cap, rfl, _, hg, hown⟩ := h
  refine ⟨hl, .inr ⟨g, 0, cap, rfl, hg, fun i hi => ?_⟩⟩
  rw [Nat.zero_add]
  exact own_inG rfl hown i hi
theorem own_ings_form {w : World} {B : Nat} {v : Value} {rs : List Gt} (h : OwnIngs w B v rs) : ∃ a c, v = .slice a rs.length c := by
  obtain ⟨g, cap, rfl, _⟩ := h
  exact ⟨_, _, rfl⟩
theorem ings_form {w : World} {v : Value} {zs : List Gt} (h : IngsAt w v zs) : ∃ a c, v = .slice a zs.length c := by
  obtain ⟨_, ⟨a, c, rfl, rfl⟩ | ⟨b, off, cap, rfl, _⟩⟩ := h
  · exact ⟨_, _, rfl⟩
  · exact ⟨_, _, rfl⟩
theorem ings_cells {w : World} {v : Value} {rs : List Gt} (h : IngsAt w v rs) (h0 : 0 < rs.length) : ∃ b off cap, v = .slice (some ⟨b, off, none⟩) rs.length cap ∧ b < w.heap.size ∧ ∀ i, i < rs.length → GIn w b (off + i * 5) (rs.getD i zG) := by
  obtain ⟨_, ⟨a, c, _, rfl⟩ | h⟩ := h
  · simp at h0
  · exact h
theorem infoG : (Try.prog.info? 60).map (fun i => (i.zero, i.size, i.bytes)) = some (some (.agg #[.string ByteArray.empty, .int .i64 0, .int .i64 0, .int .i64 0, .int .i64 0]), 5, 48) := by kernel_rfl
def copiedG (rs : List Gt) (k : Nat) : List Gt := rs.take k ++ List.replicate (rs.length - k) zG
theorem copiedG_len (rs : List Gt) (k : Nat) (h : k ≤ rs.length) : (copiedG rs k).length = rs.length := by simp [copiedG]; omega
theorem copiedG_next (rs : List Gt) (k : Nat) (h : k < rs.length) : (copiedG rs k).set k (rs.getD k zG) = copiedG rs (k + 1) := by
  unfold copiedG
  rw [show rs.length - k = rs.length - (k + 1) + 1 from by omega, List.replicate_succ, List.set_append_right _ _ (by simp; omega), List.length_take,
    Nat.min_eq_left (by omega), Nat.sub_self, List.set_cons_zero, List.take_succ_eq_append_getElem h]
  simp only [List.append_assoc, List.singleton_append, List.getD_eq_getElem?_getD, List.getElem?_eq_getElem h, Option.getD_some]
theorem copiedG_all (rs : List Gt) : copiedG rs rs.length = rs := by simp [copiedG]
theorem made_ings (n : Nat) : (madeCells (Value.cells (.agg #[.string ByteArray.empty, .int .i64 0, .int .i64 0, .int .i64 0, .int .i64 0])) (n * 5)).toList = flatG (List.replicate n zG) := by
  apply List.ext_getElem?
  intro j
  have hL : (flatG (List.replicate n zG)).length = n * 5 := by rw [flatG_len, List.length_replicate]
  by_cases h : j < n * 5
  · obtain ⟨i, f, rfl, hf⟩ : ∃ i f, j = i * 5 + f ∧ f < 5 := ⟨j / 5, j % 5, by omega, by omega⟩
    have hi : i < n := by omega
    obtain ⟨g0, g1, g2, g3, g4⟩ := flatG_get (List.replicate n zG) i (by rw [List.length_replicate]; exact hi)
    have hz : (List.replicate n zG).getD i zG = zG := by simp [List.getD, hi]
    rw [hz] at g0 g1 g2 g3 g4
    have hm : (i * 5 + f) % 5 = f := by omega
    unfold madeCells
    rcases (by omega : f = 0 ∨ f = 1 ∨ f = 2 ∨ f = 3 ∨ f = 4) with rfl | rfl | rfl | rfl | rfl
    · rw [Nat.add_zero] at h hm ⊢; rw [g0]; simp [h, Value.cells, hm, zG]
    · rw [g1]; simp [h, Value.cells, hm, zG]
    · rw [g2]; simp [h, Value.cells, hm, zG]
    · rw [g3]; simp [h, Value.cells, hm, zG]
    · rw [g4]; simp [h, Value.cells, hm, zG]
  · rw [List.getElem?_eq_none (by unfold madeCells; simp; omega), List.getElem?_eq_none (by omega)]
theorem row_keepG {w w' : World} {B sz : Nat} {e : TypeId} {v : Value} {n : Nat} {xs : List Value} (hb : Below w.heap.size w w') (h : w.ownsRow B e sz v n xs) : w'.ownsRow B e sz v n xs :=
  h.kept (row := none) ⟨hb.os, hb.tape, hb.output, hb.size, fun k hk _ => hb.block k hk⟩ (by cases hv : v.ownBlock <;> simp)
theorem storeG {w : World} {B g n cap : Nat} {rs : List Gt} (h : w.ownsRow B 60 5 (.slice (some ⟨g, 0, none⟩) n cap) n (flatG rs)) (j : Nat) (r : Gt) :
    (((((w.setCell ⟨g, j * 5, none⟩ (.string r.1)).setCell ⟨g, j * 5 + 1, none⟩ (.int .i64 r.2.1)).setCell ⟨g, j * 5 + 2, none⟩ (.int .i64 r.2.2.1)).setCell ⟨g, j * 5 + 3, none⟩ (.int .i64 r.2.2.2.1)).setCell ⟨g, j * 5 + 4, none⟩ (.int .i64 r.2.2.2.2)).ownsRow B 60 5 (.slice (some ⟨g, 0, none⟩) n cap) n (flatG (rs.set j r)) := by
  have h1 := (h.stored (j * 5) (.string r.1)).1
  have h2 := (h1.stored (j * 5 + 1) (.int .i64 r.2.1)).1
  have h3 := (h2.stored (j * 5 + 2) (.int .i64 r.2.2.1)).1
  have h4 := (h3.stored (j * 5 + 3) (.int .i64 r.2.2.2.1)).1
  have h5 := (h4.stored (j * 5 + 4) (.int .i64 r.2.2.2.2)).1
  rw [flatG_set] at h5
  exact h5
theorem results_cellGs {P : Program} {fn : Func} {p : Tmp} {ty : TypeId} (h : fn.results = #[.cell p ty]) (tmps : Array Value) (w : World) :
    (results fn tmps).run P w = ((asAddr (tmps.getD p undef)).run P w).andThen fun a w1 => (loadVar ty a).run P w1 := by
  simp only [results, h]
  simp [Sem.run_bind, Result.andThen]
theorem alloc_ltG (w : World) (o : Obj) : w.heap.size < (w.alloc o).heap.size := by show _ < (w.heap.push o).size; rw [Array.size_push]; omega
theorem below_alG (w : World) (o : Obj) : Below w.heap.size w (w.alloc o) := (Below.refl _ _).alloc (Nat.le_refl _) o
/-- Block p holds one. -/
def GBlk (w : World) (p : Nat) (r : Gt) : Prop := GIn w p 0 r
theorem Gblk_new (w : World) (r : Gt) (T : TypeId) : GBlk (w.alloc (.cells #[.string r.1, .int .i64 r.2.1, .int .i64 r.2.2.1, .int .i64 r.2.2.2.1, .int .i64 r.2.2.2.2] T)) w.heap.size r := ⟨by go_simp, by go_simp, by go_simp, by go_simp, by go_simp⟩
set_option maxHeartbeats 1000000 in
theorem toAlloy_any (x2 x3 x4 : Int) (w : World) :
    Calls Try.prog 20 #[.agg #[.int .i64 x2, .int .i64 x3, .int .i64 x4]] w fun e w' => e = .returned (.agg #[.int .i64 x2, .int .i64 x3, .int .i64 x4]) ∧ Below w.heap.size w w' := by
  go_enter Try.func20, Try.ntmps20
  go_wp2
  try simp only [Exit.inBlock, Exit.then]
  refine bodyPost_ret_by (v := .agg #[.int .i64 x2, .int .i64 x3, .int .i64 x4]) (by rw [results_cellGs rfl]; go_simp) rfl ?_
  exact ⟨rfl, (((Below.refl _ _).alloc (Nat.le_refl _) _).alloc (by simp) _).alloc (by simp <;> omega) _⟩
set_option maxHeartbeats 1000000 in
theorem eqAlloy_any (x2 x3 x4 : Int) (w : World) : Calls Try.prog 37 #[.agg #[.int .i64 x2, .int .i64 x3, .int .i64 x4], .agg #[.int .i64 x2, .int .i64 x3, .int .i64 x4]] w fun e w' => e = .returned (.bool true) ∧ Below w.heap.size w w' := by

  have hx2 : (x2 != x2) = false := by simp
  have hx3 : (x3 != x3) = false := by simp
  have hx4 : (x4 != x4) = false := by simp
  go_enter Try.func37, Try.ntmps37
  go_wp2
  go_ret
  exact ⟨rfl, ((Below.refl _ _).alloc (Nat.le_refl _) _).alloc (by simp) _⟩
def CleanG (w : World) (g : Nat) : Prop := GBlk w g zG ∧ ∀ i, w.frozen? ⟨g, i, none⟩ = false
set_option maxHeartbeats 2000000 in
theorem toIngot_any (x0 : ByteArray) (x1 x2 x3 x4 : Int) (w : World) :
    Calls Try.prog 32 #[.agg #[.string x0, .int .i64 x1, .int .i64 x2, .int .i64 x3, .int .i64 x4]] w fun e w' => e = .returned (.agg #[.string x0, .int .i64 x1, .int .i64 x2, .int .i64 x3, .int .i64 x4]) ∧ Below w.heap.size w w' := by
  have hba : Below w.heap.size w (((w.alloc (.cells #[.string x0, .int .i64 x1, .int .i64 x2, .int .i64 x3, .int .i64 x4] 55)).alloc (.cells #[.string ByteArray.empty, .int .i64 0, .int .i64 0, .int .i64 0, .int .i64 0] 60)).alloc (.cells #[.string ByteArray.empty, .int .i64 0, .int .i64 0, .int .i64 0, .int .i64 0] 60)) := (((below_alG _ _)).alloc (by simp) _).alloc (by simp <;> omega) _
  have HBA := Lib.hid hba
  clear hba
  go_enter Try.func32, Try.ntmps32
  go_wp2_with fail
  refine (toAlloy_any x2 x3 x4 _).mono ?_
  rintro e w1 ⟨rfl, hb⟩
  have a0 : w1.cell? ⟨w.heap.size, 0, none⟩ = some (.string (x0)) := by rw [below_cell hb _ _ (by simp <;> omega)]; go_simp
  have a1 : w1.cell? ⟨w.heap.size, 1, none⟩ = some (.int .i64 (x1)) := by rw [below_cell hb _ _ (by simp <;> omega)]; go_simp
  have a2 : w1.cell? ⟨w.heap.size, 2, none⟩ = some (.int .i64 (x2)) := by rw [below_cell hb _ _ (by simp <;> omega)]; go_simp
  have a3 : w1.cell? ⟨w.heap.size, 3, none⟩ = some (.int .i64 (x3)) := by rw [below_cell hb _ _ (by simp <;> omega)]; go_simp
  have a4 : w1.cell? ⟨w.heap.size, 4, none⟩ = some (.int .i64 (x4)) := by rw [below_cell hb _ _ (by simp <;> omega)]; go_simp
  have b10 : w1.cell? ⟨w.heap.size + 1, 0, none⟩ = some (.string ⟨#[]⟩) := by rw [below_cell hb _ _ (by simp <;> omega)]; go_simp
  have f10 : w1.frozen? ⟨w.heap.size + 1, 0, none⟩ = false := by rw [below_frozen hb _ _ (by simp <;> omega)]; go_simp
  have b11 : w1.cell? ⟨w.heap.size + 1, 1, none⟩ = some (.int .i64 0) := by rw [below_cell hb _ _ (by simp <;> omega)]; go_simp
  have f11 : w1.frozen? ⟨w.heap.size + 1, 1, none⟩ = false := by rw [below_frozen hb _ _ (by simp <;> omega)]; go_simp
  have b12 : w1.cell? ⟨w.heap.size + 1, 2, none⟩ = some (.int .i64 0) := by rw [below_cell hb _ _ (by simp <;> omega)]; go_simp
  have f12 : w1.frozen? ⟨w.heap.size + 1, 2, none⟩ = false := by rw [below_frozen hb _ _ (by simp <;> omega)]; go_simp
  have b13 : w1.cell? ⟨w.heap.size + 1, 3, none⟩ = some (.int .i64 0) := by rw [below_cell hb _ _ (by simp <;> omega)]; go_simp
  have f13 : w1.frozen? ⟨w.heap.size + 1, 3, none⟩ = false := by rw [below_frozen hb _ _ (by simp <;> omega)]; go_simp
  have b14 : w1.cell? ⟨w.heap.size + 1, 4, none⟩ = some (.int .i64 0) := by rw [below_cell hb _ _ (by simp <;> omega)]; go_simp
  have f14 : w1.frozen? ⟨w.heap.size + 1, 4, none⟩ = false := by rw [below_frozen hb _ _ (by simp <;> omega)]; go_simp
  have b20 : w1.cell? ⟨w.heap.size + 1 + 1, 0, none⟩ = some (.string (x0)) := by rw [below_cell hb _ _ (by simp <;> omega)]; go_simp
  have f20 : w1.frozen? ⟨w.heap.size + 1 + 1, 0, none⟩ = false := by rw [below_frozen hb _ _ (by simp <;> omega)]; go_simp
  have b21 : w1.cell? ⟨w.heap.size + 1 + 1, 1, none⟩ = some (.int .i64 (x1)) := by rw [below_cell hb _ _ (by simp <;> omega)]; go_simp
  have f21 : w1.frozen? ⟨w.heap.size + 1 + 1, 1, none⟩ = false := by rw [below_frozen hb _ _ (by simp <;> omega)]; go_simp
  have b22 : w1.cell? ⟨w.heap.size + 1 + 1, 2, none⟩ = some (.int .i64 0) := by rw [below_cell hb _ _ (by simp <;> omega)]; go_simp
  have f22 : w1.frozen? ⟨w.heap.size + 1 + 1, 2, none⟩ = false := by rw [below_frozen hb _ _ (by simp <;> omega)]; go_simp
  have b23 : w1.cell? ⟨w.heap.size + 1 + 1, 3, none⟩ = some (.int .i64 0) := by rw [below_cell hb _ _ (by simp <;> omega)]; go_simp
  have f23 : w1.frozen? ⟨w.heap.size + 1 + 1, 3, none⟩ = false := by rw [below_frozen hb _ _ (by simp <;> omega)]; go_simp
  have b24 : w1.cell? ⟨w.heap.size + 1 + 1, 4, none⟩ = some (.int .i64 0) := by rw [below_cell hb _ _ (by simp <;> omega)]; go_simp
  have f24 : w1.frozen? ⟨w.heap.size + 1 + 1, 4, none⟩ = false := by rw [below_frozen hb _ _ (by simp <;> omega)]; go_simp
  have hz : w.heap.size + 3 ≤ w1.heap.size := by have := hb.size; simp at this; omega
  have HB1 := Lib.hid (below_of (B := w.heap.size) (((below_alG _ _).alloc (by simp) _).alloc (by simp <;> omega) _) hb (by simp <;> omega))
  clear hb
  go_wp2
  refine bodyPost_ret (v := .agg #[.string x0, .int .i64 x1, .int .i64 x2, .int .i64 x3, .int .i64 x4]) (by simp [results, Try.results32, go_sem, b10, b11, b12, b13, b14]) rfl ⟨rfl, ?_⟩
  repeat (first | with_reducible exact HB1.out | refine Below.setCell ?_ (by simp <;> omega) _)
set_option maxHeartbeats 2000000 in
theorem eqIngot_any (x0 : ByteArray) (x1 x2 x3 x4 : Int) (w : World) : Calls Try.prog 55 #[.agg #[.string x0, .int .i64 x1, .int .i64 x2, .int .i64 x3, .int .i64 x4], .agg #[.string x0, .int .i64 x1, .int .i64 x2, .int .i64 x3, .int .i64 x4]] w fun e w' => e = .returned (.bool true) ∧ Below w.heap.size w w' := by
  have hs : (x0.toList != x0.toList) = false := by simp
  have hx1 : (x1 != x1) = false := by simp
  have hba : Below w.heap.size w ((w.alloc (.cells #[.string x0, .int .i64 x1, .int .i64 x2, .int .i64 x3, .int .i64 x4] 60)).alloc (.cells #[.string x0, .int .i64 x1, .int .i64 x2, .int .i64 x3, .int .i64 x4] 60)) := (below_alG _ _).alloc (by simp) _
  have HBA := Lib.hid hba
  clear hba
  go_enter Try.func55, Try.ntmps55
  go_wp2_with fail
  refine (eqAlloy_any x2 x3 x4 _).mono ?_
  rintro e w1 ⟨rfl, hb⟩
  have HB := Lib.hid (below_of HBA.out hb HBA.out.size)
  clear hb
  go_wp2
  go_ret
  exact ⟨rfl, HB.out⟩
set_option maxHeartbeats 2000000 in
set_option maxRecDepth 100000 in
theorem toIngs_some (rs : List Gt) (b off cap : Nat) (w : World) (hl : rs.length ≤ 1048576) (hlt : b < w.heap.size) (hc : ∀ i, i < rs.length → GIn w b (off + i * 5) (rs.getD i zG)) (n : Nat) (hn : Hid (rs.length = n)) :
    Calls Try.prog 24 #[.slice (some ⟨b, off, none⟩) n cap] w fun e w' => ∃ g, e = .returned (.slice (some ⟨g, 0, none⟩) n n) ∧ w.heap.size ≤ g ∧ g < w'.heap.size ∧ w'.ownsRow w.heap.size 60 5 (.slice (some ⟨g, 0, none⟩) n n) n (flatG rs) ∧ Below w.heap.size w w' := by
  obtain ⟨i0, hi, hz0, hz1, hz2⟩ := info_parts infoG
  have hn1 : n ≤ 1048576 := by rw [← hn.out]; exact hl
  have HC := Lib.hid hc
  clear hc hl
  go_enter Try.func24, Try.ntmps24
  go_wp2_with (at_make; refine wpList_make_full _ rfl _ _ 44 rfl w.heap.size 60 i0 (.agg #[.string ByteArray.empty, .int .i64 0, .int .i64 0, .int .i64 0, .int .i64 0]) 5 Try.underlying44 hi hz0 hz1 .i64 .i64 _ _ n rfl rfl rfl rfl (by rw [hz2]; omega) (by unfold maxLen; omega) (Nat.le_refl _) ?_; intro w0 hown hgrow)
  have HB0 := Lib.hid ((Below.refl w.heap.size w).grown hgrow (Nat.le_refl _) (fun k hk => by cases hk))
  rw [made_ings] at hown
  have HO0 := Lib.hid (show w0.ownsRow w.heap.size 60 5 (.slice (some ⟨w.heap.size, 0, none⟩) n n) n (flatG (copiedG rs 0)) by
    unfold copiedG; rw [hn.out, Nat.sub_zero, List.take_zero, List.nil_append]; exact hown)
  clear hgrow hown
  go_wp2
  go_loopw [4] (fun i wr => ∃ k : Nat, k ≤ n ∧ i = .int .i64 k ∧ wr.ownsRow w.heap.size 60 5 (.slice (some ⟨w.heap.size, 0, none⟩) n n) n (flatG (copiedG rs k)) ∧ Below w.heap.size w wr) (fun i _ => n - (intOf i).toNat)
  case atStart => exact ⟨0, by omega, rfl, HO0.out, HB0.out⟩
  case round =>
    obtain ⟨k, hk, rfl, hown, hbw⟩ := hrel
    by_cases hlt2 : k < n
    · obtain ⟨c0, c1, c2, c3, c4⟩ := Gin_kept hbw hlt (HC.out k (by rw [hn.out]; exact hlt2))
      obtain ⟨⟨x0, x1, x2, x3, x4⟩, hxyz⟩ : ∃ r, rs.getD k zG = r := ⟨_, rfl⟩
      rw [hxyz] at c0 c1 c2 c3 c4
      simp only at c0 c1 c2 c3 c4
      have HN := Lib.hid (show (copiedG rs k).set k (x0, x1, x2, x3, x4) = copiedG rs (k + 1) by rw [← hxyz]; exact copiedG_next rs k (by rw [hn.out]; exact hlt2))
      have HL := Lib.hid (show (copiedG rs k).length = n by rw [copiedG_len _ _ (by rw [hn.out]; omega), hn.out])
      have HO := Lib.hid hown
      have HB := Lib.hid hbw
      clear hown hbw hxyz
      generalize copiedG rs k = cs at *
      have hkn : (k : Int) < (n : Int) := by omega
      have hk0 : (0 : Int) ≤ (k : Int) := by omega
      go_wp2_with fail
      refine (toIngot_any x0 x1 x2 x3 x4 _).mono ?_
      rintro e w2 ⟨rfl, hb2⟩
      have HO2 := Lib.hid (row_keepG hb2 HO.out)
      have HB2 := Lib.hid (below_of HB.out hb2 HB.out.size)
      obtain ⟨d0, d1, d2, d3, d4⟩ := own_inG HL.out HO2.out k hlt2
      generalize cs.getD k zG = old at *
      have f0 := HO2.out.frozenAt (k * 5)
      have f1 := HO2.out.frozenAt (k * 5 + 1)
      have f2 := HO2.out.frozenAt (k * 5 + 2)
      have f3 := HO2.out.frozenAt (k * 5 + 3)
      have f4 := HO2.out.frozenAt (k * 5 + 4)
      have HS := Lib.hid (storeG HO2.out k (x0, x1, x2, x3, x4))
      clear hb2
      go_wp2
      go_roundw
      case rel => exact ⟨k + 1, by omega, by go_num, by rw [← HN.out]; exact HS.out, (((((HB2.out.setCell (Nat.le_refl _) _).setCell (Nat.le_refl _) _).setCell (Nat.le_refl _) _).setCell (Nat.le_refl _) _).setCell (Nat.le_refl _) _)⟩
      case measure => simp [intOf]; omega
    · obtain rfl : k = n := by omega
      have HO := Lib.hid hown
      have HB := Lib.hid hbw
      clear hown hbw
      have hc2 : copiedG rs k = rs := by rw [← hn.out]; exact copiedG_all rs
      rw [hc2] at HO
      clear hc2
      go_wp2
      go_ret
      exact ⟨w.heap.size, rfl, Nat.le_refl _, (HO.out.lt _ rfl).2, HO.out, HB.out⟩
set_option maxRecDepth 100000 in
theorem toIngs_none (a : Option Addr) (c : Nat) (w : World) :
    Calls Try.prog 24 #[.slice a 0 c] w fun e w' => ∃ g, e = .returned (.slice (some ⟨g, 0, none⟩) 0 0) ∧ w.heap.size ≤ g ∧ g < w'.heap.size ∧ w'.ownsRow w.heap.size 60 5 (.slice (some ⟨g, 0, none⟩) 0 0) 0 (flatG []) ∧ Below w.heap.size w w' := by
  obtain ⟨i0, hi, hz0, hz1, hz2⟩ := info_parts infoG
  go_enter Try.func24, Try.ntmps24
  go_wp2_with (at_make; refine wpList_make_full _ rfl _ _ 44 rfl w.heap.size 60 i0 (.agg #[.string ByteArray.empty, .int .i64 0, .int .i64 0, .int .i64 0, .int .i64 0]) 5 Try.underlying44 hi hz0 hz1 .i64 .i64 _ _ 0 rfl rfl rfl rfl (by omega) (by unfold maxLen; omega) (Nat.le_refl _) ?_; intro w0 hown hgrow)
  have HB0 := Lib.hid ((Below.refl w.heap.size w).grown hgrow (Nat.le_refl _) (fun k hk => by cases hk))
  rw [made_ings] at hown
  have HO0 := Lib.hid hown
  clear hgrow hown
  go_wp2
  refine wp_loop_rounds 1 ?_
  rw [rounds_succ]
  go_wp2
  go_ret
  exact ⟨w.heap.size, rfl, Nat.le_refl _, (HO0.out.lt _ rfl).2, HO0.out, HB0.out⟩
def CopyIngs (w : World) (rs : List Gt) (e : Ending) (w' : World) : Prop := ∃ v, e = .returned v ∧ OwnIngs w' w.heap.size v rs ∧ Below w.heap.size w w'
theorem toIngs_any (rs : List Gt) (v : Value) (w : World) (h : IngsAt w v rs) : Calls Try.prog 24 #[v] w (CopyIngs w rs) := by
  obtain ⟨hl, ⟨a, c, rfl, rfl⟩ | ⟨b, off, cap, rfl, hlt, hc⟩⟩ := h
  · refine (toIngs_none a c w).mono ?_
    rintro e w' ⟨g, rfl, h1, h2, h3, h4⟩
    exact ⟨_, rfl, ⟨g, _, rfl, h1, h2, h3⟩, h4⟩
  · refine (toIngs_some rs b off cap w hl hlt hc _ (Lib.hid rfl)).mono ?_
    rintro e w' ⟨g, rfl, h1, h2, h3, h4⟩
    exact ⟨_, rfl, ⟨g, _, rfl, h1, h2, h3⟩, h4⟩
set_option maxHeartbeats 2000000 in
theorem eqIngs_some (rs : List Gt) (b o c b2 o2 c2 : Nat) (w : World) (n : Nat) (hn1 : n ≤ 1048576) (hb : b < w.heap.size) (hb2 : b2 < w.heap.size)
    (h1 : ∀ i, i < n → GIn w b (o + i * 5) (rs.getD i zG)) (h2 : ∀ i, i < n → GIn w b2 (o2 + i * 5) (rs.getD i zG)) :
    Calls Try.prog 26 #[.slice (some ⟨b, o, none⟩) n c, .slice (some ⟨b2, o2, none⟩) n c2] w fun e w' => e = .returned (.bool true) ∧ Below w.heap.size w w' := by
  have H1 := Lib.hid h1
  have H2 := Lib.hid h2
  clear h1 h2
  have hne : ((n : Int) != n) = false := by simp
  go_enter Try.func26, Try.ntmps26
  go_wp2
  go_loopw [5] (fun i wr => ∃ k : Nat, k ≤ n ∧ i = .int .i64 k ∧ Below w.heap.size w wr) (fun i _ => n - (intOf i).toNat)
  case atStart => exact ⟨0, by omega, rfl, Below.refl _ _⟩
  case round =>
    obtain ⟨k, hk, rfl, hbw⟩ := hrel
    have HB := Lib.hid hbw
    clear hbw
    by_cases hlt : k < n
    · obtain ⟨c0, c1, c2, c3, c4⟩ := Gin_kept HB.out hb (H1.out k hlt)
      obtain ⟨d0, d1, d2, d3, d4⟩ := Gin_kept HB.out hb2 (H2.out k hlt)
      generalize rs.getD k zG = r at *
      obtain ⟨x0, x1, x2, x3, x4⟩ := r
      simp only at c0 c1 c2 c3 c4 d0 d1 d2 d3 d4
      have hlt1 : (k : Int) < (n : Int) := by omega
      have hk0 : (0 : Int) ≤ (k : Int) := by omega
      go_wp2
      go_region_with (go_at_call 55; refine (eqIngot_any x0 x1 x2 x3 x4 _).mono ?_; rintro e w2 ⟨rfl, hb5⟩)
      all_goals
        have HB5 := Lib.hid (HB.out.trans ((show Below wr.heap.size wr w2 from ⟨hb5.os, hb5.tape, hb5.output, hb5.size, hb5.block⟩).mono HB.out.size))
        clear hb5
        go_wp2
        go_roundw
        case rel => exact ⟨k + 1, by omega, by go_num, HB5.out⟩
        case measure => simp [intOf]; omega
    · go_wp2
      go_ret
      exact ⟨rfl, HB.out⟩
theorem eqIngs_zero (a a2 : Option Addr) (c c2 : Nat) (w : World) :
    Calls Try.prog 26 #[.slice a 0 c, .slice a2 0 c2] w fun e w' => e = .returned (.bool true) ∧ Below w.heap.size w w' := by
  go_enter Try.func26, Try.ntmps26
  go_wp2
  refine wp_loop_rounds 1 ?_
  rw [rounds_succ]
  go_wp2
  go_ret
  exact ⟨rfl, Below.refl _ _⟩
theorem eqIngs_at (zs : List Gt) (v1 v2 : Value) (w : World) (h1 : IngsAt w v1 zs) (h2 : IngsAt w v2 zs) :
    Calls Try.prog 26 #[v1, v2] w fun e w' => e = .returned (.bool true) ∧ Below w.heap.size w w' := by
  obtain ⟨hl, ⟨a, c, rfl, rfl⟩ | ⟨b, off, cap, rfl, hb, hc⟩⟩ := h1
  · obtain ⟨a2, c2, rfl⟩ := ings_form h2
    exact eqIngs_zero a a2 c c2 w
  · obtain ⟨_, ⟨a, c, rfl, rfl⟩ | ⟨b2, off2, cap2, rfl, hb2, hc2⟩⟩ := h2
    · exact eqIngs_zero _ _ _ _ w
    · exact eqIngs_some zs b off cap b2 off2 cap2 w _ hl hb hb2 hc hc2
/-- How long the strings of the first k elements are together. -/
def lenG (rs : List Gt) : Nat → Nat
  | 0 => 0
  | k + 1 => lenG rs k + (rs.getD k zG).1.size
theorem lenG_mono (rs : List Gt) {j k : Nat} (h : j ≤ k) : lenG rs j ≤ lenG rs k := by
  induction k with
  | zero => obtain rfl : j = 0 := by omega
            exact Nat.le_refl _
  | succ k ih =>
    by_cases e : j = k + 1
    · subst e; exact Nat.le_refl _
    · have := ih (by omega)
      show lenG rs j ≤ lenG rs k + (rs.getD k zG).1.size
      omega
/-- What is left of the laws' bound. -/
def leftG (n q : Nat) : Int := if n + q ≤ 1048576 then (1048576 : Int) - n - q else -1
theorem leftG_yes {n q : Nat} (h : n + q ≤ 1048576) : leftG n q = (1048576 : Int) - n - q := by unfold leftG; rw [if_pos h]
theorem leftG_no {n q : Nat} (h : ¬ n + q ≤ 1048576) : leftG n q = -1 := by unfold leftG; rw [if_neg h]
/-- The strings of a list are no longer than strings are. -/
def SzOkG (rs : List Gt) : Prop := ∀ i, i < rs.length → (rs.getD i zG).1.size ≤ maxLen
theorem szIngot_any (x0 : ByteArray) (x1 x2 x3 x4 : Int) (left : Int) (w : World) (hs : x0.size ≤ 9223372036854775807) (h0 : 0 ≤ left) (h1 : left ≤ 1048576) :
    Calls Try.prog 30 #[.agg #[.string x0, .int .i64 x1, .int .i64 x2, .int .i64 x3, .int .i64 x4], .int .i64 left] w fun e w' => e = .returned (.int .i64 (if left - (x0.size : Int) < 0 then -1 else left - x0.size)) ∧ Below w.heap.size w w' := by
  by_cases h : left - (x0.size : Int) < 0
  · rw [if_pos h]
    go_enter Try.func30, Try.ntmps30
    go_wp2
    go_ret
    exact ⟨rfl, (Below.refl _ _).alloc (Nat.le_refl _) _⟩
  · rw [if_neg h]
    go_enter Try.func30, Try.ntmps30
    go_wp2
    go_ret
    exact ⟨rfl, (Below.refl _ _).alloc (Nat.le_refl _) _⟩
theorem szIngs_big (a : Option Addr) (n c : Nat) (w : World) (hn : n ≤ 9223372036854775807) (hb : 1048576 < n) :
    Calls Try.prog 22 #[.slice a n c, .int .i64 1048576] w fun e w' => e = .returned (.int .i64 (-1)) ∧ Below w.heap.size w w' := by
  have h : (1048576 : Int) - (n : Int) < 0 := by omega
  go_enter Try.func22, Try.ntmps22
  go_wp2
  go_ret
  exact ⟨rfl, Below.refl _ _⟩
theorem szIngs_none (a : Option Addr) (c : Nat) (w : World) :
    Calls Try.prog 22 #[.slice a 0 c, .int .i64 1048576] w fun e w' => e = .returned (.int .i64 1048576) ∧ Below w.heap.size w w' := by
  go_enter Try.func22, Try.ntmps22
  go_wp2
  refine wp_loop_rounds 1 ?_
  rw [rounds_succ]
  go_wp2
  go_ret
  exact ⟨rfl, Below.refl _ _⟩
set_option maxHeartbeats 2000000 in
theorem szIngs_some (rs : List Gt) (b off cap n : Nat) (w : World) (hn : Hid (rs.length = n)) (hn1 : n ≤ 1048576) (hbl : b < w.heap.size) (hc : ∀ i, i < n → GIn w b (off + i * 5) (rs.getD i zG)) (hsz : ∀ i, i < n → (rs.getD i zG).1.size ≤ 9223372036854775807) :
    Calls Try.prog 22 #[.slice (some ⟨b, off, none⟩) n cap, .int .i64 1048576] w fun e w' => e = .returned (.int .i64 (leftG n (lenG rs n))) ∧ Below w.heap.size w w' := by
  have HC := Lib.hid hc
  have HSZ := Lib.hid hsz
  have h : ¬ (1048576 : Int) - (n : Int) < 0 := by omega
  clear hc hsz
  go_enter Try.func22, Try.ntmps22
  go_wp2
  go_loopw [1, 5] (fun l i wr => ∃ k : Nat, k ≤ n ∧ n + lenG rs k ≤ 1048576 ∧ i = .int .i64 k ∧ l = .int .i64 ((1048576 : Int) - n - lenG rs k) ∧ Below w.heap.size w wr) (fun _ i _ => n - (intOf i).toNat)
  case atStart => exact ⟨0, by omega, by simp [lenG]; omega, rfl, by simp [lenG], Below.refl _ _⟩
  case round =>
    obtain ⟨k, hk, hT, rfl, rfl, hbw⟩ := hrel
    have HB := Lib.hid hbw
    by_cases hlt : k < n
    · obtain ⟨c0, c1, c2, c3, c4⟩ := Gin_kept hbw hbl (HC.out k hlt)
      have hs := HSZ.out k hlt
      have HNX := Lib.hid (show lenG rs (k + 1) = lenG rs k + (rs.getD k zG).1.size from rfl)
      have HMO := Lib.hid (lenG_mono rs (show k + 1 ≤ n by omega))
      obtain ⟨⟨x0, x1, x2, x3, x4⟩, hxyz⟩ : ∃ r, rs.getD k zG = r := ⟨_, rfl⟩
      rw [hxyz] at c0 c1 c2 c3 c4 hs HNX
      simp only at c0 c1 c2 c3 c4 hs HNX
      generalize hq : lenG rs k = q at *
      have hlt1 : (k : Int) < (n : Int) := by omega
      have hk0 : (0 : Int) ≤ (k : Int) := by omega
      clear hbw hxyz
      by_cases hbig : n + q + x0.size ≤ 1048576
      · have HI := Lib.hid (show (if (1048576 : Int) - n - q - (x0.size : Int) < 0 then (-1 : Int) else (1048576 : Int) - n - q - x0.size) = (1048576 : Int) - n - q - x0.size by rw [if_neg (by omega)])
        have hp : ¬ (1048576 : Int) - n - q - x0.size < 0 := by omega
        go_wp2_with fail
        refine (szIngot_any x0 x1 x2 x3 x4 ((1048576 : Int) - n - q) _ hs (by omega) (by omega)).mono ?_
        rintro e w2 ⟨rfl, hb⟩
        rw [HI.out]
        have HB2 := Lib.hid (below_of HB.out hb HB.out.size)
        clear hb
        go_wp2
        go_roundw
        case rel => exact ⟨k + 1, by omega, by rw [HNX.out]; omega, by go_num, by rw [HNX.out]; congr 1; omega, HB2.out⟩
        case measure => simp [intOf]; omega
      · have HI := Lib.hid (show (if (1048576 : Int) - n - q - (x0.size : Int) < 0 then (-1 : Int) else (1048576 : Int) - n - q - x0.size) = -1 by rw [if_pos (by omega)])
        have HE := Lib.hid (show leftG n (lenG rs n) = -1 by
          have := HMO.out
          rw [HNX.out] at this
          exact leftG_no (by omega))
        go_wp2_with fail
        refine (szIngot_any x0 x1 x2 x3 x4 ((1048576 : Int) - n - q) _ hs (by omega) (by omega)).mono ?_
        rintro e w2 ⟨rfl, hb⟩
        rw [HI.out]
        have HB2 := Lib.hid (below_of HB.out hb HB.out.size)
        clear hb
        go_wp2
        go_ret
        exact ⟨by rw [HE.out]; rfl, HB2.out⟩
    · obtain rfl : k = n := by omega
      have HE := Lib.hid (leftG_yes hT)
      clear hbw
      go_wp2
      go_ret
      exact ⟨by rw [HE.out]; rfl, HB.out⟩
theorem szIngs_any (rs : List Gt) (v : Value) (w : World) (h : IngsAt w v rs) (hz : SzOkG rs) :
    Calls Try.prog 22 #[v, .int .i64 1048576] w fun e w' => e = .returned (.int .i64 (leftG rs.length (lenG rs rs.length))) ∧ Below w.heap.size w w' := by
  by_cases h0 : rs.length = 0
  · obtain rfl : rs = [] := List.length_eq_zero_iff.1 h0
    obtain ⟨a, c, rfl⟩ := ings_form h
    exact szIngs_none a c w
  · have hl := h.1
    obtain ⟨b, off, cap, rfl, hb, hc⟩ := ings_cells h (by omega)
    exact szIngs_some rs b off cap _ w (Lib.hid rfl) hl hb hc (fun i hi => by have := hz i hi; unfold maxLen at this; omega)
end Go.Proofs.Ytikoehjalcljnaa
