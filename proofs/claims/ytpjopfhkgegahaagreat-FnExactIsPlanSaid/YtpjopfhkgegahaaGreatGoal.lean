/- Goals by value: an argument opened, a copy of one. -/
import Derived.Test.YtpjopfhkgegahaaGreatSnd
import Derived.Test.YtpjopfhkgegahaaGreatG1
set_option linter.unusedVariables false
namespace Go.Proofs.YtpjopfhkgegahaaGreat
open Go.ChangeShapes Go.WideShapes Go.ChangeAt Go.RowKit Go.Deep

theorem alloc_ltG (w : World) (o : Obj) : w.heap.size < (w.alloc o).heap.size := by show _ < (w.heap.push o).size; rw [Array.size_push]; omega
theorem below_alG (w : World) (o : Obj) : Below w.heap.size w (w.alloc o) := (Below.refl _ _).alloc (Nat.le_refl _) o
theorem cell_intG (w : World) (x : Int) (T : TypeId) (n : Nat) (hn : n = w.heap.size) : ∀ j, j < 1 → (w.alloc (.cells #[.int .i64 x] T)).cell? ⟨n, 0 + j, none⟩ = some (.int .i64 ([x].getD j 0)) := by
  intro j hj
  obtain rfl : j = 0 := by omega
  subst hn
  go_simp
theorem array7 {α : Type} {cs : Array α} (h : cs.size = 7) : ∃ c0 c1 c2 c3 c4 c5 c6, cs = #[c0, c1, c2, c3, c4, c5, c6] := by
  obtain ⟨l⟩ := cs
  match l, h with
  | [c0, c1, c2, c3, c4, c5, c6], _ => exact ⟨c0, c1, c2, c3, c4, c5, c6, rfl⟩
section
variable {H : Type} {enc : TypeId × Value → H}
set_option maxRecDepth 20000 in
/-- An argument of type Goal: its seven numbers. -/
theorem goal_arg {W : World} {base : Nat} {v : Value} {d : DataW H} {p : List MemPlace} (hval : Value.okWide Tryz.prog W .any base 32 v) (h : DataW.Trod enc Tryz.prog W 0 (fun _ => true) true 32 v d p) :
    ∃ a b c e f t q : Int, v = .agg #[.int .i64 a, .int .i64 b, .int .i64 c, .int .i64 e, .int .i64 f, .int .i64 t, .int .i64 q] ∧ ((Lit.int .i64 a).wf = true ∧ (Lit.int .i64 b).wf = true ∧ (Lit.int .i64 c).wf = true ∧ (Lit.int .i64 e).wf = true ∧ (Lit.int .i64 f).wf = true ∧ (Lit.int .i64 t).wf = true ∧ (Lit.int .i64 q).wf = true) := by
  obtain ⟨cs, rfl, hsz⟩ := okWide_struct Tryz.underlying32 hval
  obtain ⟨c0, c1, c2, c3, c4, c5, c6, rfl⟩ := array7 (hsz.trans (by kernel_rfl))
  obtain ⟨fuel, hf⟩ := h
  obtain ⟨y0, y1, y2, n, -, -, h0, h1, h2⟩ := trod_struct3 Tryz.underlying32 hf
  have e5 : Tryz.prog.cellsOf 30 = 5 := by kernel_rfl
  have e1 : Tryz.prog.cellsOf 2 = 1 := by kernel_rfl
  dsimp only at h0 h1 h2
  rw [e5] at h0
  rw [e1] at h1 h2
  have h0' : DataW.trod enc Tryz.prog W 0 (fun _ => true) true n 30 [c0, c1, c2, c3, c4] = some y0 := h0
  have h1' : DataW.trod enc Tryz.prog W 0 (fun _ => true) true n 2 [c5] = some y1 := h1
  have h2' : DataW.trod enc Tryz.prog W 0 (fun _ => true) true n 2 [c6] = some y2 := h2
  have k := fields_ints (cs := [c0, c1, c2, c3, c4]) Tryz.underlying30 (by kernel_rfl) rfl (by
    intro i f hf
    match i, hf with
    | 0, hf => cases hf; exact Tryz.underlying2
    | 1, hf => cases hf; exact Tryz.underlying2
    | 2, hf => cases hf; exact Tryz.underlying2
    | 3, hf => cases hf; exact Tryz.underlying2
    | 4, hf => cases hf; exact Tryz.underlying2
    | i + 5, hf => simp at hf) h0'
  obtain ⟨a, ha, wa⟩ := k 0 (by simp)
  obtain ⟨b, hb, wb⟩ := k 1 (by simp)
  obtain ⟨c, hc, wc⟩ := k 2 (by simp)
  obtain ⟨e, he, we⟩ := k 3 (by simp)
  obtain ⟨f, hf', wf⟩ := k 4 (by simp)
  obtain ⟨t, ht, -, wt⟩ := DataW.trod_int Tryz.underlying2 h1'
  obtain ⟨q, hq, -, wq⟩ := DataW.trod_int Tryz.underlying2 h2'
  simp only [List.getElem?_cons_zero, List.getElem?_cons_succ, Option.some.injEq] at ha hb hc he hf'
  have ht2 : c5 = .int .i64 t := by simpa using ht
  have hq2 : c6 = .int .i64 q := by simpa using hq
  subst ha hb hc he hf' ht2 hq2
  exact ⟨a, b, c, e, f, t, q, rfl, wa, wb, wc, we, wf, wt, wq⟩
end
/-- The seven numbers lie in block g. -/
def Seven (w : World) (g : Nat) (a b c e f t q : Int) : Prop := Five w g a b c e f ∧ w.cell? ⟨g, 5, none⟩ = some (.int .i64 t) ∧ w.cell? ⟨g, 6, none⟩ = some (.int .i64 q)
theorem seven_kept {w w' : World} {g : Nat} {a b c e f t q : Int} (hb : Below w.heap.size w w') (hg : g < w.heap.size) (h : Seven w g a b c e f t q) : Seven w' g a b c e f t q :=
  ⟨five_kept hb hg h.1, (below_cell hb _ _ hg).trans h.2.1, (below_cell hb _ _ hg).trans h.2.2⟩
theorem seven_alloc (w : World) (a b c e f t q : Int) (T : TypeId) : Seven (w.alloc (.cells #[.int .i64 a, .int .i64 b, .int .i64 c, .int .i64 e, .int .i64 f, .int .i64 t, .int .i64 q] T)) w.heap.size a b c e f t q :=
  ⟨⟨by go_simp, by go_simp, by go_simp, by go_simp, by go_simp⟩, by go_simp, by go_simp⟩
def Clean7 (w : World) (g : Nat) : Prop := Seven w g 0 0 0 0 0 0 0 ∧ ∀ i, w.frozen? ⟨g, i, none⟩ = false
set_option maxHeartbeats 2000000 in
theorem toGoal_any (a b c e f t q : Int) (w : World) :
    Calls Tryz.prog 11 #[.agg #[.int .i64 a, .int .i64 b, .int .i64 c, .int .i64 e, .int .i64 f, .int .i64 t, .int .i64 q]] w fun en w' => en = .returned (.agg #[.int .i64 a, .int .i64 b, .int .i64 c, .int .i64 e, .int .i64 f, .int .i64 t, .int .i64 q]) ∧ Below w.heap.size w w' := by
  have hba : Below w.heap.size w (((w.alloc (.cells #[.int .i64 a, .int .i64 b, .int .i64 c, .int .i64 e, .int .i64 f, .int .i64 t, .int .i64 q] 32)).alloc (.cells #[.int .i64 0, .int .i64 0, .int .i64 0, .int .i64 0, .int .i64 0, .int .i64 0, .int .i64 0] 46)).alloc (.cells #[.int .i64 0, .int .i64 0, .int .i64 0, .int .i64 0, .int .i64 0, .int .i64 0, .int .i64 0] 46)) := ((below_alG _ _).alloc (by simp) _).alloc (by simp <;> omega) _
  have HBA := Lib.hid hba
  clear hba
  go_enter Tryz.func11, Tryz.ntmps11
  go_wp2_with fail
  refine (toSound_any a b c e f _).mono ?_
  rintro en w1 ⟨rfl, hb⟩
  have a5 : w1.cell? ⟨w.heap.size, 5, none⟩ = some (.int .i64 t) := by rw [below_cell hb _ _ (by simp <;> omega)]; go_simp
  have a6 : w1.cell? ⟨w.heap.size, 6, none⟩ = some (.int .i64 q) := by rw [below_cell hb _ _ (by simp <;> omega)]; go_simp
  have b10 : w1.cell? ⟨w.heap.size + 1, 0, none⟩ = some (.int .i64 0) := by rw [below_cell hb _ _ (by simp <;> omega)]; go_simp
  have f10 : w1.frozen? ⟨w.heap.size + 1, 0, none⟩ = false := by rw [below_frozen hb _ _ (by simp <;> omega)]; go_simp
  have b11 : w1.cell? ⟨w.heap.size + 1, 1, none⟩ = some (.int .i64 0) := by rw [below_cell hb _ _ (by simp <;> omega)]; go_simp
  have f11 : w1.frozen? ⟨w.heap.size + 1, 1, none⟩ = false := by rw [below_frozen hb _ _ (by simp <;> omega)]; go_simp
  have b12 : w1.cell? ⟨w.heap.size + 1, 2, none⟩ = some (.int .i64 0) := by rw [below_cell hb _ _ (by simp <;> omega)]; go_simp
  have f12 : w1.frozen? ⟨w.heap.size + 1, 2, none⟩ = false := by rw [below_frozen hb _ _ (by simp <;> omega)]; go_simp
  have b13 : w1.cell? ⟨w.heap.size + 1, 3, none⟩ = some (.int .i64 0) := by rw [below_cell hb _ _ (by simp <;> omega)]; go_simp
  have f13 : w1.frozen? ⟨w.heap.size + 1, 3, none⟩ = false := by rw [below_frozen hb _ _ (by simp <;> omega)]; go_simp
  have b14 : w1.cell? ⟨w.heap.size + 1, 4, none⟩ = some (.int .i64 0) := by rw [below_cell hb _ _ (by simp <;> omega)]; go_simp
  have f14 : w1.frozen? ⟨w.heap.size + 1, 4, none⟩ = false := by rw [below_frozen hb _ _ (by simp <;> omega)]; go_simp
  have b15 : w1.cell? ⟨w.heap.size + 1, 5, none⟩ = some (.int .i64 0) := by rw [below_cell hb _ _ (by simp <;> omega)]; go_simp
  have f15 : w1.frozen? ⟨w.heap.size + 1, 5, none⟩ = false := by rw [below_frozen hb _ _ (by simp <;> omega)]; go_simp
  have b16 : w1.cell? ⟨w.heap.size + 1, 6, none⟩ = some (.int .i64 0) := by rw [below_cell hb _ _ (by simp <;> omega)]; go_simp
  have f16 : w1.frozen? ⟨w.heap.size + 1, 6, none⟩ = false := by rw [below_frozen hb _ _ (by simp <;> omega)]; go_simp
  have b20 : w1.cell? ⟨w.heap.size + 1 + 1, 0, none⟩ = some (.int .i64 0) := by rw [below_cell hb _ _ (by simp <;> omega)]; go_simp
  have f20 : w1.frozen? ⟨w.heap.size + 1 + 1, 0, none⟩ = false := by rw [below_frozen hb _ _ (by simp <;> omega)]; go_simp
  have b21 : w1.cell? ⟨w.heap.size + 1 + 1, 1, none⟩ = some (.int .i64 0) := by rw [below_cell hb _ _ (by simp <;> omega)]; go_simp
  have f21 : w1.frozen? ⟨w.heap.size + 1 + 1, 1, none⟩ = false := by rw [below_frozen hb _ _ (by simp <;> omega)]; go_simp
  have b22 : w1.cell? ⟨w.heap.size + 1 + 1, 2, none⟩ = some (.int .i64 0) := by rw [below_cell hb _ _ (by simp <;> omega)]; go_simp
  have f22 : w1.frozen? ⟨w.heap.size + 1 + 1, 2, none⟩ = false := by rw [below_frozen hb _ _ (by simp <;> omega)]; go_simp
  have b23 : w1.cell? ⟨w.heap.size + 1 + 1, 3, none⟩ = some (.int .i64 0) := by rw [below_cell hb _ _ (by simp <;> omega)]; go_simp
  have f23 : w1.frozen? ⟨w.heap.size + 1 + 1, 3, none⟩ = false := by rw [below_frozen hb _ _ (by simp <;> omega)]; go_simp
  have b24 : w1.cell? ⟨w.heap.size + 1 + 1, 4, none⟩ = some (.int .i64 0) := by rw [below_cell hb _ _ (by simp <;> omega)]; go_simp
  have f24 : w1.frozen? ⟨w.heap.size + 1 + 1, 4, none⟩ = false := by rw [below_frozen hb _ _ (by simp <;> omega)]; go_simp
  have b25 : w1.cell? ⟨w.heap.size + 1 + 1, 5, none⟩ = some (.int .i64 0) := by rw [below_cell hb _ _ (by simp <;> omega)]; go_simp
  have f25 : w1.frozen? ⟨w.heap.size + 1 + 1, 5, none⟩ = false := by rw [below_frozen hb _ _ (by simp <;> omega)]; go_simp
  have b26 : w1.cell? ⟨w.heap.size + 1 + 1, 6, none⟩ = some (.int .i64 0) := by rw [below_cell hb _ _ (by simp <;> omega)]; go_simp
  have f26 : w1.frozen? ⟨w.heap.size + 1 + 1, 6, none⟩ = false := by rw [below_frozen hb _ _ (by simp <;> omega)]; go_simp
  have hz : w.heap.size + 3 ≤ w1.heap.size := by have := hb.size; simp at this; omega
  have HB1 := Lib.hid (HBA.out.trans (hb.mono (by simp <;> omega)))
  clear hb
  go_wp2
  refine bodyPost_ret (v := .agg #[.int .i64 a, .int .i64 b, .int .i64 c, .int .i64 e, .int .i64 f, .int .i64 t, .int .i64 q]) (by simp [results, Tryz.results11, go_sem, b10, b11, b12, b13, b14, b15, b16]) rfl ⟨rfl, ?_⟩
  exact (((((((((((((((HB1.out.setCell (by simp <;> omega) _).setCell (by simp <;> omega) _).setCell (by simp <;> omega) _).setCell (by simp <;> omega) _).setCell (by simp <;> omega) _).setCell (by simp <;> omega) _).setCell (by simp <;> omega) _).setCell (by simp <;> omega) _).setCell (by simp <;> omega) _).setCell (by simp <;> omega) _).setCell (by simp <;> omega) _).setCell (by simp <;> omega) _).setCell (by simp <;> omega) _).setCell (by simp <;> omega) _))
end Go.Proofs.YtpjopfhkgegahaaGreat
