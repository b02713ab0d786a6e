/- Sounds by value: an argument opened; a copy of one; two compared. -/
import Derived.Test.YtpjopfhkgegahaaGreatG1
import Derived.Lib.SmallJoins
import Derived.Deep.Fields
namespace Go.Proofs.YtpjopfhkgegahaaGreat
open Go.ChangeShapes Go.WideShapes Go.ChangeAt Go.RowKit Go.Deep

theorem array5 {α : Type} {cs : Array α} (h : cs.size = 5) : ∃ c0 c1 c2 c3 c4, cs = #[c0, c1, c2, c3, c4] := by
  obtain ⟨l⟩ := cs
  match l, h with
  | [c0, c1, c2, c3, c4], _ => exact ⟨c0, c1, c2, c3, c4, rfl⟩

section
variable {H : Type} {enc : TypeId × Value → H} {P : Program}
/-- A struct whose fields are numbers: each of its cells is one. -/
theorem fields_ints {W : World} {base fuel : Nat} {sp : Nat → Bool} {hd : Bool} {t : TypeId} {fs : Array Field} {cs : List Value} {x : DataW H × List MemPlace} (ht : P.underlying t = some (.struct fs)) (hone : oneCellFields P fs = true) (hsz : fs.size = cs.length)
    (hall : ∀ (i : Nat) (f : Field), fs[i]? = some f → P.underlying f.type = some (.int .i64)) (h : DataW.trod enc P W base sp hd fuel t cs = some x) :
    ∀ i, i < cs.length → ∃ z, cs[i]? = some (.int .i64 z) ∧ (Lit.int .i64 z).wf = true := by
  obtain ⟨xs, n, _, -, -, hxl, hf⟩ := DataW.trod_struct ht h
  intro i hi
  have hif : fs[i]? = some fs[i] := Array.getElem?_eq_getElem (by omega)
  have g := hf i _ hif
  obtain ⟨o, k⟩ := hone_of hone i _ hif
  rw [o, k, take1_drop cs i undef hi, List.getElem?_eq_getElem (by omega)] at g
  obtain ⟨z, hz, -, hw⟩ := DataW.trod_int (hall i _ hif) g
  refine ⟨z, ?_, hw⟩
  rw [List.getElem?_eq_getElem hi]
  have h1 : cs.getD i undef = .int .i64 z := by simpa using hz
  rw [List.getD_eq_getElem?_getD, List.getElem?_eq_getElem hi] at h1
  exact congrArg some h1
end

section
variable {H : Type} {enc : TypeId × Value → H}
set_option maxRecDepth 20000 in
/-- An argument of type Sound: its five numbers. -/
theorem sound_arg {W : World} {base : Nat} {v : Value} {d : DataW H} {p : List MemPlace} (hval : Value.okWide Tryz.prog W .any base 30 v) (h : DataW.Trod enc Tryz.prog W 0 (fun _ => true) true 30 v d p) :
    ∃ a b c e f : Int, v = .agg #[.int .i64 a, .int .i64 b, .int .i64 c, .int .i64 e, .int .i64 f] ∧ ((Lit.int .i64 a).wf = true ∧ (Lit.int .i64 b).wf = true ∧ (Lit.int .i64 c).wf = true ∧ (Lit.int .i64 e).wf = true ∧ (Lit.int .i64 f).wf = true) := by
  obtain ⟨cs, rfl, hsz⟩ := okWide_struct Tryz.underlying30 hval
  obtain ⟨c0, c1, c2, c3, c4, rfl⟩ := array5 (hsz.trans (by kernel_rfl))
  obtain ⟨fuel, hf⟩ := h
  have k := fields_ints (cs := [c0, c1, c2, c3, c4]) Tryz.underlying30 (by kernel_rfl) rfl (by
    intro i f hf
    match i, hf with
    | 0, hf => cases hf; exact Tryz.underlying2
    | 1, hf => cases hf; exact Tryz.underlying2
    | 2, hf => cases hf; exact Tryz.underlying2
    | 3, hf => cases hf; exact Tryz.underlying2
    | 4, hf => cases hf; exact Tryz.underlying2
    | i + 5, hf => simp at hf) hf
  obtain ⟨a, ha, wa⟩ := k 0 (by simp)
  obtain ⟨b, hb, wb⟩ := k 1 (by simp)
  obtain ⟨c, hc, wc⟩ := k 2 (by simp)
  obtain ⟨e, he, we⟩ := k 3 (by simp)
  obtain ⟨f, hf', wf⟩ := k 4 (by simp)
  simp only [List.getElem?_cons_zero, List.getElem?_cons_succ, Option.some.injEq] at ha hb hc he hf'
  subst ha hb hc he hf'
  exact ⟨a, b, c, e, f, rfl, wa, wb, wc, we, wf⟩
end

theorem below_dr {B : Nat} {w w' : World} (h : Below B w w') : Below B w w'.drew := ⟨h.os, h.tape, h.output, h.size, h.block⟩
set_option maxHeartbeats 400000 in
theorem toSound_any (a b c e f : Int) (w : World) :
    Calls Tryz.prog 28 #[.agg #[.int .i64 a, .int .i64 b, .int .i64 c, .int .i64 e, .int .i64 f]] w fun en w' => en = .returned (.agg #[.int .i64 a, .int .i64 b, .int .i64 c, .int .i64 e, .int .i64 f]) ∧ Below w.heap.size w w' := by
  go_enter Tryz.func28, Tryz.ntmps28
  go_wp2
  refine bodyPost_ret (v := .agg #[.int .i64 a, .int .i64 b, .int .i64 c, .int .i64 e, .int .i64 f]) (by simp [results, Tryz.results28, go_sem]) rfl ⟨rfl, ?_⟩
  exact (((Below.refl _ _).alloc (Nat.le_refl _) _).alloc (by simp) _).alloc (by simp <;> omega) _
/-- The five numbers lie in block g. -/
def Five (w : World) (g : Nat) (a b c e f : Int) : Prop := w.cell? ⟨g, 0, none⟩ = some (.int .i64 a) ∧ w.cell? ⟨g, 1, none⟩ = some (.int .i64 b) ∧ w.cell? ⟨g, 2, none⟩ = some (.int .i64 c) ∧ w.cell? ⟨g, 3, none⟩ = some (.int .i64 e) ∧ w.cell? ⟨g, 4, none⟩ = some (.int .i64 f)
theorem five_alloc (w : World) (a b c e f : Int) (T : TypeId) : Five (w.alloc (.cells #[.int .i64 a, .int .i64 b, .int .i64 c, .int .i64 e, .int .i64 f] T)) w.heap.size a b c e f :=
  ⟨by go_simp, by go_simp, by go_simp, by go_simp, by go_simp⟩
theorem five_kept {w w' : World} {g : Nat} {a b c e f : Int} (hb : Below w.heap.size w w') (hg : g < w.heap.size) (h : Five w g a b c e f) : Five w' g a b c e f :=
  ⟨by rw [below_cell hb _ _ hg]; exact h.1, by rw [below_cell hb _ _ hg]; exact h.2.1, by rw [below_cell hb _ _ hg]; exact h.2.2.1, by rw [below_cell hb _ _ hg]; exact h.2.2.2.1, by rw [below_cell hb _ _ hg]; exact h.2.2.2.2⟩
theorem five_lt {w : World} {g : Nat} {a b c e f : Int} (h : Five w g a b c e f) : g < w.heap.size := by
  have h0 := h.1
  by_cases hl : g < w.heap.size
  · exact hl
  · have hn : w.heap[g]? = none := Array.getElem?_eq_none (by omega)
    simp [World.cell?, hn] at h0
theorem five_below {w w' : World} {g : Nat} {a b c e f : Int} (hb : Below w.heap.size w w') (h : Five w g a b c e f) : Five w' g a b c e f := five_kept hb (five_lt h) h
end Go.Proofs.YtpjopfhkgegahaaGreat
