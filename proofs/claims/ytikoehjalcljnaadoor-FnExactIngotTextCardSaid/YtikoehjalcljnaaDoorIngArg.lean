/- Alloys, demands, ingots and lists of ingots as arguments. -/
import Derived.Test.YtikoehjalcljnaaDoorIngs
import Derived.Test.YtikoehjalcljnaaDoorSnd
set_option linter.unusedVariables false
namespace Go.Proofs.YtikoehjalcljnaaDoor
open Go.ChangeShapes Go.WideShapes Go.ChangeAt Go.RowKit Go.Deep

theorem arrayA3 {α : Type} {cs : Array α} (h : cs.size = 3) : ∃ c0 c1 c2, cs = #[c0, c1, c2] := by
  obtain ⟨l⟩ := cs
  match l, h with
  | [c0, c1, c2], _ => exact ⟨c0, c1, c2, rfl⟩
set_option maxRecDepth 20000 in
/-- An argument of type Alloy: its numbers. -/
theorem alloy_arg {H : Type} {enc : TypeId × Value → H} {W : World} {base : Nat} {v : Value} {d : DataW H} {p : List MemPlace} (hval : Value.okWide Tryd.prog W .any base 29 v) (h : DataW.Trod enc Tryd.prog W 0 (fun _ => true) true 29 v d p) :
    ∃ z0 z1 z2 : Int, v = .agg #[.int .i64 z0, .int .i64 z1, .int .i64 z2] ∧ ((Lit.int .i64 z0).wf = true ∧ (Lit.int .i64 z1).wf = true ∧ (Lit.int .i64 z2).wf = true) := by
  obtain ⟨cs, rfl, hsz⟩ := okWide_struct Tryd.underlying29 hval
  obtain ⟨c0, c1, c2, rfl⟩ := arrayA3 (hsz.trans (by kernel_rfl))
  obtain ⟨fuel, hf⟩ := h
  have k := fields_ints (cs := [c0, c1, c2]) Tryd.underlying29 (by kernel_rfl) rfl (by
    intro i f hf
    match i, hf with
    | 0, hf => cases hf; exact Tryd.underlying2
    | 1, hf => cases hf; exact Tryd.underlying2
    | 2, hf => cases hf; exact Tryd.underlying2
    | i + 3, hf => simp at hf) hf
  obtain ⟨z0, h0, w0⟩ := k 0 (by simp)
  obtain ⟨z1, h1, w1⟩ := k 1 (by simp)
  obtain ⟨z2, h2, w2⟩ := k 2 (by simp)
  simp only [List.getElem?_cons_zero, List.getElem?_cons_succ, Option.some.injEq] at h0 h1 h2
  subst h0 h1 h2
  exact ⟨z0, z1, z2, rfl, w0, w1, w2⟩
theorem array5G {α : Type} {cs : Array α} (h : cs.size = 5) : ∃ c0 c1 c2 c3 c4, cs = #[c0, c1, c2, c3, c4] := by
  obtain ⟨l⟩ := cs
  match l, h with
  | [c0, c1, c2, c3, c4], _ => exact ⟨c0, c1, c2, c3, c4, rfl⟩
set_option maxRecDepth 20000 in
/-- The five cells of an ingot. -/
theorem trodKG {H : Type} {enc : TypeId × Value → H} {W : World} {fuel : Nat} {v0 v1 v2 v3 v4 : Value} {x : DataW H × List MemPlace} (h : DataW.trod enc Tryd.prog W 0 (fun _ => true) true fuel 31 [v0, v1, v2, v3, v4] = some x) :
    ∃ (s : ByteArray) (a b c e : Int), v0 = .string s ∧ v1 = .int .i64 a ∧ v2 = .int .i64 b ∧ v3 = .int .i64 c ∧ v4 = .int .i64 e ∧ (s.size ≤ 9223372036854775807 ∧ (Lit.int .i64 a).wf = true ∧ (Lit.int .i64 b).wf = true ∧ (Lit.int .i64 c).wf = true ∧ (Lit.int .i64 e).wf = true) := by
  obtain ⟨y0, y1, y2, n, -, -, h0, h1, h2⟩ := trod_struct3 Tryd.underlying31 h
  have es : Tryd.prog.cellsOf 9 = 1 := by kernel_rfl
  have e1 : Tryd.prog.cellsOf 2 = 1 := by kernel_rfl
  have e3 : Tryd.prog.cellsOf 29 = 3 := by kernel_rfl
  dsimp only at h0 h1 h2
  rw [es] at h0
  rw [e1] at h1
  rw [e3] at h2
  have h0' : DataW.trod enc Tryd.prog W 0 (fun _ => true) true n 9 [v0] = some y0 := h0
  have h1' : DataW.trod enc Tryd.prog W 0 (fun _ => true) true n 2 [v1] = some y1 := h1
  have h2' : DataW.trod enc Tryd.prog W 0 (fun _ => true) true n 29 [v2, v3, v4] = some y2 := h2
  obtain ⟨s, hs, -, hsz2⟩ := DataW.trod_string Tryd.underlying9 h0'
  obtain ⟨a, ha, -, wa⟩ := DataW.trod_int Tryd.underlying2 h1'
  have k := fields_ints (cs := [v2, v3, v4]) Tryd.underlying29 (by kernel_rfl) rfl (by
    intro i f hf
    match i, hf with
    | 0, hf => cases hf; exact Tryd.underlying2
    | 1, hf => cases hf; exact Tryd.underlying2
    | 2, hf => cases hf; exact Tryd.underlying2
    | i + 3, hf => simp at hf) h2'
  obtain ⟨b, hb, wb⟩ := k 0 (by simp)
  obtain ⟨c, hc, wc⟩ := k 1 (by simp)
  obtain ⟨e, he, we⟩ := k 2 (by simp)
  simp only [List.getElem?_cons_zero, List.getElem?_cons_succ, Option.some.injEq] at hb hc he
  unfold maxLen at hsz2
  exact ⟨s, a, b, c, e, by simpa using hs, by simpa using ha, hb, hc, he, by omega, wa, wb, wc, we⟩
set_option maxRecDepth 20000 in
/-- An argument of type Ingot. -/
theorem ingot_arg {H : Type} {enc : TypeId × Value → H} {W : World} {base : Nat} {v : Value} {d : DataW H} {p : List MemPlace} (hval : Value.okWide Tryd.prog W .any base 31 v) (h : DataW.Trod enc Tryd.prog W 0 (fun _ => true) true 31 v d p) :
    ∃ (s : ByteArray) (a b c e : Int), v = .agg #[.string s, .int .i64 a, .int .i64 b, .int .i64 c, .int .i64 e] ∧ (s.size ≤ 9223372036854775807 ∧ (Lit.int .i64 a).wf = true ∧ (Lit.int .i64 b).wf = true ∧ (Lit.int .i64 c).wf = true ∧ (Lit.int .i64 e).wf = true) := by
  obtain ⟨cs, rfl, hsz⟩ := okWide_struct Tryd.underlying31 hval
  obtain ⟨v0, v1, v2, v3, v4, rfl⟩ := array5G (hsz.trans (by kernel_rfl))
  obtain ⟨fuel, hf⟩ := h
  obtain ⟨s, a, b, c, e, rfl, rfl, rfl, rfl, rfl, hw⟩ := trodKG hf
  exact ⟨s, a, b, c, e, rfl, hw⟩
end Go.Proofs.YtikoehjalcljnaaDoor
