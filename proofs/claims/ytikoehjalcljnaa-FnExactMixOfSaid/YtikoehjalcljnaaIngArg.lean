/- Alloys, demands, ingots and lists of ingots as arguments. -/
import Derived.Test.YtikoehjalcljnaaIngs
import Derived.Test.YtikoehjalcljnaaSnd
set_option linter.unusedVariables false
namespace Go.Proofs.Ytikoehjalcljnaa
open Go.ChangeShapes Go.WideShapes Go.ChangeAt Go.RowKit Go.Deep

theorem arrayA3 {α : Type} {cs : Array α} (h : cs.size = 3) : ∃ c0 c1 c2, cs = #[c0, c1, c2] := by
  obtain ⟨l⟩ := cs
  match l, h with
  | [c0, c1, c2], _ => exact ⟨c0, c1, c2, rfl⟩
set_option maxRecDepth 20000 in
/-- An argument of type Alloy: its numbers. -/
theorem alloy_arg {H : Type} {enc : TypeId × Value → H} {W : World} {base : Nat} {v : Value} {d : DataW H} {p : List MemPlace} (hval : Value.okWide Try.prog W .any base 36 v) (h : DataW.Trod enc Try.prog W 0 (fun _ => true) true 36 v d p) :
    ∃ z0 z1 z2 : Int, v = .agg #[.int .i64 z0, .int .i64 z1, .int .i64 z2] ∧ ((Lit.int .i64 z0).wf = true ∧ (Lit.int .i64 z1).wf = true ∧ (Lit.int .i64 z2).wf = true) := by
  obtain ⟨cs, rfl, hsz⟩ := okWide_struct Try.underlying36 hval
  obtain ⟨c0, c1, c2, rfl⟩ := arrayA3 (hsz.trans (by kernel_rfl))
  obtain ⟨fuel, hf⟩ := h
  have k := fields_ints (cs := [c0, c1, c2]) Try.underlying36 (by kernel_rfl) rfl (by
    intro i f hf
    match i, hf with
    | 0, hf => cases hf; exact Try.underlying2
    | 1, hf => cases hf; exact Try.underlying2
    | 2, hf => cases hf; exact Try.underlying2
    | i + 3, hf => simp at hf) hf
  obtain ⟨z0, h0, w0⟩ := k 0 (by simp)
  obtain ⟨z1, h1, w1⟩ := k 1 (by simp)
  obtain ⟨z2, h2, w2⟩ := k 2 (by simp)
  simp only [List.getElem?_cons_zero, List.getElem?_cons_succ, Option.some.injEq] at h0 h1 h2
  subst h0 h1 h2
  exact ⟨z0, z1, z2, rfl, w0, w1, w2⟩
theorem arrayD5 {α : Type} {cs : Array α} (h : cs.size = 5) : ∃ c0 c1 c2 c3 c4, cs = #[c0, c1, c2, c3, c4] := by
  obtain ⟨l⟩ := cs
  match l, h with
  | [c0, c1, c2, c3, c4], _ => exact ⟨c0, c1, c2, c3, c4, rfl⟩
set_option maxRecDepth 20000 in
/-- An argument of type Demand: its numbers. -/
theorem demand_arg {H : Type} {enc : TypeId × Value → H} {W : World} {base : Nat} {v : Value} {d : DataW H} {p : List MemPlace} (hval : Value.okWide Try.prog W .any base 49 v) (h : DataW.Trod enc Try.prog W 0 (fun _ => true) true 49 v d p) :
    ∃ z0 z1 z2 z3 z4 : Int, v = .agg #[.int .i64 z0, .int .i64 z1, .int .i64 z2, .int .i64 z3, .int .i64 z4] ∧ ((Lit.int .i64 z0).wf = true ∧ (Lit.int .i64 z1).wf = true ∧ (Lit.int .i64 z2).wf = true ∧ (Lit.int .i64 z3).wf = true ∧ (Lit.int .i64 z4).wf = true) := by
  obtain ⟨cs, rfl, hsz⟩ := okWide_struct Try.underlying49 hval
  obtain ⟨c0, c1, c2, c3, c4, rfl⟩ := arrayD5 (hsz.trans (by kernel_rfl))
  obtain ⟨fuel, hf⟩ := h
  have k := fields_ints (cs := [c0, c1, c2, c3, c4]) Try.underlying49 (by kernel_rfl) rfl (by
    intro i f hf
    match i, hf with
    | 0, hf => cases hf; exact Try.underlying2
    | 1, hf => cases hf; exact Try.underlying2
    | 2, hf => cases hf; exact Try.underlying2
    | 3, hf => cases hf; exact Try.underlying2
    | 4, hf => cases hf; exact Try.underlying2
    | i + 5, hf => simp at hf) hf
  obtain ⟨z0, h0, w0⟩ := k 0 (by simp)
  obtain ⟨z1, h1, w1⟩ := k 1 (by simp)
  obtain ⟨z2, h2, w2⟩ := k 2 (by simp)
  obtain ⟨z3, h3, w3⟩ := k 3 (by simp)
  obtain ⟨z4, h4, w4⟩ := k 4 (by simp)
  simp only [List.getElem?_cons_zero, List.getElem?_cons_succ, Option.some.injEq] at h0 h1 h2 h3 h4
  subst h0 h1 h2 h3 h4
  exact ⟨z0, z1, z2, z3, z4, rfl, w0, w1, w2, w3, w4⟩
set_option maxHeartbeats 1000000 in
theorem toDemand_any (z0 z1 z2 z3 z4 : Int) (w : World) :
    Calls Try.prog 28 #[.agg #[.int .i64 z0, .int .i64 z1, .int .i64 z2, .int .i64 z3, .int .i64 z4]] w fun e w' => e = .returned (.agg #[.int .i64 z0, .int .i64 z1, .int .i64 z2, .int .i64 z3, .int .i64 z4]) ∧ Below w.heap.size w w' := by
  go_enter Try.func28, Try.ntmps28
  go_wp2
  try simp only [Exit.inBlock, Exit.then]
  refine bodyPost_ret_by (v := .agg #[.int .i64 z0, .int .i64 z1, .int .i64 z2, .int .i64 z3, .int .i64 z4]) (by rw [results_cellGs rfl]; go_simp) rfl ?_
  exact ⟨rfl, (((Below.refl _ _).alloc (Nat.le_refl _) _).alloc (by simp) _).alloc (by simp <;> omega) _⟩
theorem array5G {α : Type} {cs : Array α} (h : cs.size = 5) : ∃ c0 c1 c2 c3 c4, cs = #[c0, c1, c2, c3, c4] := by
  obtain ⟨l⟩ := cs
  match l, h with
  | [c0, c1, c2, c3, c4], _ => exact ⟨c0, c1, c2, c3, c4, rfl⟩
set_option maxRecDepth 20000 in
/-- The five cells of an ingot. -/
theorem trodKG {H : Type} {enc : TypeId × Value → H} {W : World} {fuel : Nat} {v0 v1 v2 v3 v4 : Value} {x : DataW H × List MemPlace} (h : DataW.trod enc Try.prog W 0 (fun _ => true) true fuel 55 [v0, v1, v2, v3, v4] = some x) :
    ∃ (s : ByteArray) (a b c e : Int), v0 = .string s ∧ v1 = .int .i64 a ∧ v2 = .int .i64 b ∧ v3 = .int .i64 c ∧ v4 = .int .i64 e ∧ (s.size ≤ 9223372036854775807 ∧ (Lit.int .i64 a).wf = true ∧ (Lit.int .i64 b).wf = true ∧ (Lit.int .i64 c).wf = true ∧ (Lit.int .i64 e).wf = true) := by
  obtain ⟨y0, y1, y2, n, -, -, h0, h1, h2⟩ := trod_struct3 Try.underlying55 h
  have es : Try.prog.cellsOf 9 = 1 := by kernel_rfl
  have e1 : Try.prog.cellsOf 2 = 1 := by kernel_rfl
  have e3 : Try.prog.cellsOf 36 = 3 := by kernel_rfl
  dsimp only at h0 h1 h2
  rw [es] at h0
  rw [e1] at h1
  rw [e3] at h2
  have h0' : DataW.trod enc Try.prog W 0 (fun _ => true) true n 9 [v0] = some y0 := h0
  have h1' : DataW.trod enc Try.prog W 0 (fun _ => true) true n 2 [v1] = some y1 := h1
  have h2' : DataW.trod enc Try.prog W 0 (fun _ => true) true n 36 [v2, v3, v4] = some y2 := h2
  obtain ⟨s, hs, -, hsz2⟩ := DataW.trod_string Try.underlying9 h0'
  obtain ⟨a, ha, -, wa⟩ := DataW.trod_int Try.underlying2 h1'
  have k := fields_ints (cs := [v2, v3, v4]) Try.underlying36 (by kernel_rfl) rfl (by
    intro i f hf
    match i, hf with
    | 0, hf => cases hf; exact Try.underlying2
    | 1, hf => cases hf; exact Try.underlying2
    | 2, hf => cases hf; exact Try.underlying2
    | i + 3, hf => simp at hf) h2'
  obtain ⟨b, hb, wb⟩ := k 0 (by simp)
  obtain ⟨c, hc, wc⟩ := k 1 (by simp)
  obtain ⟨e, he, we⟩ := k 2 (by simp)
  simp only [List.getElem?_cons_zero, List.getElem?_cons_succ, Option.some.injEq] at hb hc he
  unfold maxLen at hsz2
  exact ⟨s, a, b, c, e, by simpa using hs, by simpa using ha, hb, hc, he, by omega, wa, wb, wc, we⟩
set_option maxRecDepth 20000 in
/-- An argument of type Ingot. -/
theorem ingot_arg {H : Type} {enc : TypeId × Value → H} {W : World} {base : Nat} {v : Value} {d : DataW H} {p : List MemPlace} (hval : Value.okWide Try.prog W .any base 55 v) (h : DataW.Trod enc Try.prog W 0 (fun _ => true) true 55 v d p) :
    ∃ (s : ByteArray) (a b c e : Int), v = .agg #[.string s, .int .i64 a, .int .i64 b, .int .i64 c, .int .i64 e] ∧ (s.size ≤ 9223372036854775807 ∧ (Lit.int .i64 a).wf = true ∧ (Lit.int .i64 b).wf = true ∧ (Lit.int .i64 c).wf = true ∧ (Lit.int .i64 e).wf = true) := by
  obtain ⟨cs, rfl, hsz⟩ := okWide_struct Try.underlying55 hval
  obtain ⟨v0, v1, v2, v3, v4, rfl⟩ := array5G (hsz.trans (by kernel_rfl))
  obtain ⟨fuel, hf⟩ := h
  obtain ⟨s, a, b, c, e, rfl, rfl, rfl, rfl, rfl, hw⟩ := trodKG hf
  exact ⟨s, a, b, c, e, rfl, hw⟩
set_option maxRecDepth 20000 in
theorem ings_arg {H : Type} {enc : TypeId × Value → H} {W : World} {fuel : Nat} {a : Option Addr} {len cap : Nat} {d : DataW H} {p : List MemPlace} (hf : DataW.trod enc Try.prog W 0 (fun _ => true) true fuel 41 (Value.slice a len cap).cells.toList = some (d, p))
    (hlt : ∀ x ∈ p, x.block < W.heap.size) : len ≤ 9223372036854775807 ∧ (len ≤ 1048576 → ∃ rs : List Gt, rs.length = len ∧ IngsAt W (.slice a len cap) rs ∧ SzOkG rs) := by
  have ce : Try.prog.cellsOf 55 = 5 := by kernel_rfl
  rcases open_slice Try.underlying41 hf with ⟨hcs, hx⟩ | ⟨a', len', cap', m, n, D, Pl, hcs, hb, hl, hm, hmm, hx, hel⟩
  · simp [Value.cells] at hcs
    obtain ⟨rfl, rfl, rfl⟩ := hcs
    exact ⟨by omega, fun _ => ⟨[], rfl, ⟨by simp, .inl ⟨_, _, rfl, rfl⟩⟩, fun i hi => by simp at hi⟩⟩
  · simp [Value.cells] at hcs
    obtain ⟨rfl, rfl, rfl⟩ := hcs
    simp only [Prod.mk.injEq] at hx
    obtain ⟨rfl, rfl⟩ := hx
    simp only [if_true] at hmm
    subst hmm
    rw [ce] at hel hlt
    have hm' := hm
    unfold maxLen at hm
    have each : ∀ i, i < len → ∃ r : Gt, W.cell? (a'.add (i * 5)) = some (.string r.1) ∧ W.cell? (a'.add (i * 5 + 1)) = some (.int .i64 r.2.1) ∧ W.cell? (a'.add (i * 5 + 2)) = some (.int .i64 r.2.2.1) ∧ W.cell? (a'.add (i * 5 + 3)) = some (.int .i64 r.2.2.2.1) ∧ W.cell? (a'.add (i * 5 + 4)) = some (.int .i64 r.2.2.2.2) ∧ r.1.size ≤ maxLen := by
      intro i hi
      obtain ⟨cs', h1, h2⟩ := hel i (by omega)
      obtain ⟨_, hlen, hcell⟩ := World.cells?_some h1
      match cs', hlen with
      | [v0, v1, v2, v3, v4], hlen =>
        obtain ⟨s, a, b, c, e, rfl, rfl, rfl, rfl, rfl, hw, -⟩ := trodKG h2
        have e0 := hcell 0 (by omega)
        have e1 := hcell 1 (by omega)
        have e2 := hcell 2 (by omega)
        have e3 := hcell 3 (by omega)
        have e4 := hcell 4 (by omega)
        rw [add_add] at e0 e1 e2 e3 e4
        exact ⟨(s, a, b, c, e), by simpa using e0, by simpa using e1, by simpa using e2, by simpa using e3, by simpa using e4, by unfold maxLen; exact hw⟩
    refine ⟨by omega, fun hs => ?_⟩
    obtain ⟨R, hR⟩ := choose_lt (α := Gt) each
    have hlR : ((List.range len).map R).length = len := by simp
    have hg : ∀ i, i < len → ((List.range len).map R).getD i zG = R i := fun i hi => by simp [List.getD, hi]
    refine ⟨(List.range len).map R, hlR, ⟨by omega, ?_⟩, fun i hi => by rw [hlR] at hi; rw [hg i hi]; exact (hR i hi).2.2.2.2.2⟩
    by_cases hl0 : len = 0
    · subst hl0
      exact .inl ⟨_, _, rfl, by simp⟩
    · obtain ⟨b, off, spot⟩ := a'
      have hspot : spot = none := by simpa [Addr.add] using World.cell?_spot (hR 0 (by omega)).1
      subst hspot
      have hbW : b < W.heap.size := hlt (.cell b off) (List.mem_append.2 (.inl (MemPlace.mem_row.2 ⟨0, by omega, by simp⟩)))
      refine .inr ⟨b, off, _, by rw [hlR], hbW, fun i hi => ?_⟩
      rw [hlR] at hi
      rw [hg i hi]
      obtain ⟨r0, r1, r2, r3, r4, -⟩ := hR i hi
      exact ⟨by rw [← add_plain]; exact r0, by rw [Nat.add_assoc, ← add_plain]; exact r1, by rw [Nat.add_assoc, ← add_plain]; exact r2, by rw [Nat.add_assoc, ← add_plain]; exact r3, by rw [Nat.add_assoc, ← add_plain]; exact r4⟩
end Go.Proofs.Ytikoehjalcljnaa
