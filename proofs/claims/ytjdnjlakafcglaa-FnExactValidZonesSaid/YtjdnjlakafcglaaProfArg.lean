/- An argument of type Profile: its name, and its rings (if there are no more of them than the laws look at). -/
import Derived.Test.YtjdnjlakafcglaaProf
import Derived.Deep.Slices
import Derived.Deep.Strs
namespace Go.Proofs.Ytjdnjlakafcglaa
open Go.ChangeShapes Go.WideShapes Go.ChangeAt Go.RowKit Go.Deep Go.Deep

section
variable {H : Type} {enc : TypeId × Value → H}
set_option maxRecDepth 20000 in
theorem rings_arg {W : World} {fuel : Nat} {a : Option Addr} {len cap : Nat} {d : DataW H} {p : List MemPlace} (hf : DataW.trod enc Try.prog W 0 (fun _ => true) true fuel 22 (Value.slice a len cap).cells.toList = some (d, p))
    (hlt : ∀ x ∈ p, x.block < W.heap.size) : len ≤ 9223372036854775807 ∧ (len ≤ 1048576 → ∃ rs : List Rg, rs.length = len ∧ RingsAt W (.slice a len cap) rs) := by
  have ce : Try.prog.cellsOf 146 = 3 := by kernel_rfl
  rcases open_slice Try.underlying22 hf with ⟨hcs, hx⟩ | ⟨a', len', cap', m, n, D, Pl, hcs, hb, hl, hm, hmm, hx, hel⟩
  · simp [Value.cells] at hcs
    obtain ⟨rfl, rfl, rfl⟩ := hcs
    exact ⟨by omega, fun _ => ⟨[], rfl, by simp, .inl ⟨_, _, rfl, rfl⟩⟩⟩
  · simp [Value.cells] at hcs
    obtain ⟨rfl, rfl, rfl⟩ := hcs
    simp only [Prod.mk.injEq] at hx
    obtain ⟨rfl, rfl⟩ := hx
    simp only [if_true] at hmm
    subst hmm
    rw [ce] at hel hlt
    unfold maxLen at hm
    have each : ∀ i, i < len → ∃ r : Rg, W.cell? (a'.add (i * 3)) = some (.int .i64 r.1) ∧ W.cell? (a'.add (i * 3 + 1)) = some (.int .i64 r.2.1) ∧ W.cell? (a'.add (i * 3 + 2)) = some (.int .i64 r.2.2) := by
      intro i hi
      obtain ⟨cs', h1, h2⟩ := hel i (by omega)
      obtain ⟨_, hlen, hcell⟩ := World.cells?_some h1
      obtain ⟨y0, y1, y2, k, -, -, g0, g1, g2⟩ := trod_struct3 Try.underlying146 h2
      match cs', hlen with
      | [v0, v1, v2], _ =>
        have c1 : Try.prog.cellsOf 2 = 1 := by kernel_rfl
        simp [c1] at g0 g1 g2
        obtain ⟨x, hx, -, -⟩ := DataW.trod_int Try.underlying2 g0
        obtain ⟨y, hy, -, -⟩ := DataW.trod_int Try.underlying2 g1
        obtain ⟨z, hz, -, -⟩ := DataW.trod_int Try.underlying2 g2
        simp only [List.cons.injEq, and_true] at hx hy hz
        subst hx hy hz
        have e0 := hcell 0 (by omega)
        have e1 := hcell 1 (by omega)
        have e2 := hcell 2 (by omega)
        rw [add_add] at e0 e1 e2
        exact ⟨(x, y, z), by simpa using e0, by simpa using e1, by simpa using e2⟩
    refine ⟨by omega, fun hs => ?_⟩
    obtain ⟨R, hR⟩ := choose_lt (α := Rg) each
    have hlR : ((List.range len).map R).length = len := by simp
    refine ⟨(List.range len).map R, hlR, by omega, ?_⟩
    by_cases hl0 : len = 0
    · subst hl0
      exact .inl ⟨_, _, rfl, by simp⟩
    · obtain ⟨b, off, spot⟩ := a'
      have hspot : spot = none := by simpa [Addr.add] using World.cell?_spot (hR 0 (by omega)).1
      subst hspot
      have hbW : b < W.heap.size := hlt (.cell b off) (List.mem_append.2 (.inl (MemPlace.mem_row.2 ⟨0, by omega, by simp⟩)))
      refine .inr ⟨b, off, _, by rw [hlR], hbW, fun j hj => ?_⟩
      rw [hlR] at hj
      obtain ⟨i, f, rfl, hf3⟩ : ∃ i f, j = i * 3 + f ∧ f < 3 := ⟨j / 3, j % 3, by omega, by omega⟩
      have hi : i < len := by omega
      obtain ⟨q0, q1, q2⟩ := flat_get ((List.range len).map R) i (by rw [hlR]; exact hi)
      have hg : ((List.range len).map R).getD i zR = R i := by simp [List.getD, hi]
      rw [hg] at q0 q1 q2
      obtain ⟨r0, r1, r2⟩ := hR i hi
      rcases (by omega : f = 0 ∨ f = 1 ∨ f = 2) with rfl | rfl | rfl
      · rw [List.getD_eq_getElem?_getD, Nat.add_zero, q0, Option.getD_some, ← add_plain]; exact r0
      · rw [List.getD_eq_getElem?_getD, q1, Option.getD_some, ← add_plain]; exact r1
      · rw [List.getD_eq_getElem?_getD, q2, Option.getD_some, ← add_plain]; exact r2
set_option maxRecDepth 20000 in
theorem ring_arg {W : World} {base : Nat} {v : Value} {d : DataW H} {p : List MemPlace} (hval : Value.okWide Try.prog W .any base 146 v) (h : DataW.Trod enc Try.prog W 0 (fun _ => true) true 146 v d p) :
    ∃ x y z : Int, v = .agg #[.int .i64 x, .int .i64 y, .int .i64 z] ∧ (Lit.int .i64 x).wf = true ∧ (Lit.int .i64 y).wf = true ∧ (Lit.int .i64 z).wf = true := by
  obtain ⟨v0, v1, v2, y0, y1, y2, n, rfl, rfl, rfl, h0, h1, h2⟩ := Joins.open_agg3 Try.underlying146 (by kernel_rfl) (by kernel_rfl) hval h
  obtain ⟨x, hx, -, wx⟩ := DataW.trod_int Try.underlying2 h0
  obtain ⟨y, hy, -, wy⟩ := DataW.trod_int Try.underlying2 h1
  obtain ⟨z, hz, -, wz⟩ := DataW.trod_int Try.underlying2 h2
  simp only [List.cons.injEq, and_true] at hx hy hz
  subst hx hy hz
  exact ⟨x, y, z, rfl, wx, wy, wz⟩
set_option maxRecDepth 20000 in
set_option maxRecDepth 20000 in
theorem prof_arg {W : World} {base : Nat} {v : Value} {d : DataW H} {p : List MemPlace} (hval : Value.okWide Try.prog W .any base 24 v) (h : DataW.Trod enc Try.prog W 0 (fun _ => true) true 24 v d p)
    (hlt : ∀ x ∈ p, x.block < W.heap.size) : ∃ (s : ByteArray) (a : Option Addr) (len cap : Nat), v = .agg #[.string s, .slice a len cap] ∧ (s.size ≤ 9223372036854775807 ∧ len ≤ 9223372036854775807) ∧
      (len ≤ 1048576 → ∃ rs : List Rg, rs.length = len ∧ RingsAt W (.slice a len cap) rs) := by
  obtain ⟨v0, v1, y0, y1, n, rfl, rfl, rfl, h0, h1⟩ := Joins.open_agg2 Try.underlying24 (by kernel_rfl) (by kernel_rfl) hval h
  obtain ⟨s, hs, rfl, hsz⟩ := DataW.trod_string Try.underlying9 h0
  obtain rfl : v0 = .string s := by simpa using hs
  have hv : ∃ a len cap, v1 = .slice a len cap := by
    rcases open_slice Try.underlying22 h1 with ⟨hcs, _⟩ | ⟨a', len', cap', m, n, D, Pl, hcs, _⟩
    · exact ⟨_, _, _, by simpa using hcs⟩
    · exact ⟨_, _, _, by simpa using hcs⟩
  obtain ⟨a, len, cap, rfl⟩ := hv
  have hk := rings_arg (a := a) (len := len) (cap := cap) (fuel := n) (d := y1.1) (p := y1.2) h1 (fun x hx => hlt x (by simp [hx]))
  unfold maxLen at hsz
  exact ⟨s, a, len, cap, rfl, ⟨by omega, hk.1⟩, hk.2⟩
end
end Go.Proofs.Ytjdnjlakafcglaa
