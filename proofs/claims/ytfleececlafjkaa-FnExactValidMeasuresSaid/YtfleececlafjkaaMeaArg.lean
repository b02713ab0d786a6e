/- A list of measurements as an argument. -/
import Derived.Test.YtfleececlafjkaaMeaB
set_option linter.unusedVariables false
namespace Go.Proofs.Ytfleececlafjkaa
open Go.ChangeShapes Go.WideShapes Go.ChangeAt Go.RowKit Go.Deep

set_option maxRecDepth 20000 in
theorem trodKM {H : Type} {enc : TypeId × Value → H} {W : World} {fuel : Nat} {cs : List Value} {x : DataW H × List MemPlace} (h : DataW.trod enc Try.prog W 0 (fun _ => true) true fuel 77 cs = some x) (hlen : cs.length = 3) :
    ∃ r : Mt, cs = [.string r.1, .int .i64 r.2.1, .int .i64 r.2.2] ∧ r.1.size ≤ maxLen := by
  obtain ⟨xs, k, _, -, hl, hlen2, hf⟩ := DataW.trod_struct Try.underlying77 h
  match xs, hlen2, cs, hlen with
  | [y0, y1, y2], _, [v0, v1, v2], _ =>
    have cs1 : Try.prog.cellsOf 9 = 1 := by kernel_rfl
    have c1 : Try.prog.cellsOf 2 = 1 := by kernel_rfl
    have g0 := hf 0 _ rfl
    have g1 := hf 1 _ rfl
    have g2 := hf 2 _ rfl
    simp [c1, cs1] at g0 g1 g2
    obtain ⟨s, hs, -, hsz⟩ := DataW.trod_string Try.underlying9 g0
    obtain ⟨y, hy, -, -⟩ := DataW.trod_int Try.underlying2 g1
    obtain ⟨z, hz, -, -⟩ := DataW.trod_int Try.underlying2 g2
    simp only [List.cons.injEq, and_true] at hs hy hz
    subst hs hy hz
    exact ⟨(s, y, z), rfl, hsz⟩
set_option maxRecDepth 20000 in
theorem meas_arg {H : Type} {enc : TypeId × Value → H} {W : World} {fuel : Nat} {a : Option Addr} {len cap : Nat} {d : DataW H} {p : List MemPlace} (hf : DataW.trod enc Try.prog W 0 (fun _ => true) true fuel 50 (Value.slice a len cap).cells.toList = some (d, p))
    (hlt : ∀ x ∈ p, x.block < W.heap.size) : len ≤ 9223372036854775807 ∧ (len ≤ 1048576 → ∃ rs : List Mt, rs.length = len ∧ MeasAt W (.slice a len cap) rs ∧ SzOk rs) := by
  have ce : Try.prog.cellsOf 77 = 3 := by kernel_rfl
  rcases open_slice Try.underlying50 hf with ⟨hcs, hx⟩ | ⟨a', len', cap', m, n, D, Pl, hcs, hb, hl, hm, hmm, hx, hel⟩
  · simp [Value.cells] at hcs
    obtain ⟨rfl, rfl, rfl⟩ := hcs
    exact ⟨by omega, fun _ => ⟨[], rfl, ⟨by simp, .inl ⟨_, _, rfl, rfl⟩⟩, fun i hi => by simp at hi⟩⟩
  · simp [Value.cells] at hcs
    obtain ⟨rfl, rfl, rfl⟩ := hcs
    simp only [Prod.mk.injEq] at hx
    obtain ⟨rfl, rfl⟩ := hx
    simp only [if_true] at hmm
    subst hmm
    rw [ce] at hel hlt
    have hm' := hm
    unfold maxLen at hm
    have each : ∀ i, i < len → ∃ r : Mt, W.cell? (a'.add (i * 3)) = some (.string r.1) ∧ W.cell? (a'.add (i * 3 + 1)) = some (.int .i64 r.2.1) ∧ W.cell? (a'.add (i * 3 + 2)) = some (.int .i64 r.2.2) ∧ r.1.size ≤ maxLen := by
      intro i hi
      obtain ⟨cs', h1, h2⟩ := hel i (by omega)
      obtain ⟨_, hlen, hcell⟩ := World.cells?_some h1
      obtain ⟨r, rfl, hsz⟩ := trodKM h2 hlen
      have e0 := hcell 0 (by omega)
      have e1 := hcell 1 (by omega)
      have e2 := hcell 2 (by omega)
      rw [add_add] at e0 e1 e2
      exact ⟨r, by simpa using e0, by simpa using e1, by simpa using e2, hsz⟩
    refine ⟨by omega, fun hs => ?_⟩
    obtain ⟨R, hR⟩ := choose_lt (α := Mt) each
    have hlR : ((List.range len).map R).length = len := by simp
    have hg : ∀ i, i < len → ((List.range len).map R).getD i zM = R i := fun i hi => by simp [List.getD, hi]
    refine ⟨(List.range len).map R, hlR, ⟨by omega, ?_⟩, fun i hi => by rw [hlR] at hi; rw [hg i hi]; exact (hR i hi).2.2.2⟩
    by_cases hl0 : len = 0
    · subst hl0
      exact .inl ⟨_, _, rfl, by simp⟩
    · obtain ⟨b, off, spot⟩ := a'
      have hspot : spot = none := by simpa [Addr.add] using World.cell?_spot (hR 0 (by omega)).1
      subst hspot
      have hbW : b < W.heap.size := hlt (.cell b off) (List.mem_append.2 (.inl (MemPlace.mem_row.2 ⟨0, by omega, by simp⟩)))
      refine .inr ⟨b, off, _, by rw [hlR], hbW, fun i hi => ?_⟩
      rw [hlR] at hi
      rw [hg i hi]
      obtain ⟨r0, r1, r2, -⟩ := hR i hi
      exact ⟨by rw [← add_plain]; exact r0, by rw [Nat.add_assoc, ← add_plain]; exact r1, by rw [Nat.add_assoc, ← add_plain]; exact r2⟩
theorem szMeas_any (rs : List Mt) (v : Value) (w : World) (h : MeasAt w v rs) (hz : SzOk rs) :
    Calls Try.prog 34 #[v, .int .i64 1048576] w fun e w' => e = .returned (.int .i64 (leftS rs.length (lenM rs rs.length))) ∧ Below w.heap.size w w' := by
  by_cases h0 : rs.length = 0
  · obtain rfl : rs = [] := List.length_eq_zero_iff.1 h0
    obtain ⟨a, c, rfl⟩ := meas_form h
    exact szMeas_none a c w
  · have hl := h.1
    obtain ⟨b, off, cap, rfl, hb, hc⟩ := meas_cells h (by omega)
    exact szMeas_some rs b off cap _ w (Lib.hid rfl) hl hb hc (fun i hi => by have := hz i hi; unfold maxLen at this; omega)
end Go.Proofs.Ytfleececlafjkaa
