/- Words for changed profiles: where the rings lie, a copy's row. -/
import Derived.Test.YtgnnpimfcbkloabAppOwn
set_option linter.unusedVariables false
namespace Go.Proofs.Ytgnnpimfcbkloab
open Go.ChangeShapes Go.WideShapes Go.ChangeAt Go.RowKit

theorem copy_len {rs : List Rg} {n : Nat} (hn : rs.length = n) : (i64s (flat rs) ++ i64s (flat [zR])).length = (n + 1) * 3 := by
  rw [List.length_append, i64s_length, i64s_length, flat_len, flat_len, hn]; simp; omega
theorem copy_take {rs : List Rg} {n : Nat} (hn : rs.length = n) : (i64s (flat rs) ++ i64s (flat [zR])).take (n * 3) = i64s (flat rs) := by
  have hl : (i64s (flat rs)).length = n * 3 := by rw [i64s_length, flat_len, hn]
  rw [← hl, List.take_left']
  rfl
theorem src_lie {w : World} {a : Option Addr} {n c : Nat} {rs : List Rg} (hn : rs.length = n) (h1 : 1 ≤ n) (h : RingsAt w (.slice a n c) rs) : ∃ b off, a = some ⟨b, off, none⟩ ∧ b < w.heap.size ∧ ∀ j, j < n * 3 → w.cell? ⟨b, off + j, none⟩ = some (.int .i64 ((flat rs).getD j 0)) := by
  obtain ⟨-, ⟨a', c', hv, h0⟩ | ⟨b, off, cap, hv, hbl, hc⟩⟩ := h
  · rw [h0] at hn; simp at hn; omega
  · simp only [Value.slice.injEq] at hv
    exact ⟨b, off, hv.1, hbl, fun j hj => hc j (by omega)⟩
theorem rings_far {w : World} {a : Option Addr} {n c : Nat} {rs : List Rg} (h : RingsAt w (.slice a n c) rs) (hn : rs.length = n) (h1 : 1 ≤ n) : ∀ b o, a = some ⟨b, o, none⟩ → b ≠ w.heap.size := by
  intro b o e
  obtain ⟨-, ⟨a', c', hv, h0⟩ | ⟨b', off, cap, hv, hbl, hc⟩⟩ := h
  · rw [h0] at hn; simp at hn; omega
  · simp only [Value.slice.injEq] at hv
    rw [e] at hv
    simp only [Option.some.injEq, Addr.mk.injEq] at hv
    omega
theorem rings_set {W : World} {a : Option Addr} {n c : Nat} {rs : List Rg} (h : RingsAt W (.slice a n c) rs) (p : Nat) (u : Value) (hf : ∀ b o, a = some ⟨b, o, none⟩ → b ≠ p) : RingsAt (W.setCell ⟨p, 0, none⟩ u) (.slice a n c) rs := by
  obtain ⟨hl, ⟨a', c', hv, h0⟩ | ⟨b, off, cap, hv, hbl, hc⟩⟩ := h
  · exact ⟨hl, .inl ⟨a', c', hv, h0⟩⟩
  · refine ⟨hl, .inr ⟨b, off, cap, hv, by simpa using hbl, fun j hj => ?_⟩⟩
    simp only [Value.slice.injEq] at hv
    rw [World.cell?_setCell_far _ _ _ _ (by have := hf b off hv.1; simp only; omega)]
    exact hc j hj
end Go.Proofs.Ytgnnpimfcbkloab
