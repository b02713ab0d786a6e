/- Slices of rings whose capacity is no less than their length. -/
import Derived.Test.YtpjopfhkgegahaaRingRes
namespace Go.Proofs.Ytpjopfhkgegahaa
open Go.ChangeShapes Go.WideShapes Go.ChangeAt Go.RowKit

/-- The slice v reads as rs, and its capacity is no less than its length. -/
def RingsW (w : World) (v : Value) (rs : List Rg) : Prop := RingsAt w v rs ∧ ∃ a c, v = .slice a rs.length c ∧ rs.length ≤ c
theorem ringsW_cells {w : World} {v : Value} {rs : List Rg} (h : RingsW w v rs) (hp : 1 ≤ rs.length) : ∃ b off cap, v = .slice (some ⟨b, off, none⟩) rs.length cap ∧ b < w.heap.size ∧ rs.length ≤ cap ∧ ∀ i, i < rs.length → RingIn w b (off + i * 3) (rs.getD i zR) := by
  obtain ⟨⟨_, ⟨a, c, _, h0⟩ | ⟨b, off, cap, rfl, hb, hc⟩⟩, a', c', hv, hl⟩ := h
  · rw [h0] at hp; simp at hp
  · simp only [Value.slice.injEq] at hv
    exact ⟨b, off, cap, rfl, hb, by omega, ring_in hc⟩
theorem ringsW_kept {w w' : World} {v : Value} {rs : List Rg} (hb : Below w.heap.size w w') (h : RingsW w v rs) : RingsW w' v rs := ⟨rings_kept hb h.1, h.2⟩
theorem rvW {w : World} {B : Nat} {v : Value} {zs : List Rg} (hl : zs.length ≤ 1048576) (h : Rv w B v zs) : RingsW w v zs := by
  refine ⟨rv_rings hl h, ?_⟩
  rcases h with ⟨rfl, rfl⟩ | ⟨g, cap, rfl, h2, h4⟩
  · exact ⟨_, _, rfl, by simp⟩
  · rcases h4.2 with ⟨e, _⟩ | ⟨g', cap', cur, e, hb, hg, h1, h2', h3, h5⟩
    · cases e
    · simp only [Value.slice.injEq, Option.some.injEq, Addr.mk.injEq] at e
      obtain ⟨_, _, rfl⟩ := e
      exact ⟨_, _, rfl, h1⟩
end Go.Proofs.Ytpjopfhkgegahaa
