/- Sums over the rings of a profile: where the rings lie; a profile that is not valid. -/
import Derived.Test.YtgnnpimfcbkloaaSums
set_option linter.unusedVariables false
namespace Go.Proofs.Ytgnnpimfcbkloaa
open Go.ChangeShapes Go.WideShapes Go.ChangeAt Go.RowKit

theorem rings_lie {w : World} {a : Option Addr} {n c : Nat} {rs : List Rg} (hn : rs.length = n) (h1 : 1 ≤ n) (h : RingsAt w (.slice a n c) rs) : ∃ b off, a = some ⟨b, off, none⟩ ∧ b < w.heap.size ∧ ∀ i, i < n → RingIn w b (off + i * 3) (rs.getD i zR) := by
  obtain ⟨-, ⟨a', c', hv, h0⟩ | ⟨b, off, cap, hv, hbl, hc⟩⟩ := h
  · rw [h0] at hn; simp at hn; omega
  · simp only [Value.slice.injEq] at hv
    exact ⟨b, off, hv.1, hbl, fun i hi => ring_in hc i (by omega)⟩
set_option maxRecDepth 20000 in
theorem sumRings_bad (s : ByteArray) (v fv : Value) (rs : List Rg) (w : World) (HI : Hid (RingsAt w v rs)) (hs : s.size ≤ maxLen) (HP : Hid (profB s rs = false)) :
    Calls Try.prog 59 #[.agg #[.string s, v], fv] w fun e w' => e = .returned (.tuple #[.int .i64 0, .int .i64 1]) ∧ Below w.heap.size w w' := by
  obtain ⟨a, c, rfl⟩ := rings_form HI.out
  generalize hn : rs.length = n at *
  clear hn
  go_enter Try.func59, Try.ntmps59
  go_wp2_with fail
  refine (implValidP_any s _ rs _ (rings_kept (below_al _ _) HI.out) hs).mono ?_
  rintro e w1 ⟨rfl, hb⟩
  rw [HP.out]
  have HB := Lib.hid (below_of (below_al _ _) hb (by simp))
  clear hb
  go_wp2
  go_ret2
  exact ⟨rfl, HB.out⟩
end Go.Proofs.Ytgnnpimfcbkloaa
