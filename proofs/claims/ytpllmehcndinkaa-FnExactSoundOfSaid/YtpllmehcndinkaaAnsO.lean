/- A call that answers with a sound and a code, and the answer's box, made at any time among the copies that the call takes. -/
import Derived.Test.YtpllmehcndinkaaModSnd
set_option linter.unusedVariables false
namespace Go.Proofs.Ytpllmehcndinkaa
open Go.ChangeShapes Go.WideShapes Go.ChangeAt Go.RowKit

/-- A sound's empty box, made since W. -/
def BoxO (W cur : World) (b : Nat) : Prop := CleanZ cur b ∧ W.heap.size ≤ b ∧ b < cur.heap.size
theorem boxO_al {W X w' : World} {T : TypeId} (hX : W.heap.size ≤ X.heap.size) (hb : Below (X.alloc (.cells #[.int .i64 0, .int .i64 0, .int .i64 0, .int .i64 0, .int .i64 0] T)).heap.size (X.alloc (.cells #[.int .i64 0, .int .i64 0, .int .i64 0, .int .i64 0, .int .i64 0] T)) w') : BoxO W w' X.heap.size :=
  ⟨cleanZ_kept hb (alloc_lt2 _ _) (cleanZ_alloc _ _), hX, Nat.lt_of_lt_of_le (alloc_lt2 _ _) hb.size⟩
theorem boxO_al0 {W w' : World} {T : TypeId} (hb : Below (W.alloc (.cells #[.int .i64 0, .int .i64 0, .int .i64 0, .int .i64 0, .int .i64 0] T)).drew.heap.size (W.alloc (.cells #[.int .i64 0, .int .i64 0, .int .i64 0, .int .i64 0, .int .i64 0] T)).drew w') : BoxO W w' W.heap.size := boxO_al (X := W) (Nat.le_refl _) ⟨hb.os, hb.tape, hb.output, hb.size, hb.block⟩
theorem boxO_next {W cur w' : World} {b : Nat} (h : BoxO W cur b) (hb : Below cur.heap.size cur w') : BoxO W w' b :=
  ⟨cleanZ_kept hb h.2.2 h.1, h.2.1, Nat.lt_of_lt_of_le h.2.2 hb.size⟩
theorem boxO_ge {W cur : World} {b : Nat} (h : BoxO W cur b) : W.heap.size ≤ b := h.2.1
/-- The answer lies in a box made since W. -/
def AnsO (W wr : World) (qa qb qc qe qf c1 : Int) (p q : Value) : Prop :=
  ∃ b, p = .pointer (some ⟨b, 0, none⟩) ∧ q = .int .i64 c1 ∧ Five wr b qa qb qc qe qf ∧ W.heap.size ≤ b ∧ b < wr.heap.size ∧ Below W.heap.size W wr
theorem ansO_new {W w3 : World} {qa qb qc qe qf c1 : Int} {T : TypeId} (hB : Below W.heap.size W w3) :
    AnsO W (w3.alloc (.cells #[.int .i64 qa, .int .i64 qb, .int .i64 qc, .int .i64 qe, .int .i64 qf] T)) qa qb qc qe qf c1 (.pointer (some ⟨w3.heap.size, 0, none⟩)) (.int .i64 c1) :=
  ⟨w3.heap.size, rfl, rfl, five_alloc _ _ _ _ _ _ _, hB.size, alloc_lt2 _ _, below_of hB (below_al _ _) hB.size⟩
theorem ansO_old {W w3 : World} {b : Nat} {qa qb qc qe qf c1 : Int} (hB : Below W.heap.size W w3) (hx : BoxO W w3 b) :
    AnsO W (((((w3.setCell ⟨b, 0, none⟩ (.int .i64 qa)).setCell ⟨b, 1, none⟩ (.int .i64 qb)).setCell ⟨b, 2, none⟩ (.int .i64 qc)).setCell ⟨b, 3, none⟩ (.int .i64 qe)).setCell ⟨b, 4, none⟩ (.int .i64 qf)) qa qb qc qe qf c1 (.pointer (some ⟨b, 0, none⟩)) (.int .i64 c1) := by
  obtain ⟨⟨⟨b0, b1, b2, b3, b4⟩, f0, f1, f2, f3, f4⟩, h1, h2⟩ := hx
  exact ⟨b, rfl, rfl, ⟨by go_simp, by go_simp, by go_simp, by go_simp, by go_simp⟩, h1, by simpa using h2, ((((hB.setCell h1 _).setCell h1 _).setCell h1 _).setCell h1 _).setCell h1 _⟩
end Go.Proofs.Ytpllmehcndinkaa
