/- modelled, where the model, the profile or both do not fit: its code. -/
import Derived.Test.YtpjopfhkgegahaaGreatModBell
import Derived.Test.YtpjopfhkgegahaaGreatModPar
set_option linter.unusedVariables false
namespace Go.Proofs.YtpjopfhkgegahaaGreat
open Go.ChangeShapes Go.WideShapes Go.ChangeAt Go.RowKit
theorem modelled_err (v0 v1 v2 v : Value) (zs : List Int) (ws : List (List Int)) (bs : List Int) (s : ByteArray) (rs : List Rg) (w : World) (h0 : IntsAt w v0 zs) (h1 : RowsAt w v1 ws) (h2 : IntsAt w v2 bs) (hv : RingsAt w v rs) (hs : s.size ≤ maxLen) (h : askM zs ws bs s rs ≠ 0) :
    Calls Tryz.prog 54 #[.agg #[v0, v1, v2], .agg #[.string s, v]] w fun e w' => e = .returned (.tuple #[.agg #[.string ⟨#[]⟩, .slice none 0 0, .slice none 0 0, .slice none 0 0, .slice none 0 0, .slice none 0 0], .int .i64 (askM zs ws bs s rs)]) ∧ Below w.heap.size w w' := by
  rcases Bool.eq_false_or_eq_true (modB zs ws bs) with q1 | q1
  · have hC : ¬ (profB s rs = true ∧ fitB rs.length zs = true) := fun hc => h (askM_0 q1 hc.1 hc.2)
    have e : askM zs ws bs s rs = zwC s rs zs := by unfold askM zwC; rcases Bool.eq_false_or_eq_true (profB s rs) with q2 | q2 <;> simp [q1, q2]
    rw [e]
    exact modelled_no v0 v1 v2 v zs ws bs s rs _ h0 h1 h2 hv hs (Lib.hid q1) hC
  · have e : askM zs ws bs s rs = 1 := askM_1 (fun hc => by rw [q1] at hc; exact absurd hc.1 (by simp))
    rw [e]
    obtain ⟨av, cv, hvv⟩ := rings_form hv
    exact modelled_bad v0 v1 v2 v zs ws bs s _ h0 h1 h2 ⟨_, _, _, hvv⟩ (Lib.hid q1)
/-- An array's box, read as a row. -/
theorem row_box (w : World) (cs : Array Value) (T : TypeId) (n : Nat) (xs : List Value) (hx : cs.toList = xs) (hn : cs.size = n) (hm : n ≤ maxLen) : (w.alloc (.cells cs T)).ownsRow w.heap.size T 1 (.slice (some ⟨w.heap.size, 0, none⟩) n n) n xs := by
  subst hx; subst hn
  exact ⟨by simp, .inr ⟨w.heap.size, cs.size, cs, rfl, Nat.le_refl _, heap_alloc_new w _, Nat.le_refl _, hm, by simp, by rw [Nat.mul_one]; exact List.take_of_length_le (by simp)⟩⟩
theorem rawL_list (zs : List Int) (ws : List (List Int)) (bs : List Int) (rs : List Rg) : rawL zs ws bs rs = [rawK zs ws bs rs 0, rawK zs ws bs rs 1, rawK zs ws bs rs 2, rawK zs ws bs rs 3, rawK zs ws bs rs 4] := by simp [rawL, List.range, List.range.loop]
end Go.Proofs.YtpjopfhkgegahaaGreat
