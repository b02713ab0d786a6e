/- Numbers in a row of the call's own, or none: as IntRes, for a seat without rings. -/
import Derived.Test.YtikoehjalcljnaaInts
namespace Go.Proofs.Ytikoehjalcljnaa
open Go.ChangeShapes Go.WideShapes Go.ChangeAt Go.RowKit

theorem row_keepI {w w' : World} {B sz : Nat} {e : TypeId} {v : Value} {n : Nat} {xs : List Value} (hb : Below w.heap.size w w') (h : w.ownsRow B e sz v n xs) : w'.ownsRow B e sz v n xs :=
  h.kept (row := none) ⟨hb.os, hb.tape, hb.output, hb.size, fun k hk _ => hb.block k hk⟩ (by cases hv : v.ownBlock <;> simp)
/-- Numbers in a block from B on, or none. -/
def Iv (w : World) (B : Nat) (v : Value) (zs : List Int) : Prop :=
  (v = .slice none 0 0 ∧ zs = []) ∨ ∃ g cap T, v = .slice (some ⟨g, 0, none⟩) zs.length cap ∧ B ≤ g ∧ w.ownsRow B T 1 (.slice (some ⟨g, 0, none⟩) zs.length cap) zs.length (i64s zs)
theorem iv_kept {w w' : World} {B : Nat} {v : Value} {zs : List Int} (hb : Below w.heap.size w w') (h : Iv w B v zs) : Iv w' B v zs := by
  rcases h with h | ⟨g, cap, T, h1, h2, h4⟩
  · exact .inl h
  · exact .inr ⟨g, cap, T, h1, h2, row_keepI hb h4⟩
theorem iv_ints {w : World} {B : Nat} {v : Value} {zs : List Int} (hl : zs.length ≤ 1048576) (h : Iv w B v zs) : IntsAt w v zs := by
  rcases h with ⟨rfl, rfl⟩ | ⟨g, cap, T, rfl, h2, h4⟩
  · exact ⟨by simp, .inl ⟨_, _, rfl, rfl⟩⟩
  · refine ⟨hl, .inr ⟨g, 0, cap, rfl, (h4.lt g rfl).2, fun j hj => ?_⟩⟩
    rw [Nat.zero_add, h4.cellAt j (by omega)]
    exact i64s_get _ j (by omega)
theorem iv_form {w : World} {B : Nat} {v : Value} {zs : List Int} (h : Iv w B v zs) : ∃ a c, v = .slice a zs.length c := by
  rcases h with ⟨rfl, rfl⟩ | ⟨g, cap, T, rfl, _⟩
  · exact ⟨_, _, rfl⟩
  · exact ⟨_, _, rfl⟩
theorem iv_own {w : World} {B : Nat} {v : Value} {zs : List Int} (h : OwnInts w B v zs) : Iv w B v zs := by
  obtain ⟨g, cap, rfl, h1, h2, h3⟩ := h
  exact .inr ⟨g, cap, _, rfl, h1, h3⟩
theorem iv_base {w : World} {B B' : Nat} {v : Value} {zs : List Int} (h : Iv w B v zs) (hB : B' ≤ B) : Iv w B' v zs := by
  rcases h with h | ⟨g, cap, T, h1, h2, h4⟩
  · exact .inl h
  · refine .inr ⟨g, cap, T, h1, by omega, h4.1, ?_⟩
    rcases h4.2 with h | ⟨g', cap', cur, e, hb, rest⟩
    · exact .inl h
    · exact .inr ⟨g', cap', cur, e, by omega, rest⟩
theorem iv_in {w : World} {B : Nat} {v : Value} {zs : List Int} (h : Iv w B v zs) : ∀ k, v.ownBlock = some k → B ≤ k ∧ k < w.heap.size := by
  intro k hk
  rcases h with ⟨rfl, _⟩ | ⟨g, cap, T, rfl, h2, h4⟩
  · simp [Value.ownBlock] at hk
  · simp only [Value.ownBlock, Option.some.injEq] at hk
    subst hk
    exact ⟨h2, (h4.lt g rfl).2⟩
theorem ints_form {w : World} {v : Value} {zs : List Int} (h : IntsAt w v zs) : ∃ a c, v = .slice a zs.length c := by
  obtain ⟨_, ⟨a, c, rfl, rfl⟩ | ⟨b, off, cap, rfl, _⟩⟩ := h
  · exact ⟨_, _, rfl⟩
  · exact ⟨_, _, rfl⟩
theorem eqInts_at (zs : List Int) (v1 v2 : Value) (w : World) (h1 : IntsAt w v1 zs) (h2 : IntsAt w v2 zs) :
    Calls Try.prog 38 #[v1, v2] w fun e w' => e = .returned (.bool true) ∧ Below w.heap.size w w' := by
  obtain ⟨hl, ⟨a, c, rfl, rfl⟩ | ⟨b, off, cap, rfl, hb, hc⟩⟩ := h1
  · obtain ⟨a2, c2, rfl⟩ := ints_form h2
    exact eqInts_zero a a2 c c2 w
  · obtain ⟨_, ⟨a, c, rfl, rfl⟩ | ⟨b2, off2, cap2, rfl, hb2, hc2⟩⟩ := h2
    · exact eqInts_zero _ _ _ _ w
    · exact eqInts_some zs b off cap b2 off2 cap2 w _ hl hc hc2
end Go.Proofs.Ytikoehjalcljnaa
