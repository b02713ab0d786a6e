/- A list of numbers as an answer: a list of the call's own, or none; marks laid into it and looked for again. -/
import Derived.Test.YtpjopfhkgegahaaGreatRingRes
import Derived.Test.YtpjopfhkgegahaaGreatRowsLaw
import Derived.Test.YtpjopfhkgegahaaGreatRingsW
namespace Go.Proofs.YtpjopfhkgegahaaGreat
open Go.ChangeShapes Go.WideShapes Go.ChangeAt Go.RowKit

/-- Numbers in a block from B on, or none. -/
def Iv (w : World) (B : Nat) (v : Value) (zs : List Int) : Prop :=
  (v = .slice none 0 0 ∧ zs = []) ∨ ∃ g cap T, v = .slice (some ⟨g, 0, none⟩) zs.length cap ∧ B ≤ g ∧ w.ownsRow B T 1 (.slice (some ⟨g, 0, none⟩) zs.length cap) zs.length (i64s zs)
theorem iv_kept {w w' : World} {B : Nat} {v : Value} {zs : List Int} (hb : Below w.heap.size w w') (h : Iv w B v zs) : Iv w' B v zs := by
  rcases h with h | ⟨g, cap, T, h1, h2, h4⟩
  · exact .inl h
  · exact .inr ⟨g, cap, T, h1, h2, row_keep1 hb h4⟩
theorem iv_ints {w : World} {B : Nat} {v : Value} {zs : List Int} (hl : zs.length ≤ 1048576) (h : Iv w B v zs) : IntsAt w v zs := by
  rcases h with ⟨rfl, rfl⟩ | ⟨g, cap, T, rfl, h2, h4⟩
  · exact ⟨by simp, .inl ⟨_, _, rfl, rfl⟩⟩
  · refine ⟨hl, .inr ⟨g, 0, cap, rfl, (h4.lt g rfl).2, fun j hj => ?_⟩⟩
    rw [Nat.zero_add, h4.cellAt j (by omega)]
    exact i64s_get _ j (by omega)
theorem iv_form {w : World} {B : Nat} {v : Value} {zs : List Int} (h : Iv w B v zs) : ∃ a c, v = .slice a zs.length c := by
  rcases h with ⟨rfl, rfl⟩ | ⟨g, cap, T, rfl, _⟩
  · exact ⟨_, _, rfl⟩
  · exact ⟨_, _, rfl⟩
theorem iv_own {w : World} {B : Nat} {v : Value} {zs : List Int} (h : OwnInts w B v zs) : Iv w B v zs := by
  obtain ⟨g, cap, rfl, h1, h2, h3⟩ := h
  exact .inr ⟨g, cap, _, rfl, h1, h3⟩
theorem iv_base {w : World} {B B' : Nat} {v : Value} {zs : List Int} (h : Iv w B v zs) (hB : B' ≤ B) : Iv w B' v zs := by
  rcases h with h | ⟨g, cap, T, h1, h2, h4⟩
  · exact .inl h
  · refine .inr ⟨g, cap, T, h1, by omega, h4.1, ?_⟩
    rcases h4.2 with h | ⟨g', cap', cur, e, hb, rest⟩
    · exact .inl h
    · exact .inr ⟨g', cap', cur, e, by omega, rest⟩
theorem iv_in {w : World} {B : Nat} {v : Value} {zs : List Int} (h : Iv w B v zs) : ∀ k, v.ownBlock = some k → B ≤ k ∧ k < w.heap.size := by
  intro k hk
  rcases h with ⟨rfl, _⟩ | ⟨g, cap, T, rfl, h2, h4⟩
  · simp [Value.ownBlock] at hk
  · simp only [Value.ownBlock, Option.some.injEq] at hk
    subst hk
    exact ⟨h2, (h4.lt g rfl).2⟩
theorem iv_grown {w w' : World} {B : Nat} {v : Value} {zs : List Int} {row : Option Nat} (hg : w.grownBy w' row) (h : Iv w B v zs) (hne : v.ownBlock = none ∨ v.ownBlock ≠ row) : Iv w' B v zs := by
  rcases h with h | ⟨g, cap, T, rfl, h2, h4⟩
  · exact .inl h
  · exact .inr ⟨g, cap, T, rfl, h2, h4.kept hg hne⟩
theorem iv_of_row {w : World} {B g cap n : Nat} {T : TypeId} {zs : List Int} (hn : zs.length = n) (h : w.ownsRow B T 1 (.slice (some ⟨g, 0, none⟩) n cap) n (i64s zs)) : Iv w B (.slice (some ⟨g, 0, none⟩) n cap) zs := by
  subst hn
  exact .inr ⟨g, cap, T, rfl, (h.lt g rfl).1, h⟩
/-- The answer: a list of the call's own and a code. -/
def IntU (L : List Int) (c : Int) (w : World) (e : Ending) (w' : World) : Prop := ∃ v, e = .returned (.tuple #[v, .int .i64 c]) ∧ Iv w' w.heap.size v L ∧ Below w.heap.size w w'
def marksToI (zs : List Int) (m : Int) (k : Nat) : List Int := (List.range k).map (fun (j : Nat) => m + (j : Int)) ++ zs.drop k
def marksI (m : Int) (n : Nat) : List Int := (List.range n).map (fun (j : Nat) => m + (j : Int))
theorem marksI_next (zs : List Int) (m : Int) (k : Nat) (h : k < zs.length) : (i64s (marksToI zs m k)).set k (.int .i64 (m + k)) = i64s (marksToI zs m (k + 1)) := by
  unfold marksToI i64s
  rw [List.drop_eq_getElem_cons h, List.range_succ, List.map_append, List.map_append, List.map_cons, List.set_append_right _ _ (by simp)]
  simp
theorem marksI_at (zs : List Int) (m : Int) (k : Nat) (h : k < zs.length) : ∃ old, (i64s (marksToI zs m k))[k]? = some (.int .i64 old) := by
  refine ⟨(marksToI zs m k).getD k 0, i64s_get _ k ?_⟩
  unfold marksToI
  rw [List.length_append, List.length_map, List.length_range, List.length_drop]; omega
theorem marksI_len (m : Int) (n : Nat) : (marksI m n).length = n := by simp [marksI]
theorem marksI_get (m : Int) (n j : Nat) (h : j < n) : (marksI m n).getD j 0 = m + j := by simp [marksI, List.getD, h]
end Go.Proofs.YtpjopfhkgegahaaGreat
