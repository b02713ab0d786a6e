/- ReadTemperament's law: what both walks answer, in one form; marks laid into a temperament and looked for again. -/
import Derived.Test.YtndmakimkghihabDoorTemReadI
import Derived.Test.YtndmakimkghihabDoorMarksE
namespace Go.Proofs.YtndmakimkghihabDoor
open Go.ChangeShapes Go.WideShapes Go.ChangeAt Go.RowKit

/-- A list of twelve numbers in a block from B on, or none. -/
def Tv (w : World) (B : Nat) (E : TypeId) (v : Value) (zs : List Int) : Prop :=
  (v = .slice none 0 0 ∧ zs = []) ∨ ∃ g cap, v = .slice (some ⟨g, 0, none⟩) 12 cap ∧ B ≤ g ∧ zs.length = 12 ∧ w.ownsRow B E 1 (.slice (some ⟨g, 0, none⟩) 12 cap) 12 (i64s zs)
theorem rowE_below {w w' : World} {B : Nat} {e : TypeId} {v : Value} {n : Nat} {xs : List Value} (hb : Below w.heap.size w w') (h : w.ownsRow B e 1 v n xs) : w'.ownsRow B e 1 v n xs :=
  h.kept (row := none) ⟨hb.os, hb.tape, hb.output, hb.size, fun k hk _ => hb.block k hk⟩ (by cases hv : v.ownBlock <;> simp)
theorem tv_kept {w w' : World} {B : Nat} {E : TypeId} {v : Value} {zs : List Int} (hb : Below w.heap.size w w') (h : Tv w B E v zs) : Tv w' B E v zs := by
  rcases h with h | ⟨g, cap, h1, h2, h3, h4⟩
  · exact .inl h
  · exact .inr ⟨g, cap, h1, h2, h3, rowE_below hb h4⟩
theorem tv_ints {w : World} {B : Nat} {E : TypeId} {v : Value} {zs : List Int} (h : Tv w B E v zs) : IntsAt w v zs := by
  rcases h with ⟨rfl, rfl⟩ | ⟨g, cap, rfl, h2, h3, h4⟩
  · exact ⟨by simp, .inl ⟨_, _, rfl, rfl⟩⟩
  · refine ⟨by omega, .inr ⟨g, 0, cap, by rw [h3], (h4.lt g rfl).2, fun j hj => ?_⟩⟩
    rw [Nat.zero_add, h4.cellAt j (by omega), i64s_get _ j hj]
/-- One answer for both. -/
def TemU (s : ByteArray) (zs : List Int) (o : Bool) (w : World) (e : Ending) (w' : World) : Prop := ∃ v, e = .returned (.tuple #[.agg #[.string s, v], .bool o]) ∧ Tv w' w.heap.size 2 v zs ∧ Below w.heap.size w w'
theorem tem_uni (s : ByteArray) : ∃ (s' : ByteArray) (zs : List Int) (o : Bool), zs.length ≤ 12 ∧ ∀ w e w', TemPost s w e w' → TemU s' zs o w e w' := by
  by_cases hx : ∃ nm zs, TemRd s nm zs
  · obtain ⟨nm, zs, h⟩ := hx
    have hl : zs.length = 12 := by
      obtain ⟨_, _, _, h3⟩ := h
      unfold tempB at h3
      simp only [Bool.and_eq_true, decide_eq_true_eq] at h3
      exact h3.2.1
    refine ⟨nm, zs, true, by omega, fun w e w' hp => ?_⟩
    obtain ⟨hb, ⟨nm2, zs2, v, h2, rfl, hown⟩ | ⟨hno, _⟩⟩ := hp
    · obtain ⟨rfl, rfl⟩ := tem_one h h2
      obtain ⟨g, cap, rfl, h3, h4, h5⟩ := hown
      rw [hl] at h5 ⊢
      exact ⟨_, rfl, .inr ⟨g, cap, rfl, h3, hl, h5⟩, hb⟩
    · exact absurd h (hno _ _)
  · refine ⟨⟨#[]⟩, [], false, by simp, fun w e w' hp => ?_⟩
    obtain ⟨hb, ⟨nm2, zs2, v, h2, _, _⟩ | ⟨_, rfl⟩⟩ := hp
    · exact absurd ⟨_, _, h2⟩ hx
    · exact ⟨_, rfl, .inl ⟨rfl, rfl⟩, hb⟩

theorem tv_form {w : World} {B : Nat} {E : TypeId} {v : Value} {zs : List Int} (h : Tv w B E v zs) : ∃ a n c, v = .slice a n c ∧ ∀ b, (∀ g, a = some g → g.block ≠ b) → ∀ o n' c', v ≠ .slice (some ⟨b, o, none⟩) n' c' := by
  rcases h with ⟨rfl, _⟩ | ⟨g, cap, rfl, _⟩
  · exact ⟨_, _, _, rfl, fun b _ o n' c' e => by simp at e⟩
  · exact ⟨_, _, _, rfl, fun b hb o n' c' e => hb _ rfl (by simp at e; simp [e.1])⟩
theorem tv_block {w : World} {B : Nat} {E : TypeId} {v : Value} {zs : List Int} (h : Tv w B E v zs) (b : Nat) (hb : w.heap.size ≤ b ∨ b < B) : ∀ o n c, v ≠ .slice (some ⟨b, o, none⟩) n c := by
  intro o n c e
  rcases h with ⟨rfl, _⟩ | ⟨g, cap, rfl, h2, _, h4⟩
  · simp at e
  · have := (h4.lt g rfl).2
    simp only [Value.slice.injEq, Option.some.injEq, Addr.mk.injEq] at e
    omega

theorem markV_any {E : TypeId} (v : Value) (zs : List Int) (B : Nat) (w : World) (h : Tv w B E v zs) :
    Calls Tryd.prog 13 #[v, .int .i64 1] w fun e w' => e = .returned (.int .i64 (1 + zs.length)) ∧ Tv w' B E v (marks 1 zs.length) ∧ Below B w w' ∧ (∀ b j, (∀ o n c, v ≠ .slice (some ⟨b, o, none⟩) n c) → w'.cell? ⟨b, j, none⟩ = w.cell? ⟨b, j, none⟩) := by
  rcases h with ⟨rfl, rfl⟩ | ⟨g, cap, rfl, h2, h3, h4⟩
  · refine (mark_none 1 w).mono ?_
    rintro e w' ⟨rfl, rfl⟩
    exact ⟨rfl, .inl ⟨rfl, rfl⟩, Below.refl _ _, fun _ _ _ => rfl⟩
  · refine (mark_some zs 1 B g cap 12 w (by omega) (Lib.hid h3) (by omega) h2 h4).mono ?_
    rintro e w' ⟨rfl, h5, h6, h7⟩
    rw [h3]
    exact ⟨rfl, .inr ⟨g, cap, rfl, h2, marks_len _ _, h5⟩, h6, fun b j hb => h7 b j (fun e => hb 0 12 cap (by rw [e]))⟩
theorem heldV_any {E : TypeId} (v : Value) (n : Nat) (B : Nat) (w : World) (h : Tv w B E v (marks 1 n)) :
    Calls Tryd.prog 14 #[v, .int .i64 1] w fun e w' => e = .returned (.int .i64 (1 + n)) ∧ w = w' := by
  rcases h with ⟨rfl, h1⟩ | ⟨g, cap, rfl, h2, h3, h4⟩
  · have hn : n = 0 := by have := marks_len 1 n; rw [h1] at this; simpa using this.symm
    subst hn
    exact held_none 1 w
  · rw [marks_len] at h3
    subst h3
    exact held_some 1 B g cap 12 w (by omega) (by omega) h4

set_option maxRecDepth 20000 in
theorem markTemp_any {E : TypeId} (s : ByteArray) (v : Value) (zs : List Int) (B : Nat) (w : World) (hB : B ≤ w.heap.size) (h : Tv w B E v zs) :
    Calls Tryd.prog 32 #[.agg #[.string s, v], .int .i64 1] w fun e w' => e = .returned (.int .i64 (1 + zs.length)) ∧ Tv w' B E v (marks 1 zs.length) ∧ Below B w w' ∧ (∀ b j, b < w.heap.size → (∀ o n c, v ≠ .slice (some ⟨b, o, none⟩) n c) → w'.cell? ⟨b, j, none⟩ = w.cell? ⟨b, j, none⟩) := by
  have HT := Lib.hid (tv_kept ((Below.refl w.heap.size w).alloc (Nat.le_refl _) (.cells #[.string s, v] 46)) h)
  have HF : ∃ a n c, v = .slice a n c := by rcases h with ⟨rfl, _⟩ | ⟨g, cap, rfl, _⟩ <;> exact ⟨_, _, _, rfl⟩
  obtain ⟨a, n, c, rfl⟩ := HF
  clear h
  go_enter Tryd.func32, Tryd.ntmps32
  go_wp2_with fail
  refine (markV_any _ zs B _ HT.out).mono ?_
  rintro e w1 ⟨rfl, h1, h2, h3⟩
  have H1 := Lib.hid h1
  have H2 := Lib.hid (((Below.refl B w).alloc hB _).trans h2)
  have H3 := Lib.hid h3
  clear h1 h2 h3
  go_wp2
  go_ret
  exact ⟨rfl, H1.out, H2.out, fun b j hb hv => by rw [H3.out b j hv, below_cell ((Below.refl w.heap.size w).alloc (Nat.le_refl _) _) _ _ hb]⟩
set_option maxRecDepth 20000 in
theorem heldTemp_any {E : TypeId} (s : ByteArray) (v : Value) (n : Nat) (B : Nat) (w : World) (h : Tv w B E v (marks 1 n)) :
    Calls Tryd.prog 33 #[.agg #[.string s, v], .int .i64 1] w fun e w' => e = .returned (.int .i64 (1 + n)) ∧ Below w.heap.size w w' := by
  have HT := Lib.hid (tv_kept ((Below.refl w.heap.size w).alloc (Nat.le_refl _) (.cells #[.string s, v] 46)) h)
  have HF : ∃ a n c, v = .slice a n c := by rcases h with ⟨rfl, _⟩ | ⟨g, cap, rfl, _⟩ <;> exact ⟨_, _, _, rfl⟩
  obtain ⟨a, n, c, rfl⟩ := HF
  clear h
  go_enter Tryd.func33, Tryd.ntmps33
  go_wp2_with fail
  refine (heldV_any _ _ B _ HT.out).mono ?_
  rintro e w1 ⟨rfl, rfl⟩
  go_wp2
  go_ret
  exact ⟨rfl, (Below.refl _ _).alloc (Nat.le_refl _) _⟩
end Go.Proofs.YtndmakimkghihabDoor
