/- Profiles as answers: a profile of the call's own, or none; marks laid into it and looked for again. -/
import Derived.Test.YtpjopfhkgegahaaRingMarks
namespace Go.Proofs.Ytpjopfhkgegahaa
open Go.ChangeShapes Go.WideShapes Go.ChangeAt Go.RowKit

/-- Rings in a block from B on, or none. -/
def Rv (w : World) (B : Nat) (v : Value) (zs : List Rg) : Prop :=
  (v = .slice none 0 0 ∧ zs = []) ∨ ∃ g cap, v = .slice (some ⟨g, 0, none⟩) zs.length cap ∧ B ≤ g ∧ w.ownsRow B 58 3 (.slice (some ⟨g, 0, none⟩) zs.length cap) zs.length (i64s (flat zs))
theorem rv_kept {w w' : World} {B : Nat} {v : Value} {zs : List Rg} (hb : Below w.heap.size w w') (h : Rv w B v zs) : Rv w' B v zs := by
  rcases h with h | ⟨g, cap, h1, h2, h4⟩
  · exact .inl h
  · exact .inr ⟨g, cap, h1, h2, row_keepR hb h4⟩
theorem rv_base {w : World} {B B' : Nat} {v : Value} {zs : List Rg} (h : Rv w B v zs) (hB : B' ≤ B) : Rv w B' v zs := by
  rcases h with h | ⟨g, cap, h1, h2, h4⟩
  · exact .inl h
  · refine .inr ⟨g, cap, h1, by omega, h4.1, ?_⟩
    rcases h4.2 with h | ⟨g', cap', cur, e, hb, rest⟩
    · exact .inl h
    · exact .inr ⟨g', cap', cur, e, by omega, rest⟩
theorem rv_rings {w : World} {B : Nat} {v : Value} {zs : List Rg} (hl : zs.length ≤ 1048576) (h : Rv w B v zs) : RingsAt w v zs := by
  rcases h with ⟨rfl, rfl⟩ | ⟨g, cap, rfl, h2, h4⟩
  · exact ⟨by simp, .inl ⟨_, _, rfl, rfl⟩⟩
  · refine ⟨hl, .inr ⟨g, 0, cap, rfl, (h4.lt g rfl).2, fun j hj => ?_⟩⟩
    rw [Nat.zero_add, h4.cellAt j (by omega)]
    exact i64s_get _ j (by rw [flat_len]; omega)
theorem rv_form {w : World} {B : Nat} {v : Value} {zs : List Rg} (h : Rv w B v zs) : ∃ a c, v = .slice a zs.length c := by
  rcases h with ⟨rfl, rfl⟩ | ⟨g, cap, rfl, _⟩
  · exact ⟨_, _, rfl⟩
  · exact ⟨_, _, rfl⟩
theorem rv_block {w : World} {B : Nat} {v : Value} {zs : List Rg} (h : Rv w B v zs) (b : Nat) (hb : w.heap.size ≤ b ∨ b < B) : ∀ o n c, v ≠ .slice (some ⟨b, o, none⟩) n c := by
  intro o n c e
  rcases h with ⟨rfl, _⟩ | ⟨g, cap, rfl, h2, h4⟩
  · simp at e
  · have := (h4.lt g rfl).2
    simp only [Value.slice.injEq, Option.some.injEq, Addr.mk.injEq] at e
    omega
theorem rv_own {w : World} {B : Nat} {v : Value} {zs : List Rg} (h : OwnRings w B v zs) : Rv w B v zs := by
  obtain ⟨g, cap, rfl, h1, h2, h3⟩ := h
  exact .inr ⟨g, cap, rfl, h1, h3⟩
theorem rv_in {w : World} {B : Nat} {v : Value} {zs : List Rg} (h : Rv w B v zs) : ∀ k, v.ownBlock = some k → B ≤ k ∧ k < w.heap.size := by
  intro k hk
  rcases h with ⟨rfl, _⟩ | ⟨g, cap, rfl, h2, h4⟩
  · simp [Value.ownBlock] at hk
  · simp only [Value.ownBlock, Option.some.injEq] at hk
    subst hk
    exact ⟨h2, (h4.lt g rfl).2⟩
theorem rv_grown {w w' : World} {B : Nat} {v : Value} {zs : List Rg} {row : Option Nat} (hg : w.grownBy w' row) (h : Rv w B v zs) (hne : v.ownBlock = none ∨ v.ownBlock ≠ row) : Rv w' B v zs := by
  rcases h with h | ⟨g, cap, rfl, h2, h4⟩
  · exact .inl h
  · exact .inr ⟨g, cap, rfl, h2, h4.kept hg hne⟩
theorem apart_of {a b : Option Nat} {l1 u1 l2 u2 : Nat} (ha : ∀ k, a = some k → l1 ≤ k ∧ k < u1) (hb : ∀ k, b = some k → l2 ≤ k ∧ k < u2) (h : u1 ≤ l2 ∨ u2 ≤ l1) : a = none ∨ a ≠ b := by
  cases ha' : a with
  | none => exact .inl rfl
  | some k =>
    refine .inr fun e => ?_
    have h1 := ha k ha'
    have h2 := hb k e.symm
    omega
theorem apart_box {r : Option Nat} {b l u : Nat} (hr : ∀ k, r = some k → l ≤ k ∧ k < u) (h : b < l ∨ u ≤ b) : some b ≠ r := fun e => by
  have := hr b e.symm
  omega
theorem gb_cell {w w' : World} {row : Option Nat} (hg : w.grownBy w' row) (b o : Nat) (hb : b < w.heap.size) (hne : some b ≠ row) : w'.cell? ⟨b, o, none⟩ = w.cell? ⟨b, o, none⟩ := World.cell?_of_block (hg.block b hb hne)
theorem row_baseR {w : World} {B B' : Nat} {e : TypeId} {v : Value} {n : Nat} {xs : List Value} (h : w.ownsRow B e 3 v n xs) (hB : B' ≤ B) : w.ownsRow B' e 3 v n xs := by
  refine ⟨h.1, ?_⟩
  rcases h.2 with h | ⟨g', cap', cur, e, hb, rest⟩
  · exact .inl h
  · exact .inr ⟨g', cap', cur, e, by omega, rest⟩
theorem rv_of_ownAt {w : World} {B : Nat} {v : Value} {zs : List Rg} (h : OwnRAt w B v zs) : Rv w B v zs := by
  obtain ⟨B', hB, h2⟩ := h
  exact rv_base (rv_own h2) hB
/-- The answer: a profile of the call's own and a code. -/
def ProfU (s : ByteArray) (zs : List Rg) (c : Int) (w : World) (e : Ending) (w' : World) : Prop := ∃ v, e = .returned (.tuple #[.agg #[.string s, v], .int .i64 c]) ∧ Rv w' w.heap.size v zs ∧ Below w.heap.size w w'
theorem markRv_any (v : Value) (zs : List Rg) (B : Nat) (w : World) (hl : zs.length ≤ 1048576) (h : Rv w B v zs) :
    Calls Try.prog 43 #[v, .int .i64 1] w fun e w' => e = .returned (.int .i64 (1 + 3 * zs.length)) ∧ Rv w' B v (marksR 1 zs.length) ∧ w.grownBy w' v.ownBlock := by
  rcases h with ⟨rfl, rfl⟩ | ⟨g, cap, rfl, h2, h4⟩
  · refine (markR_none 1 w none 0).mono ?_
    rintro e w' ⟨rfl, rfl⟩
    exact ⟨rfl, .inl ⟨rfl, rfl⟩, gb_refl _ _⟩
  · obtain ⟨n, hn⟩ : ∃ n, zs.length = n := ⟨_, rfl⟩
    rw [hn] at h4 hl ⊢
    refine (markR_some zs 1 B g cap n w (by omega) (Lib.hid hn) (by omega) h4).mono ?_
    rintro e w' ⟨rfl, h5, h6⟩
    exact ⟨rfl, .inr ⟨g, cap, by rw [marksR_len], h2, by rw [marksR_len]; exact h5⟩, h6⟩
theorem heldRv_any (v : Value) (n : Nat) (B : Nat) (w : World) (hl : n ≤ 1048576) (h : Rv w B v (marksR 1 n)) :
    Calls Try.prog 44 #[v, .int .i64 1] w fun e w' => e = .returned (.int .i64 (1 + 3 * n)) ∧ w = w' := by
  rcases h with ⟨rfl, h1⟩ | ⟨g, cap, rfl, h2, h4⟩
  · have hn : n = 0 := by have := marksR_len 1 n; rw [h1] at this; simpa using this.symm
    subst hn
    exact heldR_none 1 w none 0
  · rw [marksR_len] at h4 ⊢
    exact heldR_some 1 B g cap n w (by omega) (by omega) h4
set_option maxRecDepth 20000 in
theorem markProf_any (s : ByteArray) (v : Value) (zs : List Rg) (B : Nat) (w : World) (hl : zs.length ≤ 1048576) (h : Rv w B v zs) :
    Calls Try.prog 18 #[.agg #[.string s, v], .int .i64 1] w fun e w' => e = .returned (.int .i64 (1 + 3 * zs.length)) ∧ Rv w' B v (marksR 1 zs.length) ∧ w.grownBy w' v.ownBlock := by
  have HT := Lib.hid (rv_kept ((Below.refl w.heap.size w).alloc (Nat.le_refl _) (.cells #[.string s, v] 40)) h)
  have HF : ∃ a n c, v = .slice a n c := by rcases h with ⟨rfl, _⟩ | ⟨g, cap, rfl, _⟩ <;> exact ⟨_, _, _, rfl⟩
  obtain ⟨a, n, c, rfl⟩ := HF
  clear h
  go_enter Try.func18, Try.ntmps18
  go_wp2_with fail
  refine (markRv_any _ zs B _ hl HT.out).mono ?_
  rintro e w1 ⟨rfl, h1, h2⟩
  have H1 := Lib.hid h1
  have H2 := Lib.hid (gb_trans (World.grownBy_alloc w _ _) h2)
  clear h1 h2
  go_wp2
  go_ret
  exact ⟨rfl, H1.out, H2.out⟩
theorem markRvM_any (m : Int) (hm : 0 ≤ m ∧ m ≤ 1000000000000) (v : Value) (zs : List Rg) (B : Nat) (w : World) (hl : zs.length ≤ 1048576) (h : Rv w B v zs) :
    Calls Try.prog 43 #[v, .int .i64 m] w fun e w' => e = .returned (.int .i64 (m + 3 * zs.length)) ∧ Rv w' B v (marksR m zs.length) ∧ w.grownBy w' v.ownBlock := by
  rcases h with ⟨rfl, rfl⟩ | ⟨g, cap, rfl, h2, h4⟩
  · refine (markR_none m w none 0).mono ?_
    rintro e w' ⟨rfl, rfl⟩
    exact ⟨by simp, .inl ⟨rfl, rfl⟩, gb_refl _ _⟩
  · obtain ⟨n, hn⟩ : ∃ n, zs.length = n := ⟨_, rfl⟩
    rw [hn] at h4 hl ⊢
    refine (markR_some zs m B g cap n w hm (Lib.hid hn) (by omega) h4).mono ?_
    rintro e w' ⟨rfl, h5, h6⟩
    exact ⟨rfl, .inr ⟨g, cap, by rw [marksR_len], h2, by rw [marksR_len]; exact h5⟩, h6⟩
set_option maxRecDepth 20000 in
theorem markProfM_any (m : Int) (hm : 0 ≤ m ∧ m ≤ 1000000000000) (s : ByteArray) (v : Value) (zs : List Rg) (B : Nat) (w : World) (hl : zs.length ≤ 1048576) (h : Rv w B v zs) :
    Calls Try.prog 18 #[.agg #[.string s, v], .int .i64 m] w fun e w' => e = .returned (.int .i64 (m + 3 * zs.length)) ∧ Rv w' B v (marksR m zs.length) ∧ w.grownBy w' v.ownBlock := by
  have HT := Lib.hid (rv_kept ((Below.refl w.heap.size w).alloc (Nat.le_refl _) (.cells #[.string s, v] 40)) h)
  have HF : ∃ a n c, v = .slice a n c := by rcases h with ⟨rfl, _⟩ | ⟨g, cap, rfl, _⟩ <;> exact ⟨_, _, _, rfl⟩
  obtain ⟨a, n, c, rfl⟩ := HF
  clear h
  go_enter Try.func18, Try.ntmps18
  go_wp2_with fail
  refine (markRvM_any m hm _ zs B _ hl HT.out).mono ?_
  rintro e w1 ⟨rfl, h1, h2⟩
  have H1 := Lib.hid h1
  have H2 := Lib.hid (gb_trans (World.grownBy_alloc w _ _) h2)
  clear h1 h2
  go_wp2
  go_ret
  exact ⟨rfl, H1.out, H2.out⟩
set_option maxRecDepth 20000 in
theorem heldProf_any (s : ByteArray) (v : Value) (n : Nat) (B : Nat) (w : World) (hl : n ≤ 1048576) (h : Rv w B v (marksR 1 n)) :
    Calls Try.prog 19 #[.agg #[.string s, v], .int .i64 1] w fun e w' => e = .returned (.int .i64 (1 + 3 * n)) ∧ Below w.heap.size w w' := by
  have HT := Lib.hid (rv_kept ((Below.refl w.heap.size w).alloc (Nat.le_refl _) (.cells #[.string s, v] 40)) h)
  have HF : ∃ a n c, v = .slice a n c := by rcases h with ⟨rfl, _⟩ | ⟨g, cap, rfl, _⟩ <;> exact ⟨_, _, _, rfl⟩
  obtain ⟨a, n2, c, rfl⟩ := HF
  clear h
  go_enter Try.func19, Try.ntmps19
  go_wp2_with fail
  refine (heldRv_any _ n B _ hl HT.out).mono ?_
  rintro e w1 ⟨rfl, rfl⟩
  go_wp2
  go_ret
  exact ⟨rfl, (Below.refl _ _).alloc (Nat.le_refl _) _⟩
end Go.Proofs.Ytpjopfhkgegahaa
