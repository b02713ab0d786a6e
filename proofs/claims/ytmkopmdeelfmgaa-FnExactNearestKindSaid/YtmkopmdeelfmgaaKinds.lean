/- The ideal intervals of a kind of bell: the reference model's and the program's. -/
import Derived.Test.YtmkopmdeelfmgaaFive
namespace Go.Proofs.Ytmkopmdeelfmgaa
open Go.ChangeShapes Go.WideShapes Go.ChangeAt Go.RowKit

def kindB (k : Int) : Bool := inB k 1 2
def offL (k : Int) : List Int := if k = 2 then [-12000, 0, 4000, 7000, 12000] else [-12000, 0, 3000, 7000, 12000]
theorem l04Kind_any (k : Int) (w : World) :
    Calls Try.prog 45 #[.int .i64 k] w fun en w' => en = .returned (.bool (kindB k)) ∧ w = w' := by
  by_cases h1 : k = 1
  · subst h1
    go_enter Try.func45, Try.ntmps45
    go_wp2
    go_ret
    exact ⟨ret_bool (by decide), rfl⟩
  · by_cases h2 : k = 2
    · subst h2
      go_enter Try.func45, Try.ntmps45
      go_wp2
      go_ret
      exact ⟨ret_bool (by decide), rfl⟩
    · have H := Lib.hid (show kindB k = false from inB_false (by omega))
      have e1 : (k == 1) = false := by simpa using h1
      have e2 : (k == 2) = false := by simpa using h2
      go_enter Try.func45, Try.ntmps45
      go_wp2
      go_ret
      exact ⟨ret_bool H.out.symm, rfl⟩
theorem off_at (k : Int) (j : Nat) (h : j < 5) : -12000 ≤ (offL k).getD j 0 ∧ (offL k).getD j 0 ≤ 12000 := by
  unfold offL
  rcases (by omega : j = 0 ∨ j = 1 ∨ j = 2 ∨ j = 3 ∨ j = 4) with rfl | rfl | rfl | rfl | rfl <;> split <;> decide
theorem off_len (k : Int) : (offL k).length = 5 := by unfold offL; split <;> rfl
theorem kind_two {k : Int} (h : kindB k = true) : k = 1 ∨ k = 2 := by have := inB_iff.1 h; omega
theorem l04Offsets_any (k : Int) (w : World) (h : kindB k = true) :
    Calls Try.prog 46 #[.int .i64 k] w fun en w' => (∃ g, en = .returned (.slice (some ⟨g, 0, none⟩) 5 5) ∧ OwnFive 2 w g 5 (offL k) w') ∧ Below w.heap.size w w' := by
  rcases kind_two h with rfl | rfl
  · go_enter Try.func46, Try.ntmps46
    go_wp2
    go_ret
    exact ⟨⟨w.heap.size, rfl, Nat.le_refl _, World.ownsRow_lit w (i64s (offL 1)).toArray 5 (Nat.le_refl _) (by decide) rfl⟩, (Below.refl _ _).alloc (Nat.le_refl _) _⟩
  · go_enter Try.func46, Try.ntmps46
    go_wp2
    go_ret
    exact ⟨⟨w.heap.size, rfl, Nat.le_refl _, World.ownsRow_lit w (i64s (offL 2)).toArray 5 (Nat.le_refl _) (by decide) rfl⟩, (Below.refl _ _).alloc (Nat.le_refl _) _⟩
set_option maxHeartbeats 400000 in
theorem specOffs_any (k : Int) (w : World) : Calls Try.prog 21 #[.int .i64 k] w (FiveIs 2 (kindB k) (offL k) 2 w) := by
  rcases Bool.eq_false_or_eq_true (kindB k) with h0 | h0
  · have H := Lib.hid h0
    go_enter Try.func21, Try.ntmps21
    go_wp2_with fail
    refine (l04Kind_any _ _).mono ?_
    rintro en w1 ⟨rfl, rfl⟩
    rw [h0]
    go_wp2_with fail
    refine (l04Offsets_any _ _ H.out).mono ?_
    rintro en w1 ⟨⟨g, rfl, ho⟩, hb⟩
    have HO := Lib.hid ho
    have HB := Lib.hid hb
    clear ho hb
    go_wp2
    go_ret2
    exact ⟨HB.out, .inl ⟨H.out, g, 5, rfl, HO.out⟩⟩
  · have H := Lib.hid h0
    go_enter Try.func21, Try.ntmps21
    go_wp2_with fail
    refine (l04Kind_any _ _).mono ?_
    rintro en w1 ⟨rfl, rfl⟩
    rw [h0]
    go_wp2
    go_ret2
    exact ⟨Below.refl _ _, .inr ⟨H.out, rfl⟩⟩
set_option maxHeartbeats 400000 in
theorem implOffs_any (k : Int) (w : World) : Calls Try.prog 22 #[.int .i64 k] w (FiveIs 2 (kindB k) (offL k) 2 w) := by
  by_cases h1 : k = 1
  · subst h1
    go_enter Try.func22, Try.ntmps22
    go_wp2
    go_ret2
    exact ⟨(Below.refl _ _).alloc (Nat.le_refl _) _, .inl ⟨by decide, w.heap.size, 5, rfl, Nat.le_refl _, World.ownsRow_lit w (i64s (offL 1)).toArray 5 (Nat.le_refl _) (by decide) rfl⟩⟩
  · by_cases h2 : k = 2
    · subst h2
      go_enter Try.func22, Try.ntmps22
      go_wp2
      go_ret2
      exact ⟨(Below.refl _ _).alloc (Nat.le_refl _) _, .inl ⟨by decide, w.heap.size, 5, rfl, Nat.le_refl _, World.ownsRow_lit w (i64s (offL 2)).toArray 5 (Nat.le_refl _) (by decide) rfl⟩⟩
    · have H := Lib.hid (show kindB k = false from inB_false (by omega))
      have e1 : (k == 1) = false := by simpa using h1
      have e2 : (k == 2) = false := by simpa using h2
      go_enter Try.func22, Try.ntmps22
      go_wp2
      go_ret2
      exact ⟨Below.refl _ _, .inr ⟨H.out, rfl⟩⟩
end Go.Proofs.Ytmkopmdeelfmgaa
