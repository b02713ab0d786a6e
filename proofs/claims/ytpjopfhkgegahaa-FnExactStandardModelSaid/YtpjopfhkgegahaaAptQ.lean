/- The distance of two numbers. -/
import Derived.Test.YtpjopfhkgegahaaPick
set_option linter.unusedVariables false
namespace Go.Proofs.Ytpjopfhkgegahaa
open Go.ChangeShapes Go.WideShapes Go.ChangeAt Go.RowKit

def aptV (f g : Int) : Int := if f < g then g - f else f - g
theorem apt_bd (f g : Int) : 0 ≤ aptV f g ∧ (aptV f g = 0 ↔ f = g) ∧ aptV f g = aptV g f := by unfold aptV; split <;> split <;> omega
theorem apt_le {f g M : Int} (h0 : 0 ≤ f) (h1 : f ≤ M) (k0 : 0 ≤ g) (k1 : g ≤ M) : aptV f g ≤ M := by unfold aptV; split <;> omega

theorem cellN1 (w : World) (x : Int) (T : TypeId) (n : Nat) (hn : n = w.heap.size) : ∀ j, j < 1 → (w.alloc (.cells #[.int .i64 x] T)).cell? ⟨n, 0 + j, none⟩ = some (.int .i64 ([x].getD j 0)) := by
  subst hn
  intro j hj
  obtain rfl : j = 0 := by omega
  go_simp
theorem apart_any (a b : Int) (w : World) (ha : -4000000000000000000 ≤ a ∧ a ≤ 4000000000000000000) (hb : -4000000000000000000 ≤ b ∧ b ≤ 4000000000000000000) :
    Calls Try.prog 51 #[.int .i64 a, .int .i64 b] w fun e w' => e = .returned (.int .i64 (aptV a b)) ∧ Below w.heap.size w w' := by
  by_cases h : a < b
  · have HF := Lib.hid (show aptV a b = b - a by unfold aptV; rw [if_pos h])
    have HG := Lib.hid (show [b].foldl pickMost a = b by simp [pickMost, h])
    have HL := Lib.hid (show [b].foldl pickLeast a = a by simp [pickLeast]; omega)
    go_enter Try.func51, Try.ntmps51
    go_wp2_with fail
    refine (greatest_any a [b] _ 0 1 1 _ rfl (by omega) (cellN1 _ _ _ _ (by simp))).mono ?_
    rintro e w' ⟨rfl, rfl⟩
    rw [HG.out]
    go_wp2_with fail
    refine (least_any a [b] _ 0 1 1 _ rfl (by omega) (cellN1 _ _ _ _ (by simp))).mono ?_
    rintro e w' ⟨rfl, rfl⟩
    rw [HL.out]
    go_wp2
    go_ret
    exact ⟨ret_i64 HF.out.symm, ((Below.refl _ _).alloc (Nat.le_refl _) _).alloc (by simp) _⟩
  · have HF := Lib.hid (show aptV a b = a - b by unfold aptV; rw [if_neg h])
    have HG := Lib.hid (show [b].foldl pickMost a = a by simp [pickMost]; omega)
    have HL := Lib.hid (show [b].foldl pickLeast a = b by simp [pickLeast]; omega)
    go_enter Try.func51, Try.ntmps51
    go_wp2_with fail
    refine (greatest_any a [b] _ 0 1 1 _ rfl (by omega) (cellN1 _ _ _ _ (by simp))).mono ?_
    rintro e w' ⟨rfl, rfl⟩
    rw [HG.out]
    go_wp2_with fail
    refine (least_any a [b] _ 0 1 1 _ rfl (by omega) (cellN1 _ _ _ _ (by simp))).mono ?_
    rintro e w' ⟨rfl, rfl⟩
    rw [HL.out]
    go_wp2
    go_ret
    exact ⟨ret_i64 HF.out.symm, ((Below.refl _ _).alloc (Nat.le_refl _) _).alloc (by simp) _⟩
end Go.Proofs.Ytpjopfhkgegahaa
