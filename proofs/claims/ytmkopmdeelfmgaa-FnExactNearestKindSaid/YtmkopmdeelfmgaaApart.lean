/- Intervals between two frequencies; how far two numbers are apart: the program's answers and the reference model's. -/
import Derived.Test.YtmkopmdeelfmgaaCents
import Derived.Test.YtmkopmdeelfmgaaPick
namespace Go.Proofs.Ytmkopmdeelfmgaa
open Go.ChangeShapes Go.WideShapes Go.ChangeAt Go.RowKit

def centsR (f g : Int) : Int := if ok2 f g = true then logV g - logV f else 0
def aptV (f g : Int) : Int := if f < g then g - f else f - g
def beatR (f g : Int) : Int := if ok2 f g = true then aptV f g else 0
theorem apt_bd (f g : Int) : 0 ≤ aptV f g ∧ (aptV f g = 0 ↔ f = g) ∧ aptV f g = aptV g f := by unfold aptV; split <;> split <;> omega
theorem apt_le {f g M : Int} (h0 : 0 ≤ f) (h1 : f ≤ M) (k0 : 0 ≤ g) (k1 : g ≤ M) : aptV f g ≤ M := by unfold aptV; split <;> omega

theorem cellN1 (w : World) (x : Int) (T : TypeId) (n : Nat) (hn : n = w.heap.size) : ∀ j, j < 1 → (w.alloc (.cells #[.int .i64 x] T)).cell? ⟨n, 0 + j, none⟩ = some (.int .i64 ([x].getD j 0)) := by
  subst hn
  exact cellF1 w x T
theorem implCentsBetween_any (f g : Int) (w : World) :
    Calls Try.prog 62 #[.int .i64 f, .int .i64 g] w fun e w' => e = .returned (.tuple #[.int .i64 (centsR f g), .int .i64 (codeOf (ok2 f g))]) ∧ Below w.heap.size w w' := by
  by_cases h : ok2 f g = true
  · have H1 := Lib.hid (show centsR f g = logV g - logV f by unfold centsR; rw [if_pos h])
    have H2 := Lib.hid (show codeOf (ok2 f g) = 0 by unfold codeOf; rw [if_pos h])
    have HA := Lib.hid ((all2 10000 20000000 f g).trans h)
    obtain ⟨⟨b0, b1⟩, b2, b3⟩ := ok2_iff.1 h
    have l1 := log_bd (show 0 < f by omega) (by omega)
    have l2 := log_bd (show 0 < g by omega) (by omega)
    clear h
    go_enter Try.func62, Try.ntmps62
    go_wp2_with fail
    refine (within_i64 _ _ [f, g] _ 0 2 2 _ rfl (by omega) (cellF2 _ _ _ _)).mono ?_
    rintro e w' ⟨rfl, rfl⟩
    rw [HA.out]
    go_wp2_with fail
    refine (implLog_any g _ (by omega) (by omega)).mono ?_
    rintro e w1 ⟨rfl, rfl⟩
    go_wp2_with fail
    refine (implLog_any f _ (by omega) (by omega)).mono ?_
    rintro e w1 ⟨rfl, rfl⟩
    go_wp2
    go_ret2
    exact ⟨ret_two H1.out.symm H2.out.symm, (Below.refl _ _).alloc (Nat.le_refl _) _⟩
  · have H1 := Lib.hid (show centsR f g = 0 by unfold centsR; rw [if_neg h])
    have H2 := Lib.hid (show codeOf (ok2 f g) = 2 by unfold codeOf; rw [if_neg h])
    have HA := Lib.hid ((all2 10000 20000000 f g).trans (by simpa using h : ok2 f g = false))
    clear h
    go_enter Try.func62, Try.ntmps62
    go_wp2_with fail
    refine (within_i64 _ _ [f, g] _ 0 2 2 _ rfl (by omega) (cellF2 _ _ _ _)).mono ?_
    rintro e w' ⟨rfl, rfl⟩
    rw [HA.out]
    go_wp2
    go_ret2
    exact ⟨ret_two H1.out.symm H2.out.symm, (Below.refl _ _).alloc (Nat.le_refl _) _⟩
end Go.Proofs.Ytmkopmdeelfmgaa
