/- The reference model's root is the greatest number whose square is at most the argument, for every int64. -/
import Derived.Test.YtfleececlafjkaaDoorRows
import Derived.WalkKit
import Derived.ProofKit
import Derived.OpenShut
import Derived.Lib.Hide
namespace Go.Proofs.YtfleececlafjkaaDoor
open Go.ChangeShapes Go.WideShapes Go.ChangeAt Go.RowKit

/-- 'r' is the root of 'n', rounded down. -/
def IsRoot (n r : Int) : Prop := 0 ≤ r ∧ r ≤ 3037000499 ∧ (n < 0 → r = 0) ∧ (0 ≤ n → r * r ≤ n ∧ n < (r + 1) * (r + 1))
def RootPost (n : Int) (w : World) (e : Ending) (w' : World) : Prop := ∃ r : Int, IsRoot n r ∧ e = .returned (.int .i64 r) ∧ w = w'

theorem sq_mono {a b : Int} (h0 : 0 ≤ a) (h : a ≤ b) : a * a ≤ b * b := Int.mul_le_mul h h h0 (by omega)

theorem root_unique {n a b : Int} (ha : IsRoot n a) (hb : IsRoot n b) : a = b := by
  obtain ⟨a0, a1, an, ap⟩ := ha
  obtain ⟨b0, b1, bn, bp⟩ := hb
  by_cases h : n < 0
  · rw [an h, bn h]
  · have h' : 0 ≤ n := by omega
    obtain ⟨p1, p2⟩ := ap h'
    obtain ⟨q1, q2⟩ := bp h'
    by_cases h1 : a < b
    · have := sq_mono (a := a + 1) (b := b) (by omega) (by omega); omega
    · by_cases h2 : b < a
      · have := sq_mono (a := b + 1) (b := a) (by omega) (by omega); omega
      · omega

theorem mid_bd (l h : Int) (h0 : 0 ≤ l) (hlt : l < h) (hh : h ≤ 3037000499) : 0 ≤ ((l + h + 1) / 2) * ((l + h + 1) / 2) ∧ ((l + h + 1) / 2) * ((l + h + 1) / 2) ≤ 9223372036854775807 := by
  have := sq_mono (a := (l + h + 1) / 2) (b := 3037000499) (by omega) (by omega)
  exact ⟨Int.mul_nonneg (by omega) (by omega), by omega⟩

set_option maxHeartbeats 400000 in
theorem specRoot_any (n : Int) (w : World) (hlo : -9223372036854775808 ≤ n) (hhi : n ≤ 9223372036854775807) :
    Calls Tryd.prog 33 #[.int .i64 n] w (RootPost n w) := by
  go_enter Tryd.func33, Tryd.ntmps33
  go_wp2
  go_loop [3, 4] (fun lo hi => ∃ l h : Int, 0 ≤ l ∧ l ≤ h ∧ h ≤ 3037000499 ∧ lo = .int .i64 l ∧ hi = .int .i64 h ∧ (l = 0 ∨ l * l ≤ n) ∧ n < (h + 1) * (h + 1))
    (fun lo hi => (intOf hi - intOf lo).toNat)
  case atStart => exact ⟨0, 3037000499, by omega, by omega, by omega, rfl, rfl, .inl rfl, by omega⟩
  case round =>
    obtain ⟨l, h, h0, hlh, hh, rfl, rfl, hl, hn⟩ := hrel
    have Hl := Lib.hid hl
    have Hn := Lib.hid hn
    clear hl hn
    by_cases hlt : l < h
    · obtain ⟨m0, m1⟩ := mid_bd l h h0 hlt hh
      by_cases hc : ((l + h + 1) / 2) * ((l + h + 1) / 2) ≤ n
      · go_wp2
        go_round
        case rel => exact ⟨(l + h + 1) / 2, h, by omega, by omega, by omega, rfl, rfl, .inr hc, Hn.out⟩
        case measure => simp [intOf]; omega
      · go_wp2
        go_round
        case rel => exact ⟨l, (l + h + 1) / 2 - 1, by omega, by omega, by omega, rfl, rfl, Hl.out, by rw [show (l + h + 1) / 2 - 1 + 1 = (l + h + 1) / 2 from by omega]; omega⟩
        case measure => simp [intOf]; omega
    · go_wp2
      go_ret
      obtain rfl : l = h := by omega
      refine ⟨l, ⟨by omega, by omega, fun hneg => ?_, fun hpos => ?_⟩, rfl, rfl⟩
      · rcases Hl.out with h1 | h1
        · exact h1
        · have := Int.mul_nonneg h0 h0; omega
      · rcases Hl.out with h1 | h1
        · subst h1; exact ⟨by omega, Hn.out⟩
        · exact ⟨h1, Hn.out⟩

end Go.Proofs.YtfleececlafjkaaDoor
