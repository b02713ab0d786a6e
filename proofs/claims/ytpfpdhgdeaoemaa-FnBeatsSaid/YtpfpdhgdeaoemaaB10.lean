/- The laws' helpers of the older kind: is an input too long; an absolute value. -/
import Derived.Test.YtpfpdhgdeaoemaaBase
namespace Go.Proofs.Ytpfpdhgdeaoemaa
open Go.ChangeShapes Go.WideShapes Go.ChangeAt Go.RowKit

def longB (n : Nat) : Bool := decide (1048576 < n)
theorem b10Long_any (a : Option Addr) (n c : Nat) (w : World) :
    Calls Try.prog 12 #[.slice a n c] w fun e w' => e = .returned (.bool (longB n)) ∧ w = w' := by
  by_cases h1 : 1048576 < n
  · have H := Lib.hid (show longB n = true by simp [longB, h1])
    have h1' : (1048576 : Int) < (n : Int) := by omega
    go_enter Try.func12, Try.ntmps12
    go_wp2
    go_ret
    exact ⟨ret_bool H.out.symm, rfl⟩
  · have H := Lib.hid (show longB n = false by simp [longB, h1])
    have h1' : ¬ (1048576 : Int) < (n : Int) := by omega
    go_enter Try.func12, Try.ntmps12
    go_wp2
    go_ret
    exact ⟨ret_bool H.out.symm, rfl⟩
def absB (n : Int) : Int := if n < 0 then -n else n
theorem b10Abs_any (n : Int) (w : World) (hlo : -9223372036854775807 ≤ n) (hhi : n ≤ 9223372036854775807) :
    Calls Try.prog 17 #[.int .i64 n] w fun e w' => e = .returned (.int .i64 (absB n)) ∧ w = w' := by
  by_cases h : n < 0
  · have H := Lib.hid (show absB n = -n by unfold absB; rw [if_pos h])
    go_enter Try.func17, Try.ntmps17
    go_wp2
    go_ret
    exact ⟨ret_i64 H.out.symm, rfl⟩
  · have H := Lib.hid (show absB n = n by unfold absB; rw [if_neg h])
    go_enter Try.func17, Try.ntmps17
    go_wp2
    go_ret
    exact ⟨ret_i64 H.out.symm, rfl⟩
end Go.Proofs.Ytpfpdhgdeaoemaa
