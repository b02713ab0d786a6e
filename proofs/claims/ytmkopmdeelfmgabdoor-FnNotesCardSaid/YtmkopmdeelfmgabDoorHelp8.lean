/- The laws' own helpers on inputs: their length, a number below a bound that they choose, absolute values, two lists compared. -/
import Derived.Test.YtmkopmdeelfmgabDoorDraw
import Derived.Test.YtmkopmdeelfmgabDoorInts
namespace Go.Proofs.YtmkopmdeelfmgabDoor
open Go.ChangeShapes Go.WideShapes Go.ChangeAt Go.RowKit

/-- An input's slice: bytes, if it is not longer than the laws look at. -/
def CodeIn (w : World) (v : Value) (n : Nat) : Prop := ∃ a c, v = .slice a n c ∧ (n ≤ 1048576 → BytesAt w w.heap.size v)

def tooLong (n n2 : Nat) : Bool := decide (1048576 < n ∨ 1048576 < n2)
theorem r8Long_any (a a2 : Option Addr) (n n2 c c2 : Nat) (w : World) :
    Calls Tryd.prog 16 #[.slice a n c, .slice a2 n2 c2] w fun e w' => e = .returned (.bool (tooLong n n2)) ∧ w = w' := by
  by_cases h1 : 1048576 < n
  · have H := Lib.hid (show tooLong n n2 = true by simp [tooLong, h1])
    have h1' : (1048576 : Int) < (n : Int) := by omega
    go_enter Tryd.func16, Tryd.ntmps16
    go_wp2
    go_ret
    exact ⟨ret_bool H.out.symm, rfl⟩
  · by_cases h2 : 1048576 < n2
    · have H := Lib.hid (show tooLong n n2 = true by simp [tooLong, h2])
      have h1' : ¬ (1048576 : Int) < (n : Int) := by omega
      have h2' : (1048576 : Int) < (n2 : Int) := by omega
      go_enter Tryd.func16, Tryd.ntmps16
      go_wp2
      go_ret
      exact ⟨ret_bool H.out.symm, rfl⟩
    · have H := Lib.hid (show tooLong n n2 = false by simp [tooLong, h1, h2])
      have h1' : ¬ (1048576 : Int) < (n : Int) := by omega
      have h2' : ¬ (1048576 : Int) < (n2 : Int) := by omega
      go_enter Tryd.func16, Tryd.ntmps16
      go_wp2
      go_ret
      exact ⟨ret_bool H.out.symm, rfl⟩

def absV (n : Int) : Int := if n < 0 then -n else n

def AtPost (n : Int) (w : World) (e : Ending) (w' : World) : Prop := ∃ r : Int, 0 ≤ r ∧ r ≤ max 0 (n - 1) ∧ e = .returned (.int .i64 r) ∧ w = w'
theorem rem8_bd (r n : Int) (hn : 1 < n) : 0 ≤ r % n ∧ r % n ≤ max 0 (n - 1) := by
  have := Int.emod_nonneg r (show n ≠ 0 by omega)
  have := Int.emod_lt_of_pos r (show 0 < n by omega)
  omega
set_option maxHeartbeats 1000000 in
theorem r8At_any (v : Value) (k n : Int) (w : World) (hb : BytesAt w w.heap.size v) (hk : 0 ≤ k) (hk1 : k ≤ 9223372036854775807) (hlo : -9223372036854775808 ≤ n) (hhi : n ≤ 9223372036854775807) :
    Calls Tryd.prog 18 #[v, .int .i64 k, .int .i64 n] w (AtPost n w) := by
  obtain ⟨q, rfl⟩ := Int.eq_ofNat_of_zero_le hk
  by_cases h1 : n ≤ 1
  · have HV := Lib.hid hb
    clear hb
    go_enter Tryd.func18, Tryd.ntmps18
    go_wp2
    go_ret
    exact ⟨0, by omega, by omega, rfl, rfl⟩
  · rcases hb with ⟨a, c, rfl⟩ | ⟨b, off, len, cap, rfl, hn0, hn1, hlt, hb⟩
    · go_enter Tryd.func18, Tryd.ntmps18
      go_wp2
      go_ret
      exact ⟨0, by omega, by omega, rfl, rfl⟩
    · by_cases hq : q < len
      · obtain ⟨x, x0, x1, hx⟩ := hb q hq
        have hqz : (q : Int) < (len : Int) := by omega
        have HR := Lib.hid (rem8_bd x n (by omega))
        clear hb
        go_enter Tryd.func18, Tryd.ntmps18
        go_wp2
        go_ret
        exact ⟨_, HR.out.1, HR.out.2, rfl, rfl⟩
      · have hqz : ¬ (q : Int) < (len : Int) := by omega
        clear hb
        go_enter Tryd.func18, Tryd.ntmps18
        go_wp2
        go_ret
        exact ⟨0, by omega, by omega, rfl, rfl⟩


end Go.Proofs.YtmkopmdeelfmgabDoor
