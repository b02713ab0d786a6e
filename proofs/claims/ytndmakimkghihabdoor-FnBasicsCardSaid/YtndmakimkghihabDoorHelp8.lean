/- The laws' own helpers on inputs: their length, a number below a bound that they choose, absolute values, two lists compared. -/
import Derived.Test.YtndmakimkghihabDoorDraw
import Derived.Test.YtndmakimkghihabDoorInts
namespace Go.Proofs.YtndmakimkghihabDoor
open Go.ChangeShapes Go.WideShapes Go.ChangeAt Go.RowKit

/-- An input's slice: bytes, if it is not longer than the laws look at. -/
def CodeIn (w : World) (v : Value) (n : Nat) : Prop := ∃ a c, v = .slice a n c ∧ (n ≤ 1048576 → BytesAt w w.heap.size v)

def tooLong (n n2 : Nat) : Bool := decide (1048576 < n ∨ 1048576 < n2)
theorem r8Long_any (a a2 : Option Addr) (n n2 c c2 : Nat) (w : World) :
    Calls Tryd.prog 15 #[.slice a n c, .slice a2 n2 c2] w fun e w' => e = .returned (.bool (tooLong n n2)) ∧ w = w' := by
  by_cases h1 : 1048576 < n
  · have H := Lib.hid (show tooLong n n2 = true by simp [tooLong, h1])
    have h1' : (1048576 : Int) < (n : Int) := by omega
    go_enter Tryd.func15, Tryd.ntmps15
    go_wp2
    go_ret
    exact ⟨ret_bool H.out.symm, rfl⟩
  · by_cases h2 : 1048576 < n2
    · have H := Lib.hid (show tooLong n n2 = true by simp [tooLong, h2])
      have h1' : ¬ (1048576 : Int) < (n : Int) := by omega
      have h2' : (1048576 : Int) < (n2 : Int) := by omega
      go_enter Tryd.func15, Tryd.ntmps15
      go_wp2
      go_ret
      exact ⟨ret_bool H.out.symm, rfl⟩
    · have H := Lib.hid (show tooLong n n2 = false by simp [tooLong, h1, h2])
      have h1' : ¬ (1048576 : Int) < (n : Int) := by omega
      have h2' : ¬ (1048576 : Int) < (n2 : Int) := by omega
      go_enter Tryd.func15, Tryd.ntmps15
      go_wp2
      go_ret
      exact ⟨ret_bool H.out.symm, rfl⟩

def absV (n : Int) : Int := if n < 0 then -n else n
theorem r8Abs_any (n : Int) (w : World) (hlo : -9223372036854775807 ≤ n) (hhi : n ≤ 9223372036854775807) :
    Calls Tryd.prog 19 #[.int .i64 n] w fun e w' => e = .returned (.int .i64 (absV n)) ∧ w = w' := by
  by_cases h : n < -n
  · have H := Lib.hid (show absV n = -n by unfold absV; rw [if_pos (by omega)])
    go_enter Tryd.func19, Tryd.ntmps19
    go_wp2
    go_ret
    exact ⟨ret_i64 H.out.symm, rfl⟩
  · have H := Lib.hid (show absV n = n by unfold absV; rw [if_neg (by omega)])
    go_enter Tryd.func19, Tryd.ntmps19
    go_wp2
    go_ret
    exact ⟨ret_i64 H.out.symm, rfl⟩

def AtPost (n : Int) (w : World) (e : Ending) (w' : World) : Prop := ∃ r : Int, 0 ≤ r ∧ r ≤ max 0 (n - 1) ∧ e = .returned (.int .i64 r) ∧ w = w'
theorem rem8_bd (r n : Int) (hn : 1 < n) : 0 ≤ r % n ∧ r % n ≤ max 0 (n - 1) := by
  have := Int.emod_nonneg r (show n ≠ 0 by omega)
  have := Int.emod_lt_of_pos r (show 0 < n by omega)
  omega
set_option maxHeartbeats 1000000 in
theorem r8At_any (v : Value) (k n : Int) (w : World) (hb : BytesAt w w.heap.size v) (hk : 0 ≤ k) (hk1 : k ≤ 9223372036854775807) (hlo : -9223372036854775808 ≤ n) (hhi : n ≤ 9223372036854775807) :
    Calls Tryd.prog 58 #[v, .int .i64 k, .int .i64 n] w (AtPost n w) := by
  obtain ⟨q, rfl⟩ := Int.eq_ofNat_of_zero_le hk
  by_cases h1 : n ≤ 1
  · have HV := Lib.hid hb
    clear hb
    go_enter Tryd.func58, Tryd.ntmps58
    go_wp2
    go_ret
    exact ⟨0, by omega, by omega, rfl, rfl⟩
  · rcases hb with ⟨a, c, rfl⟩ | ⟨b, off, len, cap, rfl, hn0, hn1, hlt, hb⟩
    · go_enter Tryd.func58, Tryd.ntmps58
      go_wp2
      go_ret
      exact ⟨0, by omega, by omega, rfl, rfl⟩
    · by_cases hq : q < len
      · obtain ⟨x, x0, x1, hx⟩ := hb q hq
        have hqz : (q : Int) < (len : Int) := by omega
        have HR := Lib.hid (rem8_bd x n (by omega))
        clear hb
        go_enter Tryd.func58, Tryd.ntmps58
        go_wp2
        go_ret
        exact ⟨_, HR.out.1, HR.out.2, rfl, rfl⟩
      · have hqz : ¬ (q : Int) < (len : Int) := by omega
        clear hb
        go_enter Tryd.func58, Tryd.ntmps58
        go_wp2
        go_ret
        exact ⟨0, by omega, by omega, rfl, rfl⟩

theorem r8Wide_any (v : Value) (k n : Int) (w : World) (hb : BytesAt w w.heap.size v) (hk : 0 ≤ k) (hk1 : k ≤ 4611686018427387904) (hlo : 1 < n) (hhi : n ≤ 9223372036854775807) :
    Calls Tryd.prog 20 #[v, .int .i64 k, .int .i64 n] w (AtPost n w) := by
  have HB := Lib.hid hb
  clear hb
  go_enter Tryd.func20, Tryd.ntmps20
  go_wp2_with fail
  refine (r8At_any v k 256 _ HB.out hk (by omega) (by omega) (by omega)).mono ?_
  rintro e w1 ⟨x, x0, x1, rfl, rfl⟩
  have x2 : x ≤ 255 := by omega
  clear x1
  go_wp2_with fail
  refine (r8At_any v (k + 1) 256 _ HB.out (by omega) (by omega) (by omega) (by omega)).mono ?_
  rintro e w2 ⟨y, y0, y1, rfl, rfl⟩
  have y2 : y ≤ 255 := by omega
  clear y1
  have HR := Lib.hid (rem8_bd (256 * x + y) n hlo)
  go_wp2
  go_ret
  exact ⟨_, HR.out.1, HR.out.2, rfl, rfl⟩

theorem r8Same_some (zs : List Int) (b o c b2 o2 c2 : Nat) (w : World) (n : Nat) (hn1 : n ≤ 1048576)
    (h1 : ∀ j, j < n → w.cell? ⟨b, o + j, none⟩ = some (.int .i64 (zs.getD j 0))) (h2 : ∀ j, j < n → w.cell? ⟨b2, o2 + j, none⟩ = some (.int .i64 (zs.getD j 0))) :
    Calls Tryd.prog 25 #[.slice (some ⟨b, o, none⟩) n c, .slice (some ⟨b2, o2, none⟩) n c2] w fun e w' => e = .returned (.bool true) ∧ Below w.heap.size w w' := by
  have H1 := Lib.hid h1
  have H2 := Lib.hid h2
  clear h1 h2
  have hne : ((n : Int) != n) = false := by simp
  go_enter Tryd.func25, Tryd.ntmps25
  go_wp2
  go_loopw [5] (fun i wr => ∃ k m : Nat, k ≤ n ∧ i = .int .i64 k ∧ wr = w.drewN m) (fun i _ => n - (intOf i).toNat)
  case atStart => exact ⟨0, 0, by omega, rfl, rfl⟩
  case round =>
    obtain ⟨k, m, hk, rfl, rfl⟩ := hrel
    by_cases hlt : k < n
    · have hc1 := H1.out k hlt
      have hc2 := H2.out k hlt
      generalize zs.getD k 0 = z at *
      have hz : (z != z) = false := by simp
      have hlt1 : (k : Int) < (n : Int) := by omega
      go_wp2
      go_quiet (fail)
      go_wp2
      go_roundw
      case rel => exact ⟨k + 1, _, by omega, by go_num, rfl⟩
      case measure => simp [intOf]; omega
    · go_wp2
      go_ret
      exact ⟨rfl, below_drewN _ _⟩
end Go.Proofs.YtndmakimkghihabDoor
