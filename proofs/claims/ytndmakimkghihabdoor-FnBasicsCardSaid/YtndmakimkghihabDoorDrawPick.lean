/- A number below n that the source picks; a source made from bytes. -/
import Derived.Test.YtndmakimkghihabDoorDrawNext
namespace Go.Proofs.YtndmakimkghihabDoor
open Go.ChangeShapes Go.WideShapes Go.ChangeAt Go.RowKit

theorem rem_bd (r n : Int) (hn : 1 < n) : 0 ≤ r % n ∧ r % n ≤ max 0 (n - 1) := by
  have := Int.emod_nonneg r (show n ≠ 0 by omega)
  have := Int.emod_lt_of_pos r (show 0 < n by omega)
  omega

set_option maxHeartbeats 1000000 in
theorem pick_any (n : Int) (w : World) (g k : Nat) (h : SrcAt w g k) (hk : k ≤ 4611686018427387000) (hlo : -9223372036854775808 ≤ n) (hhi : n ≤ 9223372036854775807) :
    Calls Tryd.prog 54 #[.pointer (some ⟨g, 0, none⟩), .int .i64 n] w (DrawPost g (k + 2) (max 0 (n - 1)) w) := by
  have HS := Lib.hid h
  clear h
  by_cases h1 : n ≤ 1
  · go_enter Tryd.func54, Tryd.ntmps54
    go_wp2
    go_ret
    exact ⟨0, by omega, by omega, rfl, src_more HS.out (by omega), World.grownBy.refl _ _⟩
  · by_cases h2 : n ≤ 200
    · go_enter Tryd.func54, Tryd.ntmps54
      go_wp2_with fail
      refine (next_any _ g k HS.out (by omega)).mono ?_
      rintro e w1 ⟨r, r0, r1, rfl, hs, hg⟩
      have HT := Lib.hid hs
      have HG := Lib.hid hg
      clear hs hg
      have HR := Lib.hid (rem_bd r n (by omega))
      go_wp2
      go_ret
      exact ⟨_, HR.out.1, HR.out.2, rfl, src_more HT.out (by omega), HG.out⟩
    · go_enter Tryd.func54, Tryd.ntmps54
      go_wp2_with fail
      refine (next_any _ g k HS.out (by omega)).mono ?_
      rintro e w1 ⟨r, r0, r1, rfl, hs, hg⟩
      have HT := Lib.hid hs
      have HG := Lib.hid hg
      clear hs hg
      go_wp2_with fail
      refine (next_any _ g (k + 1) HT.out (by omega)).mono ?_
      rintro e w2 ⟨q, q0, q1, rfl, hs, hg⟩
      have HT2 := Lib.hid hs
      have HG2 := Lib.hid (grown_trans HG.out hg)
      clear hs hg
      have HR := Lib.hid (rem_bd (r * 256 + q) n (by omega))
      go_wp2
      go_ret
      exact ⟨_, HR.out.1, HR.out.2, rfl, src_more HT2.out (by omega), HG2.out⟩

theorem src_made (w : World) (v : Value) (T : TypeId) (h : BytesAt w w.heap.size v) : SrcAt (w.alloc (.cells #[v, .int .i64 0, .int .u64 0] T)) w.heap.size 0 := by
  have hb : Below w.heap.size w (w.alloc (.cells #[v, .int .i64 0, .int .u64 0] T)) := (Below.refl _ _).alloc (Nat.le_refl _) _
  refine ⟨v, 0, 0, bytes_below hb h (Nat.le_refl _), by omega, by omega, ?_, ?_, ?_, ?_, ?_⟩
  all_goals go_simp
def FromPost (w : World) (e : Ending) (w' : World) : Prop := ∃ g, e = .returned (.pointer (some ⟨g, 0, none⟩)) ∧ SrcAt w' g 0 ∧ w.heap.size ≤ g ∧ Below w.heap.size w w'
theorem from_any (v : Value) (w : World) (h : BytesAt w w.heap.size v) :
    Calls Tryd.prog 53 #[v] w (FromPost w) := by
  have hs := Lib.hid (src_made w v 119 h)
  rcases h with ⟨a, c, rfl⟩ | ⟨b, off, n, cap, rfl, hn0, hn1, hlt, hb⟩
  · go_enter Tryd.func53, Tryd.ntmps53
    go_wp2
    go_ret
    exact ⟨_, rfl, hs.out, Nat.le_refl _, (Below.refl _ _).alloc (Nat.le_refl _) _⟩
  · clear hb
    go_enter Tryd.func53, Tryd.ntmps53
    go_wp2
    go_ret
    exact ⟨_, rfl, hs.out, Nat.le_refl _, (Below.refl _ _).alloc (Nat.le_refl _) _⟩
end Go.Proofs.YtndmakimkghihabDoor
