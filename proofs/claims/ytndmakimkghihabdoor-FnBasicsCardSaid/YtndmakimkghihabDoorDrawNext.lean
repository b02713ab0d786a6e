/- One draw of the reference model's source: a number from 0 to 255. -/
import Derived.Test.YtndmakimkghihabDoorDraw
namespace Go.Proofs.YtndmakimkghihabDoor
open Go.ChangeShapes Go.WideShapes Go.ChangeAt Go.RowKit

def DrawPost (g k : Nat) (lim : Int) (w : World) (e : Ending) (w' : World) : Prop := ∃ r : Int, 0 ≤ r ∧ r ≤ lim ∧ e = .returned (.int .i64 r) ∧ SrcAt w' g k ∧ w.grownBy w' (some g)

theorem low_byte (x : Int) : 0 ≤ wrap64 (bits BinOp.and .u64 x 255) ∧ wrap64 (bits BinOp.and .u64 x 255) ≤ 255 := by
  have h := and255 x
  generalize bits BinOp.and .u64 x 255 = y at *
  unfold wrap64
  omega
theorem draw_of {w : World} {g k : Nat} {v : Value} {p s : Int} (h : SrcIs w g k v p s) (a b : Nat) (r s' : Int) (h0 : 0 ≤ r) (h1 : r ≤ 255) :
    DrawPost g (k + 1) 255 w (.returned (.int .i64 r)) ((((w.drewN a).setCell ⟨g, 1, none⟩ (.int .i64 (p + 1))).setCell ⟨g, 2, none⟩ (.int .u64 s')).drewN b) := by
  have h' : SrcIs (w.drewN a) g k v p s := ⟨h.bytes, h.low, h.high, h.code, h.pos, h.seed, h.free1, h.free2⟩
  have hl := h.low
  have hh := h.high
  obtain ⟨⟨v', p', s', e⟩, hg⟩ := src_step (k' := k + 1) (s' := s') h' (show 0 ≤ p + 1 by omega) (by omega)
  exact ⟨r, h0, h1, rfl, ⟨v', p', s', e.bytes, e.low, e.high, e.code, e.pos, e.seed, e.free1, e.free2⟩, ⟨hg.os, hg.tape, hg.output, hg.size, hg.block⟩⟩

set_option maxHeartbeats 1000000 in
theorem next_any (w : World) (g k : Nat) (h : SrcAt w g k) (hk : k ≤ 4611686018427387904) :
    Calls Tryd.prog 93 #[.pointer (some ⟨g, 0, none⟩)] w (DrawPost g (k + 1) 255 w) := by
  obtain ⟨v, p, s, H⟩ := h
  have HH := Lib.hid H
  have hc1 := H.pos
  have hc2 := H.seed
  have hc0 := H.code
  have hf1 := H.free1
  have hf2 := H.free2
  obtain ⟨q, rfl⟩ := Int.eq_ofNat_of_zero_le H.low
  have hq : q ≤ 4611686018427387904 := by have := H.high; omega
  rcases H.bytes with ⟨a, c, rfl⟩ | ⟨b, off, n, cap, rfl, hn0, hn1, hlt, hb⟩
  · clear H
    go_enter Tryd.func93, Tryd.ntmps93
    go_wp2
    go_quiet (fail)
    go_wp2
    go_quiet (fail)
    go_wp2
    go_ret
    exact draw_of HH.out _ _ _ _ (low_byte _).1 (low_byte _).2
  · clear H
    by_cases hp : q < n
    · obtain ⟨x, x0, x1, hx⟩ := hb q hp
      clear hb
      have hpz : (q : Int) < (n : Int) := by omega
      go_enter Tryd.func93, Tryd.ntmps93
      go_wp2
      go_quiet (fail)
      go_wp2
      go_quiet (fail)
      go_wp2
      go_quiet (fail)
      go_wp2
      go_ret
      exact draw_of HH.out _ _ _ _ x0 x1
    · have hpz : ¬ (q : Int) < (n : Int) := by omega
      clear hb
      go_enter Tryd.func93, Tryd.ntmps93
      go_wp2
      go_quiet (fail)
      go_wp2
      go_quiet (fail)
      go_wp2
      go_ret
      exact draw_of HH.out _ _ _ _ (low_byte _).1 (low_byte _).2
end Go.Proofs.YtndmakimkghihabDoor
