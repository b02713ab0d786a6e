/- Rings: the reference model's validity, and whether two lie on each other. -/
import Derived.Test.YtpjopfhkgegahaaRing
import Derived.Deep.QuietTactic
import Derived.BigQuiet
import Derived.Deep.RegionWith
namespace Go.Proofs.Ytpjopfhkgegahaa
open Go.ChangeShapes Go.WideShapes Go.ChangeAt Go.RowKit

/-- Block b holds the ring r from o on. -/
structure RingIn (w : World) (b o : Nat) (r : Rg) : Prop where
  c0 : w.cell? ⟨b, o, none⟩ = some (.int .i64 r.1)
  c1 : w.cell? ⟨b, o + 1, none⟩ = some (.int .i64 r.2.1)
  c2 : w.cell? ⟨b, o + 2, none⟩ = some (.int .i64 r.2.2)
theorem ring_no1 {x y z : Int} (h : inB x 500 150000 = false) : ringB (x, y, z) = false := by unfold ringB; rw [h]; rfl
theorem ring_mid {x y z : Int} (h : inB x 500 150000 = true) : ringB (x, y, z) = (inB y 0 (x - 100) && inB z 10 300000) := by unfold ringB; rw [h]; rfl
set_option maxHeartbeats 1000000 in
theorem l05Ring_any (x y z : Int) (b o : Nat) (w : World) (h : RingIn w b o (x, y, z)) :
    Calls Try.prog 53 #[.pointer (some ⟨b, o, none⟩)] w fun e w' => e = .returned (.bool (ringB (x, y, z))) ∧ ∃ n, w' = w.drewN n := by
  have c0 : w.cell? ⟨b, o, none⟩ = some (.int .i64 x) := h.c0
  have c1 : w.cell? ⟨b, o + 1, none⟩ = some (.int .i64 y) := h.c1
  have c2 : w.cell? ⟨b, o + 2, none⟩ = some (.int .i64 z) := h.c2
  clear h
  rcases Bool.eq_false_or_eq_true (inB x 500 150000) with h1 | h1
  · obtain ⟨x0, x1⟩ := inB_iff.1 h1
    have HR := Lib.hid (ring_mid (y := y) (z := z) h1)
    have hw : IntKind.i64.wrap (x - 100) = x - 100 := IntWalk.i64_in _ (by omega)
    rcases Bool.eq_false_or_eq_true (inB y 0 (x - 100)) with h2 | h2
    · obtain ⟨c, h3⟩ : ∃ c, inB z 10 300000 = c := ⟨_, rfl⟩
      have HR2 := Lib.hid (show ringB (x, y, z) = c by rw [HR.out, h2, h3]; rfl)
      go_enter Try.func53, Try.ntmps53
      go_wp2
      go_quiet (first | (go_at_call_of 31 (Value.int .i64 x); exact Calls.quiet_of_same ((l00In_any x 500 150000 _).mono (fun _ _ h => ⟨by rw [h.1, h1], h.2.symm⟩))) | (go_at_call_of 31 (Value.int .i64 y); exact Calls.quiet_of_same ((l00In_any y 0 (x - 100) _).mono (fun _ _ h => ⟨by rw [h.1, h2], h.2.symm⟩))) | (go_at_call_of 31 (Value.int .i64 z); exact Calls.quiet_of_same ((l00In_any z 10 300000 _).mono (fun _ _ h => ⟨by rw [h.1, h3], h.2.symm⟩))))
      go_wp2
      go_ret
      exact ⟨ret_bool HR2.out.symm, _, rfl⟩
    · have HR2 := Lib.hid (show ringB (x, y, z) = false by rw [HR.out, h2]; rfl)
      go_enter Try.func53, Try.ntmps53
      go_wp2
      go_quiet (first | (go_at_call_of 31 (Value.int .i64 x); exact Calls.quiet_of_same ((l00In_any x 500 150000 _).mono (fun _ _ h => ⟨by rw [h.1, h1], h.2.symm⟩))) | (go_at_call_of 31 (Value.int .i64 y); exact Calls.quiet_of_same ((l00In_any y 0 (x - 100) _).mono (fun _ _ h => ⟨by rw [h.1, h2], h.2.symm⟩))))
      go_wp2
      go_ret
      exact ⟨ret_bool HR2.out.symm, _, rfl⟩
  · have HR := Lib.hid (ring_no1 (y := y) (z := z) h1)
    go_enter Try.func53, Try.ntmps53
    go_wp2
    go_quiet (first | (go_at_call_of 31 (Value.int .i64 x); exact Calls.quiet_of_same ((l00In_any x 500 150000 _).mono (fun _ _ h => ⟨by rw [h.1, h1], h.2.symm⟩))))
    go_wp2
    go_ret
    exact ⟨ret_bool HR.out.symm, _, rfl⟩
set_option maxHeartbeats 400000 in
theorem l05Joined_any (x y z x2 y2 z2 : Int) (b o b2 o2 : Nat) (w : World) (h : RingIn w b o (x, y, z)) (h2 : RingIn w b2 o2 (x2, y2, z2)) :
    Calls Try.prog 54 #[.pointer (some ⟨b, o, none⟩), .pointer (some ⟨b2, o2, none⟩)] w fun e w' => e = .returned (.bool (joinB (x, y, z) (x2, y2, z2))) ∧ ∃ n, w' = w.drewN n := by
  obtain ⟨c0, c1, c2⟩ := h
  obtain ⟨d0, d1, d2⟩ := h2
  have HJ := Lib.hid (show joinB (x, y, z) (x2, y2, z2) = (decide (y < x2) && decide (y2 < x)) from rfl)
  rcases Bool.eq_false_or_eq_true (decide (y < x2)) with h1 | h1
  · go_enter Try.func54, Try.ntmps54
    go_wp2
    go_quiet (fail)
    go_wp2
    go_ret
    exact ⟨ret_bool (by rw [HJ.out, h1]; rfl), _, rfl⟩
  · go_enter Try.func54, Try.ntmps54
    go_wp2
    go_quiet (fail)
    go_wp2
    go_ret
    exact ⟨ret_bool (by rw [HJ.out, h1]; rfl), _, rfl⟩

/-- Block p holds a profile: its name, and where its rings lie. -/
structure ProfIn (w : World) (p : Nat) (s : ByteArray) (v : Value) : Prop where
  c0 : w.cell? ⟨p, 0, none⟩ = some (.string s)
  c1 : w.cell? ⟨p, 1, none⟩ = some v
theorem ring_in {w : World} {b off : Nat} {rs : List Rg} (hc : ∀ j, j < rs.length * 3 → w.cell? ⟨b, off + j, none⟩ = some (.int .i64 ((flat rs).getD j 0))) (i : Nat) (hi : i < rs.length) : RingIn w b (off + i * 3) (rs.getD i zR) := by
  obtain ⟨h0, h1, h2⟩ := flat_get rs i hi
  refine ⟨?_, ?_, ?_⟩
  · rw [hc (i * 3) (by omega), List.getD_eq_getElem?_getD, h0]; rfl
  · rw [Nat.add_assoc, hc (i * 3 + 1) (by omega), List.getD_eq_getElem?_getD, h1]; rfl
  · rw [Nat.add_assoc, hc (i * 3 + 2) (by omega), List.getD_eq_getElem?_getD, h2]; rfl
set_option maxHeartbeats 1000000 in
theorem l05Height_some (p b off cap n : Nat) (s : ByteArray) (rs : List Rg) (w : World) (hn : rs.length = n) (hn1 : n ≤ 32) (hp : ProfIn w p s (.slice (some ⟨b, off, none⟩) n cap)) (hc : ∀ i, i < n → RingIn w b (off + i * 3) (rs.getD i zR)) (hR : ∀ i, i < rs.length → ringB (rs.getD i zR) = true) :
    Calls Try.prog 55 #[.pointer (some ⟨p, 0, none⟩)] w fun e w' => e = .returned (.int .i64 (heights rs)) ∧ w = w' := by
  obtain ⟨p0, p1⟩ := hp
  have HC := Lib.hid hc
  have HBD := Lib.hid (heights_bd hR)
  have HNX := Lib.hid (heights_next rs)
  have HN := Lib.hid hn
  clear hc hR hn
  go_enter Try.func55, Try.ntmps55
  go_wp2
  go_loop [3, 4] (fun a i => ∃ k : Nat, k ≤ n ∧ i = .int .i64 k ∧ a = .int .i64 (heights (rs.take k))) (fun _ i => n - (intOf i).toNat)
  case atStart => exact ⟨0, by omega, rfl, rfl⟩
  case round =>
    obtain ⟨k, hk, rfl, rfl⟩ := hrel
    by_cases hlt : k < n
    · obtain ⟨-, -, c2⟩ := HC.out k hlt
      have b1 := HBD.out k (by have := HN.out; omega)
      have b2 := HBD.out (k + 1) (by have := HN.out; omega)
      have hx := HNX.out k (by have := HN.out; omega)
      rw [hx] at b2
      have HX := Lib.hid hx
      clear hx
      generalize (rs.getD k zR).2.2 = x at *
      generalize heights (rs.take k) = y at *
      have hw : IntKind.i64.wrap (y + x) = y + x := IntWalk.i64_in _ (by omega)
      have hk1 : (k : Int) < (n : Int) := by omega
      have hk0 : (0 : Int) ≤ (k : Int) := by omega
      clear b1 b2
      go_wp2
      go_round
      case rel => exact ⟨k + 1, by omega, by go_num, by rw [HX.out]⟩
      case measure => simp [intOf]; omega
    · obtain rfl : k = n := by omega
      have he : heights (rs.take k) = heights rs := by rw [List.take_of_length_le (by have := HN.out; omega)]
      obtain ⟨y, hy⟩ : ∃ y, heights rs = y := ⟨_, rfl⟩
      have HY := Lib.hid hy
      rw [he, hy]
      clear hy he
      go_wp2
      go_ret
      exact ⟨ret_i64 HY.out.symm, rfl⟩
end Go.Proofs.Ytpjopfhkgegahaa
