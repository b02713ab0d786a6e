/- An argument of type []byte, and numbers that it chooses: as BytesArg and Help8, for a seat without the model's draws. -/
import Derived.Test.YtfleececlafjkaaInts
import Derived.Laws.BitsAllLaws
import Derived.OwnWalk
namespace Go.Proofs.Ytfleececlafjkaa
open Go.ChangeShapes Go.WideShapes Go.ChangeAt Go.RowKit

/-- The slice v reads as bytes, in a block below B. -/
def BytesAt (w : World) (B : Nat) (v : Value) : Prop :=
  (∃ a c, v = .slice a 0 c) ∨ ∃ b off n cap : Nat, v = .slice (some ⟨b, off, none⟩) n cap ∧ 0 < n ∧ n ≤ 1048576 ∧ b < B ∧ ∀ j, j < n → ∃ x : Int, 0 ≤ x ∧ x ≤ 255 ∧ w.cell? ⟨b, off + j, none⟩ = some (.int .u8 x)
def AtPost (n : Int) (w : World) (e : Ending) (w' : World) : Prop := ∃ r : Int, 0 ≤ r ∧ r ≤ max 0 (n - 1) ∧ e = .returned (.int .i64 r) ∧ w = w'
theorem rem8_bd (r n : Int) (hn : 1 < n) : 0 ≤ r % n ∧ r % n ≤ max 0 (n - 1) := by
  have := Int.emod_nonneg r (show n ≠ 0 by omega)
  have := Int.emod_lt_of_pos r (show 0 < n by omega)
  omega
set_option maxHeartbeats 1000000 in
theorem r8At_any (v : Value) (k n : Int) (w : World) (hb : BytesAt w w.heap.size v) (hk : 0 ≤ k) (hk1 : k ≤ 9223372036854775807) (hlo : -9223372036854775808 ≤ n) (hhi : n ≤ 9223372036854775807) :
    Calls Try.prog 40 #[v, .int .i64 k, .int .i64 n] w (AtPost n w) := by
  obtain ⟨q, rfl⟩ := Int.eq_ofNat_of_zero_le hk
  by_cases h1 : n ≤ 1
  · have HV := Lib.hid hb
    clear hb
    go_enter Try.func40, Try.ntmps40
    go_wp2
    go_ret
    exact ⟨0, by omega, by omega, rfl, rfl⟩
  · rcases hb with ⟨a, c, rfl⟩ | ⟨b, off, len, cap, rfl, hn0, hn1, hlt, hb⟩
    · go_enter Try.func40, Try.ntmps40
      go_wp2
      go_ret
      exact ⟨0, by omega, by omega, rfl, rfl⟩
    · by_cases hq : q < len
      · obtain ⟨x, x0, x1, hx⟩ := hb q hq
        have hqz : (q : Int) < (len : Int) := by omega
        have HR := Lib.hid (rem8_bd x n (by omega))
        clear hb
        go_enter Try.func40, Try.ntmps40
        go_wp2
        go_ret
        exact ⟨_, HR.out.1, HR.out.2, rfl, rfl⟩
      · have hqz : ¬ (q : Int) < (len : Int) := by omega
        clear hb
        go_enter Try.func40, Try.ntmps40
        go_wp2
        go_ret
        exact ⟨0, by omega, by omega, rfl, rfl⟩

theorem r8Wide_any (v : Value) (k n : Int) (w : World) (hb : BytesAt w w.heap.size v) (hk : 0 ≤ k) (hk1 : k ≤ 4611686018427387904) (hlo : 1 < n) (hhi : n ≤ 9223372036854775807) :
    Calls Try.prog 39 #[v, .int .i64 k, .int .i64 n] w (AtPost n w) := by
  have HB := Lib.hid hb
  clear hb
  go_enter Try.func39, Try.ntmps39
  go_wp2_with fail
  refine (r8At_any v k 256 _ HB.out hk (by omega) (by omega) (by omega)).mono ?_
  rintro e w1 ⟨x, x0, x1, rfl, rfl⟩
  have x2 : x ≤ 255 := by omega
  clear x1
  go_wp2_with fail
  refine (r8At_any v (k + 1) 256 _ HB.out (by omega) (by omega) (by omega) (by omega)).mono ?_
  rintro e w2 ⟨y, y0, y1, rfl, rfl⟩
  have y2 : y ≤ 255 := by omega
  clear y1
  have HR := Lib.hid (rem8_bd (256 * x + y) n hlo)
  go_wp2
  go_ret
  exact ⟨_, HR.out.1, HR.out.2, rfl, rfl⟩

theorem wf_byte {n : Int} (h : (Lit.int .u8 n).wf = true) : 0 ≤ n ∧ n ≤ 255 := by
  have e : IntKind.u8.signed = false ∧ IntKind.u8.bits = 8 := ⟨rfl, rfl⟩
  simp only [Lit.wf, IntKind.min, IntKind.max, e.1, e.2, Bool.and_eq_true, decide_eq_true_eq] at h
  simp at h
  omega
section
variable {H : Type} {enc : TypeId × Value → H}
theorem bytes_arg {W : World} {fuel : Nat} {a : Option Addr} {len cap : Nat} {d : DataW H} {p : List MemPlace} (hf : DataW.trod enc Try.prog W 0 (fun _ => true) true fuel 57 (Value.slice a len cap).cells.toList = some (d, p))
    (hlt : ∀ x ∈ p, x.block < W.heap.size) : len ≤ 9223372036854775807 ∧ (len ≤ 1048576 → BytesAt W W.heap.size (.slice a len cap)) := by
  have hc : Try.prog.cellsOf 5 = 1 := by kernel_rfl
  rcases open_ints Try.underlying57 Try.underlying5 hc hf with ⟨hcs, hx⟩ | ⟨a', len', cap', zs, hcs, _, hl, hm, hz, hx, hcell, hwz⟩
  · simp [Value.cells] at hcs
    obtain ⟨rfl, rfl, rfl⟩ := hcs
    exact ⟨by omega, fun _ => .inl ⟨_, _, rfl⟩⟩
  · simp [Value.cells] at hcs
    obtain ⟨rfl, rfl, rfl⟩ := hcs
    simp only [Prod.mk.injEq] at hx
    obtain ⟨rfl, rfl⟩ := hx
    simp only [if_true] at hz
    unfold maxLen at hm
    refine ⟨by omega, fun hs => ?_⟩
    by_cases hl0 : len = 0
    · subst hl0
      exact .inl ⟨_, _, rfl⟩
    · obtain ⟨b, off, spot⟩ := a'
      have hspot : spot = none := by simpa [Addr.add] using World.cell?_spot (hcell 0 (by omega))
      subst hspot
      have hbW : b < W.heap.size := hlt (.cell b off) (MemPlace.mem_row.2 ⟨0, by omega, by simp⟩)
      refine .inr ⟨b, off, len, cap, rfl, by omega, hs, hbW, fun j hj => ?_⟩
      have hj' : j < zs.length := by omega
      have hw := wf_byte (hwz (zs.getD j 0) (by rw [List.getD_eq_getElem?_getD, List.getElem?_eq_getElem hj']; exact List.getElem_mem hj'))
      exact ⟨_, hw.1, hw.2, by rw [← add_plain, hcell j hj']⟩
end
end Go.Proofs.Ytfleececlafjkaa
