/- Are two slices of numbers equal? Both programs' answers. -/
import Derived.Test.YtndmakimkghihaaIRows
import Derived.Deep.QuietTactic
import Derived.BigQuiet
namespace Go.Proofs.Ytndmakimkghihaa
open Go.ChangeShapes Go.WideShapes Go.ChangeAt Go.RowKit

def sameZ (z1 z2 : List Int) : Bool := decide (z1 = z2)
theorem same_len {z1 z2 : List Int} (h : ¬ z1.length = z2.length) : sameZ z1 z2 = false := decide_eq_false (fun e => h (by rw [e]))
theorem same_no {z1 z2 : List Int} {k : Nat} (h : ¬ z1.getD k 0 = z2.getD k 0) (_h1 : k < z1.length) (_h2 : k < z2.length) : sameZ z1 z2 = false := decide_eq_false (fun e => h (by rw [e]))
theorem same_yes {z1 z2 : List Int} (h : z1.length = z2.length) (hj : ∀ j, j < z1.length → z1.getD j 0 = z2.getD j 0) : sameZ z1 z2 = true := by
  refine decide_eq_true (List.ext_getElem h fun j h1 h2 => ?_)
  have := hj j h1
  rwa [List.getD_eq_getElem?_getD, List.getD_eq_getElem?_getD, List.getElem?_eq_getElem h1, List.getElem?_eq_getElem h2] at this
theorem zcells {w : World} {v : Value} {zs : List Int} (h : IntsAt w v zs) : ∀ j, j < zs.length → ∃ bb off, (∃ a c, v = .slice a zs.length c ∧ a = some ⟨bb, off, none⟩) ∧ w.cell? ⟨bb, off + j, none⟩ = some (.int .i64 (zs.getD j 0)) := by
  obtain ⟨_, ⟨a', c', e, rfl⟩ | ⟨bb, off, cap, e, _, hc⟩⟩ := h
  · intro j hj; simp at hj
  · intro j hj
    exact ⟨bb, off, ⟨_, _, e, rfl⟩, hc j hj⟩
theorem zcells' {w : World} {a : Option Addr} {c : Nat} {zs : List Int} (h : IntsAt w (.slice a zs.length c) zs) : ∀ j, j < zs.length → ∃ bb off, a = some ⟨bb, off, none⟩ ∧ w.cell? ⟨bb, off + j, none⟩ = some (.int .i64 (zs.getD j 0)) := by
  intro j hj
  obtain ⟨bb, off, ⟨a', c', e, ha⟩, hc⟩ := zcells h j hj
  simp only [Value.slice.injEq] at e
  exact ⟨bb, off, e.1.trans ha, hc⟩

set_option maxHeartbeats 2000000 in
theorem l00Same_any (z1 z2 : List Int) (v1 v2 : Value) (w : World) (h1 : IntsAt w v1 z1) (h2 : IntsAt w v2 z2) :
    Calls Try.prog 63 #[v1, v2] w fun e w' => e = .returned (.bool (sameZ z1 z2)) ∧ ∃ m, w' = w.drewN m := by
  have hl := h1.1
  have hl2 := h2.1
  obtain ⟨a1, c1, rfl⟩ := ints_form h1
  obtain ⟨a2, c2, rfl⟩ := ints_form h2
  have HC1 := Lib.hid (zcells' h1)
  have HC2 := Lib.hid (zcells' h2)
  clear h1 h2
  by_cases hn : z1.length = z2.length
  · obtain ⟨n, hn1⟩ : ∃ n, z1.length = n := ⟨_, rfl⟩
    have HN1 := Lib.hid hn1
    have HN2 := Lib.hid (hn.symm.trans hn1)
    rw [hn1] at HC1 hl ⊢
    rw [hn.symm.trans hn1] at HC2 ⊢
    clear hn hn1 hl2
    have hne : ((n : Int) != n) = false := by simp
    go_enter Try.func63, Try.ntmps63
    go_wp2
    go_loopw [5] (fun i wr => ∃ k m : Nat, k ≤ n ∧ i = .int .i64 k ∧ wr = w.drewN m ∧ Hid (∀ j, j < k → z1.getD j 0 = z2.getD j 0)) (fun i _ => n - (intOf i).toNat)
    case atStart => exact ⟨0, 0, by omega, rfl, rfl, Lib.hid (fun j hj => by omega)⟩
    case round =>
      obtain ⟨k, m, hk, rfl, rfl, HA⟩ := hrel
      by_cases hlt : k < n
      · obtain ⟨b1, o1, rfl, hc1⟩ := HC1.out k hlt
        obtain ⟨b2, o2, rfl, hc2⟩ := HC2.out k hlt
        have hlt1 : (k : Int) < (n : Int) := by omega
        by_cases he : z1.getD k 0 = z2.getD k 0
        · have HQ := Lib.hid (show ∀ j, j < k + 1 → z1.getD j 0 = z2.getD j 0 from fun j hj => by
            by_cases e : j = k
            · subst e; exact he
            · exact HA.out j (by omega))
          rw [he] at hc1
          generalize z2.getD k 0 = z at *
          clear he
          have hz : (z != z) = false := by simp
          go_wp2
          go_quiet (fail)
          go_wp2
          go_roundw
          case rel => exact ⟨k + 1, _, by omega, by go_num, rfl, HQ⟩
          case measure => simp [intOf]; omega
        · have HR := Lib.hid (same_no he (by rw [HN1.out]; exact hlt) (by rw [HN2.out]; exact hlt))
          generalize z1.getD k 0 = x at *
          generalize z2.getD k 0 = y at *
          have hz : (x != y) = true := by simpa using he
          clear he
          go_wp2
          go_quiet (fail)
          go_wp2
          go_ret
          exact ⟨ret_bool HR.out.symm, _, World.drewN_drewN _ _ _⟩
      · have HR := Lib.hid (same_yes (HN1.out.trans HN2.out.symm) (fun j hj => HA.out j (by have := HN1.out; omega)))
        go_wp2
        go_ret
        exact ⟨ret_bool HR.out.symm, _, rfl⟩
  · have HR := Lib.hid (same_len hn)
    have hne : ((z1.length : Int) != z2.length) = true := by simpa using (show ¬ (z1.length : Int) = z2.length by omega)
    clear HC1 HC2 hn
    generalize z1.length = n1 at *
    generalize z2.length = n2 at *
    go_enter Try.func63, Try.ntmps63
    go_wp2
    go_ret
    exact ⟨ret_bool HR.out.symm, 0, rfl⟩
set_option maxHeartbeats 2000000 in
theorem slicesEqual_any (z1 z2 : List Int) (v1 v2 : Value) (w : World) (h1 : IntsAt w v1 z1) (h2 : IntsAt w v2 z2) :
    Calls Try.prog 64 #[v1, v2] w fun e w' => e = .returned (.bool (sameZ z1 z2)) ∧ ∃ m, w' = w.drewN m := by
  have hl := h1.1
  have hl2 := h2.1
  obtain ⟨a1, c1, rfl⟩ := ints_form h1
  obtain ⟨a2, c2, rfl⟩ := ints_form h2
  have HC1 := Lib.hid (zcells' h1)
  have HC2 := Lib.hid (zcells' h2)
  clear h1 h2
  by_cases hn : z1.length = z2.length
  · obtain ⟨n, hn1⟩ : ∃ n, z1.length = n := ⟨_, rfl⟩
    have HN1 := Lib.hid hn1
    have HN2 := Lib.hid (hn.symm.trans hn1)
    rw [hn1] at HC1 hl ⊢
    rw [hn.symm.trans hn1] at HC2 ⊢
    clear hn hn1 hl2
    have hne : ((n : Int) != n) = false := by simp
    go_enter Try.func64, Try.ntmps64
    go_wp2
    go_loopw [13] (fun i wr => ∃ k m : Nat, k ≤ n ∧ i = .int .i64 k ∧ wr = w.drewN m ∧ Hid (∀ j, j < k → z1.getD j 0 = z2.getD j 0)) (fun i _ => n - (intOf i).toNat)
    case atStart => exact ⟨0, 0, by omega, rfl, rfl, Lib.hid (fun j hj => by omega)⟩
    case round =>
      obtain ⟨k, m, hk, rfl, rfl, HA⟩ := hrel
      by_cases hlt : k < n
      · obtain ⟨b1, o1, rfl, hc1⟩ := HC1.out k hlt
        obtain ⟨b2, o2, rfl, hc2⟩ := HC2.out k hlt
        have hlt1 : (k : Int) < (n : Int) := by omega
        by_cases he : z1.getD k 0 = z2.getD k 0
        · have HQ := Lib.hid (show ∀ j, j < k + 1 → z1.getD j 0 = z2.getD j 0 from fun j hj => by
            by_cases e : j = k
            · subst e; exact he
            · exact HA.out j (by omega))
          rw [he] at hc1
          generalize z2.getD k 0 = z at *
          clear he
          have hz : (z != z) = false := by simp
          go_wp2
          go_quiet (fail)
          go_wp2
          go_roundw
          case rel => exact ⟨k + 1, _, by omega, by go_num, rfl, HQ⟩
          case measure => simp [intOf]; omega
        · have HR := Lib.hid (same_no he (by rw [HN1.out]; exact hlt) (by rw [HN2.out]; exact hlt))
          generalize z1.getD k 0 = x at *
          generalize z2.getD k 0 = y at *
          have hz : (x != y) = true := by simpa using he
          clear he
          go_wp2
          go_quiet (fail)
          go_wp2
          go_ret
          exact ⟨ret_bool HR.out.symm, _, World.drewN_drewN _ _ _⟩
      · have HR := Lib.hid (same_yes (HN1.out.trans HN2.out.symm) (fun j hj => HA.out j (by have := HN1.out; omega)))
        go_wp2
        go_ret
        exact ⟨ret_bool HR.out.symm, _, rfl⟩
  · have HR := Lib.hid (same_len hn)
    have hne : ((z1.length : Int) != z2.length) = true := by simpa using (show ¬ (z1.length : Int) = z2.length by omega)
    clear HC1 HC2 hn
    generalize z1.length = n1 at *
    generalize z2.length = n2 at *
    go_enter Try.func64, Try.ntmps64
    go_wp2
    go_ret
    exact ⟨ret_bool HR.out.symm, 0, rfl⟩
end Go.Proofs.Ytndmakimkghihaa
