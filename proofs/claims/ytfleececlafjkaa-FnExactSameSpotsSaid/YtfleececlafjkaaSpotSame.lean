/- Two lists of spots, compared: the reference model's answer and the program's. -/
import Derived.Test.YtfleececlafjkaaSpotV
import Derived.Laws.StructEq
set_option linter.unusedVariables false
namespace Go.Proofs.Ytfleececlafjkaa
open Go.ChangeShapes Go.WideShapes Go.ChangeAt Go.RowKit

def sameQ (z1 z2 : List Qt) : Bool := decide (z1 = z2)
theorem sameQ_len {z1 z2 : List Qt} (h : ¬ z1.length = z2.length) : sameQ z1 z2 = false := decide_eq_false (fun e => h (by rw [e]))
theorem sameQ_no {z1 z2 : List Qt} {k : Nat} (h : ¬ z1.getD k zQ = z2.getD k zQ) : sameQ z1 z2 = false := decide_eq_false (fun e => h (by rw [e]))
theorem sameQ_yes {z1 z2 : List Qt} (h : z1.length = z2.length) (hj : ∀ j, j < z1.length → z1.getD j zQ = z2.getD j zQ) : sameQ z1 z2 = true := by
  refine decide_eq_true (List.ext_getElem h fun j h1 h2 => ?_)
  have := hj j h1
  rwa [List.getD_eq_getElem?_getD, List.getD_eq_getElem?_getD, List.getElem?_eq_getElem h1, List.getElem?_eq_getElem h2] at this
theorem eqlQ (x y x2 y2 : Int) (w : World) :
    (Op.equalIn 10000 44 (.agg #[.int .i64 x, .int .i64 y]) (.agg #[.int .i64 x2, .int .i64 y2])).run Try.prog w = .ok (x == x2 && y == y2) w := by
  have hu := Try.underlying2
  have hu2 := Try.underlying44
  rw [show (10000 : Nat) = 9999 + 1 from rfl, run_equalIn_struct w 9999 _ _ _ (by kernel_rfl) (by kernel_rfl)]
  cases h0 : (x == x2) <;> cases h1 : (y == y2) <;> simp [Program.fieldsOf, hu2, Op.eqFields, go_sem, h0, h1, hu]
theorem qt_beq {x y x2 y2 : Int} : (x == x2 && y == y2) = decide ((x, y) = (x2, y2)) := by
  rw [Bool.eq_iff_iff]
  simp
theorem eqGQ : Try.prog.eqGuardType Try.prog.depth 44 = false := by kernel_rfl
theorem spots_cellsQ {w : World} {a : Option Addr} {c n : Nat} {zs : List Qt} (hn : zs.length = n) (h : SpotsAt w (.slice a n c) zs) : ∀ j, j < n → ∃ bb off, a = some ⟨bb, off, none⟩ ∧ QIn w bb (off + j * 2) (zs.getD j zQ) := by
  intro j hj
  obtain ⟨_, ⟨a', c', e, rfl⟩ | ⟨bb, off, cap, e, _, hc⟩⟩ := h
  · simp at hn; omega
  · simp only [Value.slice.injEq] at e
    exact ⟨bb, off, e.1, spots_in hc j (by omega)⟩
set_option maxRecDepth 20000 in
set_option maxHeartbeats 4000000 in
theorem slicesEqualQ_any (z1 z2 : List Qt) (v1 v2 : Value) (w : World) (h1 : SpotsAt w v1 z1) (h2 : SpotsAt w v2 z2) :
    Calls Try.prog 55 #[v1, v2] w fun e w' => e = .returned (.bool (sameQ z1 z2)) ∧ ∃ m, w' = w.drewN m := by
  have hl := h1.1
  have hl2 := h2.1
  obtain ⟨a1, c1, rfl⟩ := spots_form h1
  obtain ⟨a2, c2, rfl⟩ := spots_form h2
  by_cases hn : z1.length = z2.length
  · obtain ⟨n, hn1⟩ : ∃ n, z1.length = n := ⟨_, rfl⟩
    have HN1 := Lib.hid hn1
    have HN2 := Lib.hid (hn.symm.trans hn1)
    rw [hn1] at h1 hl ⊢
    rw [hn.symm.trans hn1] at h2 ⊢
    have HC1 := Lib.hid (spots_cellsQ HN1.out h1)
    have HC2 := Lib.hid (spots_cellsQ HN2.out h2)
    clear hn hn1 hl2 h1 h2
    have hne : ((n : Int) != n) = false := by simp
    have hg := eqGQ
    go_enter Try.func55, Try.ntmps55
    go_wp2
    go_loopw [13] (fun i wr => ∃ k m : Nat, k ≤ n ∧ i = .int .i64 k ∧ wr = w.drewN m ∧ Hid (∀ j, j < k → z1.getD j zQ = z2.getD j zQ)) (fun i _ => n - (intOf i).toNat)
    case atStart => exact ⟨0, _, by omega, rfl, (by rfl : w = w.drewN 0), Lib.hid (fun j hj => by omega)⟩
    case round =>
      obtain ⟨k, m, hk, rfl, rfl, HA⟩ := hrel
      by_cases hlt : k < n
      · obtain ⟨b1, o1, rfl, hc1⟩ := HC1.out k hlt
        obtain ⟨b2, o2, rfl, hc2⟩ := HC2.out k hlt
        obtain ⟨⟨x, y⟩, hxyz⟩ : ∃ r, z1.getD k zQ = r := ⟨_, rfl⟩
        obtain ⟨⟨x2, y2⟩, hx2⟩ : ∃ r, z2.getD k zQ = r := ⟨_, rfl⟩
        have hlt1 : (k : Int) < (n : Int) := by omega
        have hk0 : (0 : Int) ≤ (k : Int) := by omega
        rw [hxyz] at hc1
        rw [hx2] at hc2
        have c0 : w.cell? ⟨b1, o1 + k * 2, none⟩ = some (.int .i64 x) := hc1.c0
        have c1 : w.cell? ⟨b1, o1 + k * 2 + 1, none⟩ = some (.int .i64 y) := hc1.c1
        have d0 : w.cell? ⟨b2, o2 + k * 2, none⟩ = some (.int .i64 x2) := hc2.c0
        have d1 : w.cell? ⟨b2, o2 + k * 2 + 1, none⟩ = some (.int .i64 y2) := hc2.c1
        clear hc1 hc2
        by_cases he : (x, y) = (x2, y2)
        · have HQ := Lib.hid (show ∀ j, j < k + 1 → z1.getD j zQ = z2.getD j zQ from fun j hj => by
            by_cases e : j = k
            · subst e; rw [hxyz, hx2]; exact he
            · exact HA.out j (by omega))
          have hq : ∀ w : World, (Op.equalIn 10000 44 (.agg #[.int .i64 x, .int .i64 y]) (.agg #[.int .i64 x2, .int .i64 y2])).run Try.prog w = .ok true w := fun w => by rw [eqlQ, qt_beq, decide_eq_true he]
          clear he hxyz hx2
          go_wp2
          go_quiet (fail)
          go_wp2
          go_roundw
          case rel => exact ⟨k + 1, _, by omega, by go_num, rfl, HQ⟩
          case measure => simp [intOf]; omega
        · have HR := Lib.hid (sameQ_no (z1 := z1) (z2 := z2) (k := k) (by rw [hxyz, hx2]; exact he))
          have hq : ∀ w : World, (Op.equalIn 10000 44 (.agg #[.int .i64 x, .int .i64 y]) (.agg #[.int .i64 x2, .int .i64 y2])).run Try.prog w = .ok false w := fun w => by rw [eqlQ, qt_beq, decide_eq_false he]
          clear he hxyz hx2
          go_wp2
          go_quiet (fail)
          go_wp2
          go_ret
          exact ⟨retQ_b HR.out.symm, _, by rw [World.drewN_drewN]⟩
      · have HR := Lib.hid (sameQ_yes (HN1.out.trans HN2.out.symm) (fun j hj => HA.out j (by have := HN1.out; omega)))
        go_wp2
        go_ret
        exact ⟨retQ_b HR.out.symm, _, rfl⟩
  · have HR := Lib.hid (sameQ_len hn)
    have hne : ((z1.length : Int) != z2.length) = true := by simpa using (show ¬ (z1.length : Int) = z2.length by omega)
    clear hn h1 h2
    generalize z1.length = n1 at *
    generalize z2.length = n2 at *
    go_enter Try.func55, Try.ntmps55
    go_wp2
    go_ret
    exact ⟨retQ_b HR.out.symm, 0, rfl⟩
set_option maxRecDepth 20000 in
set_option maxHeartbeats 4000000 in
theorem specSameQ_drew (z1 z2 : List Qt) (v1 v2 : Value) (w : World) (h1 : SpotsAt w v1 z1) (h2 : SpotsAt w v2 z2) :
    Calls Try.prog 25 #[v1, v2] w fun e w' => e = .returned (.bool (sameQ z1 z2)) ∧ ∃ m, w' = w.drewN m := by
  have hl := h1.1
  have hl2 := h2.1
  obtain ⟨a1, c1, rfl⟩ := spots_form h1
  obtain ⟨a2, c2, rfl⟩ := spots_form h2
  by_cases hn : z1.length = z2.length
  · obtain ⟨n, hn1⟩ : ∃ n, z1.length = n := ⟨_, rfl⟩
    have HN1 := Lib.hid hn1
    have HN2 := Lib.hid (hn.symm.trans hn1)
    rw [hn1] at h1 hl ⊢
    rw [hn.symm.trans hn1] at h2 ⊢
    have HC1 := Lib.hid (spots_cellsQ HN1.out h1)
    have HC2 := Lib.hid (spots_cellsQ HN2.out h2)
    clear hn hn1 hl2 h1 h2
    have hne : ((n : Int) != n) = false := by simp
    have hg := eqGQ
    go_enter Try.func25, Try.ntmps25
    go_wp2
    go_loopw [5] (fun i wr => ∃ k m : Nat, k ≤ n ∧ i = .int .i64 k ∧ wr = w.drewN m ∧ Hid (∀ j, j < k → z1.getD j zQ = z2.getD j zQ)) (fun i _ => n - (intOf i).toNat)
    case atStart => exact ⟨0, _, by omega, rfl, (by rfl : w = w.drewN 0), Lib.hid (fun j hj => by omega)⟩
    case round =>
      obtain ⟨k, m, hk, rfl, rfl, HA⟩ := hrel
      by_cases hlt : k < n
      · obtain ⟨b1, o1, rfl, hc1⟩ := HC1.out k hlt
        obtain ⟨b2, o2, rfl, hc2⟩ := HC2.out k hlt
        obtain ⟨⟨x, y⟩, hxyz⟩ : ∃ r, z1.getD k zQ = r := ⟨_, rfl⟩
        obtain ⟨⟨x2, y2⟩, hx2⟩ : ∃ r, z2.getD k zQ = r := ⟨_, rfl⟩
        have hlt1 : (k : Int) < (n : Int) := by omega
        have hk0 : (0 : Int) ≤ (k : Int) := by omega
        rw [hxyz] at hc1
        rw [hx2] at hc2
        have c0 : w.cell? ⟨b1, o1 + k * 2, none⟩ = some (.int .i64 x) := hc1.c0
        have c1 : w.cell? ⟨b1, o1 + k * 2 + 1, none⟩ = some (.int .i64 y) := hc1.c1
        have d0 : w.cell? ⟨b2, o2 + k * 2, none⟩ = some (.int .i64 x2) := hc2.c0
        have d1 : w.cell? ⟨b2, o2 + k * 2 + 1, none⟩ = some (.int .i64 y2) := hc2.c1
        clear hc1 hc2
        by_cases he : (x, y) = (x2, y2)
        · have HQ := Lib.hid (show ∀ j, j < k + 1 → z1.getD j zQ = z2.getD j zQ from fun j hj => by
            by_cases e : j = k
            · subst e; rw [hxyz, hx2]; exact he
            · exact HA.out j (by omega))
          have hq : ∀ w : World, (Op.equalIn 10000 44 (.agg #[.int .i64 x, .int .i64 y]) (.agg #[.int .i64 x2, .int .i64 y2])).run Try.prog w = .ok true w := fun w => by rw [eqlQ, qt_beq, decide_eq_true he]
          clear he hxyz hx2
          go_wp2
          go_quiet (fail)
          go_wp2
          go_roundw
          case rel => exact ⟨k + 1, _, by omega, by go_num, rfl, HQ⟩
          case measure => simp [intOf]; omega
        · have HR := Lib.hid (sameQ_no (z1 := z1) (z2 := z2) (k := k) (by rw [hxyz, hx2]; exact he))
          have hq : ∀ w : World, (Op.equalIn 10000 44 (.agg #[.int .i64 x, .int .i64 y]) (.agg #[.int .i64 x2, .int .i64 y2])).run Try.prog w = .ok false w := fun w => by rw [eqlQ, qt_beq, decide_eq_false he]
          clear he hxyz hx2
          go_wp2
          go_quiet (fail)
          go_wp2
          go_ret
          exact ⟨retQ_b HR.out.symm, _, by rw [World.drewN_drewN]⟩
      · have HR := Lib.hid (sameQ_yes (HN1.out.trans HN2.out.symm) (fun j hj => HA.out j (by have := HN1.out; omega)))
        go_wp2
        go_ret
        exact ⟨retQ_b HR.out.symm, _, rfl⟩
  · have HR := Lib.hid (sameQ_len hn)
    have hne : ((z1.length : Int) != z2.length) = true := by simpa using (show ¬ (z1.length : Int) = z2.length by omega)
    clear hn h1 h2
    generalize z1.length = n1 at *
    generalize z2.length = n2 at *
    go_enter Try.func25, Try.ntmps25
    go_wp2
    go_ret
    exact ⟨retQ_b HR.out.symm, 0, rfl⟩
theorem specSameQ_any (z1 z2 : List Qt) (v1 v2 : Value) (w : World) (h1 : SpotsAt w v1 z1) (h2 : SpotsAt w v2 z2) :
    Calls Try.prog 25 #[v1, v2] w fun e w' => e = .returned (.bool (sameQ z1 z2)) ∧ Below w.heap.size w w' := by
  refine (specSameQ_drew z1 z2 v1 v2 w h1 h2).mono ?_
  rintro e w' ⟨rfl, m, rfl⟩
  exact ⟨rfl, below_drewN _ _⟩
theorem implSameQ_any (z1 z2 : List Qt) (v1 v2 : Value) (w : World) (h1 : SpotsAt w v1 z1) (h2 : SpotsAt w v2 z2) :
    Calls Try.prog 26 #[v1, v2] w fun e w' => e = .returned (.bool (sameQ z1 z2)) ∧ Below w.heap.size w w' := by
  have HC := Lib.hid (slicesEqualQ_any z1 z2 v1 v2 w h1 h2)
  clear h1 h2
  generalize sameQ z1 z2 = r at *
  go_enter Try.func26, Try.ntmps26
  go_wp2_with fail
  refine HC.out.mono ?_
  rintro e w1 ⟨rfl, m, rfl⟩
  go_wp2
  go_ret
  exact ⟨rfl, below_drewN _ _⟩
end Go.Proofs.Ytfleececlafjkaa
