/- Are two models equal? Both programs' answers. -/
import Derived.Test.YtndmakimkghihaaSameZ
import Derived.Test.YtndmakimkghihaaModMath
import Derived.Deep.QuietTactic
import Derived.BigQuiet
namespace Go.Proofs.Ytndmakimkghihaa
open Go.ChangeShapes Go.WideShapes Go.ChangeAt Go.RowKit

def sameW (a b : List (List Int)) : Bool := decide (a = b)
def sameM (z1 z2 : List Int) (a b : List (List Int)) (b1 b2 : List Int) : Bool := sameZ z1 z2 && (sameZ b1 b2 && sameW a b)
theorem sameW_len {a b : List (List Int)} (h : ¬ a.length = b.length) : sameW a b = false := decide_eq_false (fun e => h (by rw [e]))
theorem sameW_no {a b : List (List Int)} {k : Nat} (h : sameZ (a.getD k []) (b.getD k []) = false) : sameW a b = false := decide_eq_false (fun e => by rw [e] at h; simp [sameZ] at h)
theorem sameW_yes {a b : List (List Int)} (h : a.length = b.length) (hj : ∀ j, j < a.length → sameZ (a.getD j []) (b.getD j []) = true) : sameW a b = true := by
  refine decide_eq_true (List.ext_getElem h fun j h1 h2 => ?_)
  have := of_decide_eq_true (hj j h1)
  rwa [List.getD_eq_getElem?_getD, List.getD_eq_getElem?_getD, List.getElem?_eq_getElem h1, List.getElem?_eq_getElem h2] at this
theorem sameM_1 {z1 z2 : List Int} {a b : List (List Int)} {b1 b2 : List Int} (h : sameZ z1 z2 = false) : sameM z1 z2 a b b1 b2 = false := by unfold sameM; rw [h]; rfl
theorem sameM_2 {z1 z2 : List Int} {a b : List (List Int)} {b1 b2 : List Int} (h : sameZ b1 b2 = false) : sameM z1 z2 a b b1 b2 = false := by unfold sameM; rw [h]; simp
theorem sameM_3 {z1 z2 : List Int} {a b : List (List Int)} {b1 b2 : List Int} (h1 : sameZ z1 z2 = true) (h2 : sameZ b1 b2 = true) : sameM z1 z2 a b b1 b2 = sameW a b := by unfold sameM; rw [h1, h2]; rfl
theorem mrows_at {w : World} {a : Option Addr} {c : Nat} {ws : List (List Int)} (h : RowsAt w (.slice a ws.length c) ws) : ∀ j, j < ws.length → ∃ bb off, a = some ⟨bb, off, none⟩ ∧ ∃ u, w.cell? ⟨bb, off + j, none⟩ = some u ∧ IntsAt w u (ws.getD j []) := by
  obtain ⟨_, ⟨a', c', e, rfl⟩ | ⟨bb, off, cap, e, _, hc⟩⟩ := h
  · intro j hj; simp at hj
  · intro j hj
    simp only [Value.slice.injEq] at e
    exact ⟨bb, off, e.1, hc j hj⟩
theorem ints_drewN {w : World} {v : Value} {zs : List Int} (m : Nat) (h : IntsAt w v zs) : IntsAt (w.drewN m) v zs := ints_kept (w := w) (w' := w.drewN m) ⟨rfl, rfl, rfl, Nat.le_refl _, fun _ _ => rfl⟩ h
theorem mrows_drewN {w : World} {v : Value} {ws : List (List Int)} (m : Nat) (h : RowsAt w v ws) : RowsAt (w.drewN m) v ws := mrows_kept (w := w) (w' := w.drewN m) ⟨rfl, rfl, rfl, Nat.le_refl _, fun _ _ => rfl⟩ h
theorem below_drewN3 {B : Nat} {w w1 : World} (h : Below B w w1) (n : Nat) : Below B w (w1.drewN n) := ⟨h.os, h.tape, h.output, h.size, h.block⟩
theorem quietM_more {P : Program} {f : FuncId} {args : Array Value} {w : World} {m x : Nat} {v v' : Value} (hv : v' = v)
    (h : Calls P f args (w.drewN (m + x)) fun e w' => e = .returned v' ∧ ∃ k, w' = (w.drewN (m + x)).drewN k) : Calls P f args (w.drewN (m + x)) fun e w'' => e = .returned v ∧ ∃ n, w'' = w.drewN (m + n) :=
  h.mono fun _ _ ⟨he, k, hk⟩ => ⟨by rw [he, hv], x + k, by rw [hk, World.drewN_drewN, Nat.add_assoc]⟩
set_option maxHeartbeats 2000000 in
theorem equalFunc_any (w1 w2 : List (List Int)) (v1 v2 : Value) (w : World) (h1 : RowsAt w v1 w1) (h2 : RowsAt w v2 w2) :
    Calls Try.prog 65 #[v1, v2, .func (.func 64) #[] #[]] w fun e w' => e = .returned (.bool (sameW w1 w2)) ∧ ∃ m, w' = w.drewN m := by
  have hl := h1.1
  have hl2 := h2.1
  obtain ⟨a1, c1, rfl⟩ := mrows_form h1
  obtain ⟨a2, c2, rfl⟩ := mrows_form h2
  have HC1 := Lib.hid (mrows_at h1)
  have HC2 := Lib.hid (mrows_at h2)
  clear h1 h2
  by_cases hn : w1.length = w2.length
  · obtain ⟨n, hn1⟩ : ∃ n, w1.length = n := ⟨_, rfl⟩
    have HN1 := Lib.hid hn1
    have HN2 := Lib.hid (hn.symm.trans hn1)
    rw [hn1] at HC1 hl ⊢
    rw [hn.symm.trans hn1] at HC2 ⊢
    clear hn hn1 hl2
    have hne : ((n : Int) != n) = false := by simp
    go_enter Try.func65, Try.ntmps65
    go_wp2
    go_loopw [17] (fun i wr => ∃ k m : Nat, k ≤ n ∧ i = .int .i64 k ∧ wr = w.drewN m ∧ Hid (∀ j, j < k → sameZ (w1.getD j []) (w2.getD j []) = true)) (fun i _ => n - (intOf i).toNat)
    case atStart => exact ⟨0, 0, by omega, rfl, rfl, Lib.hid (fun j hj => by omega)⟩
    case round =>
      obtain ⟨k, m, hk, rfl, rfl, HA⟩ := hrel
      by_cases hlt : k < n
      · obtain ⟨b1, o1, rfl, u1, hu1, hz1⟩ := HC1.out k hlt
        obtain ⟨b2, o2, rfl, u2, hu2, hz2⟩ := HC2.out k hlt
        have hlt1 : (k : Int) < (n : Int) := by omega
        have hk0 : (0 : Int) ≤ (k : Int) := by omega
        have HS := Lib.hid (slicesEqual_any (w1.getD k []) (w2.getD k []) u1 u2 (w.drewN m) (ints_drewN m hz1) (ints_drewN m hz2))
        have HNO := Lib.hid (fun h => sameW_no (a := w1) (b := w2) (k := k) h)
        have HQ := Lib.hid (show sameZ (w1.getD k []) (w2.getD k []) = true → ∀ j, j < k + 1 → sameZ (w1.getD j []) (w2.getD j []) = true from fun h j hj => by
          by_cases e : j = k
          · subst e; exact h
          · exact HA.out j (by omega))
        clear hz1 hz2
        generalize sameZ (w1.getD k []) (w2.getD k []) = r at *
        go_wp2_with fail
        refine HS.out.mono ?_
        rintro e w3 ⟨rfl, q, rfl⟩
        cases r
        · have HR := Lib.hid (HNO.out rfl)
          go_wp2
          go_ret
          exact ⟨ret_bool HR.out.symm, _, rfl⟩
        · have HK := Lib.hid (HQ.out rfl)
          go_wp2
          go_roundw
          case rel => exact ⟨k + 1, _, by omega, by go_num, rfl, HK⟩
          case measure => simp [intOf]; omega
      · have HR := Lib.hid (sameW_yes (HN1.out.trans HN2.out.symm) (fun j hj => HA.out j (by have := HN1.out; omega)))
        go_wp2
        go_ret
        exact ⟨ret_bool HR.out.symm, _, rfl⟩
  · have HR := Lib.hid (sameW_len hn)
    have hne : ((w1.length : Int) != w2.length) = true := by simpa using (show ¬ (w1.length : Int) = w2.length by omega)
    clear HC1 HC2 hn
    generalize w1.length = n1 at *
    generalize w2.length = n2 at *
    go_enter Try.func65, Try.ntmps65
    go_wp2
    go_ret
    exact ⟨ret_bool HR.out.symm, 0, rfl⟩
set_option maxRecDepth 20000 in
set_option maxHeartbeats 4000000 in
theorem specSameM_any (x0 x1 x2 y0 y1 y2 : Value) (z1 z2 : List Int) (w1 w2 : List (List Int)) (b1 b2 : List Int) (w : World) (h0 : IntsAt w x0 z1) (h1 : RowsAt w x1 w1) (h2 : IntsAt w x2 b1) (k0 : IntsAt w y0 z2) (k1 : RowsAt w y1 w2) (k2 : IntsAt w y2 b2) :
    Calls Try.prog 20 #[.agg #[x0, x1, x2], .agg #[y0, y1, y2]] w fun e w' => e = .returned (.bool (sameM z1 z2 w1 w2 b1 b2)) ∧ Below w.heap.size w w' := by
  have hba := ((Below.refl w.heap.size w).alloc (Nat.le_refl _) (.cells #[x0, x1, x2] 28)).alloc (by simp) (.cells #[y0, y1, y2] 28)
  have HS0 := Lib.hid (l00Same_any z1 z2 x0 y0 _ (ints_kept hba h0) (ints_kept hba k0))
  have HS2 := Lib.hid (fun m => l00Same_any b1 b2 x2 y2 _ (ints_drewN m (ints_kept hba h2)) (ints_drewN m (ints_kept hba k2)))
  have H1 := Lib.hid (mrows_kept hba h1)
  have K1 := Lib.hid (mrows_kept hba k1)
  have HBA := Lib.hid hba
  have hl1 := h1.1
  have hl2 := k1.1
  obtain ⟨a1, c1, rfl⟩ := mrows_form h1
  obtain ⟨a2, c2, rfl⟩ := mrows_form k1
  have HM1 := Lib.hid (fun h => sameM_1 (z1 := z1) (z2 := z2) (a := w1) (b := w2) (b1 := b1) (b2 := b2) h)
  have HM2 := Lib.hid (fun h => sameM_2 (z1 := z1) (z2 := z2) (a := w1) (b := w2) (b1 := b1) (b2 := b2) h)
  have HM3 := Lib.hid (fun h h' => sameM_3 (z1 := z1) (z2 := z2) (a := w1) (b := w2) (b1 := b1) (b2 := b2) h h')
  clear h0 h1 h2 k0 k1 k2 hba
  generalize sameM z1 z2 w1 w2 b1 b2 = res at *
  rcases Bool.eq_false_or_eq_true (sameZ z1 z2) with e0 | e0
  · have E0 := Lib.hid e0
    rcases Bool.eq_false_or_eq_true (sameZ b1 b2) with e2 | e2
    · have E2 := Lib.hid e2
      have HR := Lib.hid (HM3.out e0 e2)
      clear e0 e2
      have HC1 := Lib.hid (mrows_at H1.out)
      have HC2 := Lib.hid (mrows_at K1.out)
      have HLEN := Lib.hid (fun h => sameW_len (a := w1) (b := w2) h)
      have HYES := Lib.hid (fun h h' => sameW_yes (a := w1) (b := w2) h h')
      clear H1 K1
      generalize hnn1 : w1.length = n at *
      generalize hnn2 : w2.length = n2 at *
      clear hnn1 hnn2
      by_cases hn : n = n2
      · subst hn
        have hne : ((n : Int) != n) = false := by simp
        go_enter Try.func20, Try.ntmps20
        go_wp2_with fail
        refine HS0.out.mono ?_
        rintro e v1 ⟨rfl, m1, rfl⟩
        rw [E0.out]
        go_wp2_with fail
        refine (HS2.out _).mono ?_
        rintro e v2 ⟨rfl, m2, rfl⟩
        rw [E2.out]
        go_wp2
        go_loopw [5] (fun i wr => ∃ k m : Nat, k ≤ n ∧ i = .int .i64 k ∧ wr = ((w.alloc (.cells #[x0, .slice a1 n c1, x2] 28)).alloc (.cells #[y0, .slice a2 n c2, y2] 28)).drewN m ∧ Hid (∀ j, j < k → sameZ (w1.getD j []) (w2.getD j []) = true)) (fun i _ => n - (intOf i).toNat)
        case atStart => exact ⟨0, _, by omega, rfl, rfl, Lib.hid (fun j hj => by omega)⟩
        case round =>
          obtain ⟨k, m, hk, rfl, rfl, HA⟩ := hrel
          by_cases hlt : k < n
          · obtain ⟨q1, o1, rfl, u1, hu1, hz1⟩ := HC1.out k hlt
            obtain ⟨q2, o2, rfl, u2, hu2, hz2⟩ := HC2.out k hlt
            have hlt1 : (k : Int) < (n : Int) := by omega
            have hk0 : (0 : Int) ≤ (k : Int) := by omega
            have HS := Lib.hid (fun m => l00Same_any (w1.getD k []) (w2.getD k []) u1 u2 _ (ints_drewN m hz1) (ints_drewN m hz2))
            have HNO := Lib.hid (fun h => sameW_no (a := w1) (b := w2) (k := k) h)
            have HQ := Lib.hid (show sameZ (w1.getD k []) (w2.getD k []) = true → ∀ j, j < k + 1 → sameZ (w1.getD j []) (w2.getD j []) = true from fun h j hj => by
              by_cases e : j = k
              · subst e; exact h
              · exact HA.out j (by omega))
            clear hz1 hz2
            generalize sameZ (w1.getD k []) (w2.getD k []) = r at *
            cases r
            · have HRR := Lib.hid (HNO.out rfl)
              go_wp2
              go_quiet ((go_at_call 63; exact quietM_more rfl (HS.out _)))
              go_wp2
              go_ret
              exact ⟨ret_bool (by rw [HR.out, HRR.out]), below_drewN3 (below_drewN3 HBA.out _) _⟩
            · have HK := Lib.hid (HQ.out rfl)
              go_wp2
              go_quiet ((go_at_call 63; exact quietM_more rfl (HS.out _)))
              go_wp2
              go_roundw
              case rel => exact ⟨k + 1, _, by omega, by go_num, rfl, HK⟩
              case measure => simp [intOf]; omega
          · have HRR := Lib.hid (HYES.out (by first | rfl | trivial) (fun j hj => HA.out j (by omega)))
            go_wp2
            go_ret
            exact ⟨ret_bool (by rw [HR.out, HRR.out]), below_drewN3 HBA.out _⟩
      · have HRR := Lib.hid (HLEN.out hn)
        have hne : ((n : Int) != n2) = true := by simpa using (show ¬ (n : Int) = n2 by omega)
        clear HC1 HC2 hn HYES HLEN
        go_enter Try.func20, Try.ntmps20
        go_wp2_with fail
        refine HS0.out.mono ?_
        rintro e v1 ⟨rfl, m1, rfl⟩
        rw [E0.out]
        go_wp2_with fail
        refine (HS2.out _).mono ?_
        rintro e v2 ⟨rfl, m2, rfl⟩
        rw [E2.out]
        go_wp2
        go_ret
        exact ⟨ret_bool (by rw [HR.out, HRR.out]), below_drewN3 HBA.out _⟩
    · have E2 := Lib.hid e2
      have HR := Lib.hid (HM2.out e2)
      clear e0 e2
      go_enter Try.func20, Try.ntmps20
      go_wp2_with fail
      refine HS0.out.mono ?_
      rintro e v1 ⟨rfl, m1, rfl⟩
      rw [E0.out]
      go_wp2_with fail
      refine (HS2.out _).mono ?_
      rintro e v2 ⟨rfl, m2, rfl⟩
      rw [E2.out]
      go_wp2
      go_ret
      exact ⟨ret_bool HR.out.symm, below_drewN3 HBA.out _⟩
  · have E0 := Lib.hid e0
    have HR := Lib.hid (HM1.out e0)
    clear e0
    go_enter Try.func20, Try.ntmps20
    go_wp2_with fail
    refine HS0.out.mono ?_
    rintro e v1 ⟨rfl, m1, rfl⟩
    rw [E0.out]
    go_wp2
    go_ret
    exact ⟨ret_bool HR.out.symm, below_drewN3 HBA.out _⟩
set_option maxRecDepth 20000 in
set_option maxHeartbeats 4000000 in
theorem implSameM_any (x0 x1 x2 y0 y1 y2 : Value) (z1 z2 : List Int) (w1 w2 : List (List Int)) (b1 b2 : List Int) (w : World) (h0 : IntsAt w x0 z1) (h1 : RowsAt w x1 w1) (h2 : IntsAt w x2 b1) (k0 : IntsAt w y0 z2) (k1 : RowsAt w y1 w2) (k2 : IntsAt w y2 b2) :
    Calls Try.prog 21 #[.agg #[x0, x1, x2], .agg #[y0, y1, y2]] w fun e w' => e = .returned (.bool (sameM z1 z2 w1 w2 b1 b2)) ∧ Below w.heap.size w w' := by
  have hba := ((Below.refl w.heap.size w).alloc (Nat.le_refl _) (.cells #[x0, x1, x2] 28)).alloc (by simp) (.cells #[y0, y1, y2] 28)
  have HS0 := Lib.hid (slicesEqual_any z1 z2 x0 y0 _ (ints_kept hba h0) (ints_kept hba k0))
  have HS2 := Lib.hid (fun m => slicesEqual_any b1 b2 x2 y2 _ (ints_drewN m (ints_kept hba h2)) (ints_drewN m (ints_kept hba k2)))
  have HS1 := Lib.hid (fun m => equalFunc_any w1 w2 x1 y1 _ (mrows_drewN m (mrows_kept hba h1)) (mrows_drewN m (mrows_kept hba k1)))
  have HBA := Lib.hid hba
  have HM1 := Lib.hid (fun h => sameM_1 (z1 := z1) (z2 := z2) (a := w1) (b := w2) (b1 := b1) (b2 := b2) h)
  have HM2 := Lib.hid (fun h => sameM_2 (z1 := z1) (z2 := z2) (a := w1) (b := w2) (b1 := b1) (b2 := b2) h)
  have HM3 := Lib.hid (fun h h' => sameM_3 (z1 := z1) (z2 := z2) (a := w1) (b := w2) (b1 := b1) (b2 := b2) h h')
  clear h0 h1 h2 k0 k1 k2 hba
  generalize sameM z1 z2 w1 w2 b1 b2 = res at *
  rcases Bool.eq_false_or_eq_true (sameZ z1 z2) with e0 | e0
  · have E0 := Lib.hid e0
    rcases Bool.eq_false_or_eq_true (sameZ b1 b2) with e2 | e2
    · have E2 := Lib.hid e2
      have HR := Lib.hid (HM3.out e0 e2)
      clear e0 e2
      go_enter Try.func21, Try.ntmps21
      go_wp2_with fail
      refine HS0.out.mono ?_
      rintro e v1 ⟨rfl, m1, rfl⟩
      rw [E0.out]
      go_wp2_with fail
      refine (HS2.out _).mono ?_
      rintro e v2 ⟨rfl, m2, rfl⟩
      rw [E2.out]
      go_wp2_with fail
      refine (HS1.out _).mono ?_
      rintro e v3 ⟨rfl, m3, rfl⟩
      rw [← HR.out]
      go_wp2
      go_ret
      exact ⟨rfl, below_drewN3 HBA.out _⟩
    · have E2 := Lib.hid e2
      have HR := Lib.hid (HM2.out e2)
      clear e0 e2
      go_enter Try.func21, Try.ntmps21
      go_wp2_with fail
      refine HS0.out.mono ?_
      rintro e v1 ⟨rfl, m1, rfl⟩
      rw [E0.out]
      go_wp2_with fail
      refine (HS2.out _).mono ?_
      rintro e v2 ⟨rfl, m2, rfl⟩
      rw [E2.out]
      go_wp2
      go_ret
      exact ⟨ret_bool HR.out.symm, below_drewN3 HBA.out _⟩
  · have E0 := Lib.hid e0
    have HR := Lib.hid (HM1.out e0)
    clear e0
    go_enter Try.func21, Try.ntmps21
    go_wp2_with fail
    refine HS0.out.mono ?_
    rintro e v1 ⟨rfl, m1, rfl⟩
    rw [E0.out]
    go_wp2
    go_ret
    exact ⟨ret_bool HR.out.symm, below_drewN3 HBA.out _⟩
end Go.Proofs.Ytndmakimkghihaa
