/- Lists of melts compared: the reference model's answer, the program's. -/
import Derived.Test.YtjicnfgpbbganaaMelts
import Derived.Deep.QuietTactic
import Derived.BigQuiet
import Derived.Deep.Draws
import Derived.Laws.EntriesVeiled
set_option linter.unusedVariables false
namespace Go.Proofs.Ytjicnfgpbbganaa
open Go.ChangeShapes Go.WideShapes Go.ChangeAt Go.RowKit

theorem ba_ext {x y : ByteArray} (h : x.toList = y.toList) : x = y := by
  rw [ByteArray.toList_eq, ByteArray.toList_eq] at h
  cases x; cases y
  simp only at h
  congr 1
  exact Array.toList_inj.1 h
theorem ba_ne {x y : ByteArray} (h : x ≠ y) : (x.toList != y.toList) = true := by
  simp only [bne_iff_ne, ne_eq]
  exact fun e => h (ba_ext e)
theorem ba_neq {x y : ByteArray} (h : x ≠ y) : (x.toList == y.toList) = false := by
  simp only [beq_eq_false_iff_ne, ne_eq]
  exact fun e => h (ba_ext e)
theorem list_same {α : Type} {a b : List α} {d : α} {n : Nat} (ha : a.length = n) (hb : b.length = n) (h : ∀ j, j < n → a.getD j d = b.getD j d) : a = b := by
  refine List.ext_getElem (by omega) fun i h1 h2 => ?_
  have := h i (by omega)
  rw [List.getD_eq_getElem?_getD, List.getD_eq_getElem?_getD, List.getElem?_eq_getElem h1, List.getElem?_eq_getElem h2] at this
  simpa using this
theorem ret_bW {a b : Bool} (h : a = b) : Ending.returned (.bool a) = .returned (.bool b) := by rw [h]
theorem drewW (w : World) (m : Nat) : Below w.heap.size w (w.drewN m) := ⟨rfl, rfl, rfl, Nat.le_refl _, fun _ _ => rfl⟩
theorem st_drewN {w : World} {v : Value} {ss : List ByteArray} (m : Nat) (h : StAt w v ss) : StAt (w.drewN m) v ss := st_kept (drewW w m) h
theorem quiet_moreW {P : Program} {f : FuncId} {args : Array Value} {w : World} {m x : Nat} {v v' : Value} (hv : v' = v)
    (h : Calls P f args (w.drewN (m + x)) fun e w' => e = .returned v' ∧ ∃ k, w' = (w.drewN (m + x)).drewN k) : Calls P f args (w.drewN (m + x)) fun e w'' => e = .returned v ∧ ∃ n, w'' = w.drewN (m + n) :=
  h.mono fun _ _ ⟨he, k, hk⟩ => ⟨by rw [he, hv], x + k, by rw [hk, World.drewN_drewN, Nat.add_assoc]⟩
set_option maxHeartbeats 2000000 in
theorem words_some (a b : List ByteArray) (b1 o1 c1 b2 o2 c2 n : Nat) (w : World) (ha : Hid (a.length = n)) (hb : Hid (b.length = n)) (hn : n ≤ 1048576) (h1 : ∀ j, j < n → w.cell? ⟨b1, o1 + j, none⟩ = some (.string (a.getD j ByteArray.empty))) (h2 : ∀ j, j < n → w.cell? ⟨b2, o2 + j, none⟩ = some (.string (b.getD j ByteArray.empty))) :
    Calls Try.prog 31 #[.slice (some ⟨b1, o1, none⟩) n c1, .slice (some ⟨b2, o2, none⟩) n c2] w fun e w' => e = .returned (.bool (decide (a = b))) ∧ ∃ m, w' = w.drewN m := by
  have H1 := Lib.hid h1
  have H2 := Lib.hid h2
  have hne : ((n : Int) != n) = false := by simp
  clear h1 h2
  go_enter Try.func31, Try.ntmps31
  go_wp2
  go_loopw [5] (fun i wr => ∃ k m : Nat, k ≤ n ∧ i = .int .i64 k ∧ wr = w.drewN m ∧ Hid (∀ j, j < k → a.getD j ByteArray.empty = b.getD j ByteArray.empty)) (fun i _ => n - (intOf i).toNat)
  case atStart => exact ⟨0, 0, by omega, rfl, rfl, Lib.hid (fun j hj => by omega)⟩
  case round =>
    obtain ⟨k, m, hk, rfl, rfl, HA⟩ := hrel
    by_cases hlt : k < n
    · have d1 := H1.out k hlt
      have d2 := H2.out k hlt
      obtain ⟨x, hx⟩ : ∃ x, a.getD k ByteArray.empty = x := ⟨_, rfl⟩
      obtain ⟨y, hy⟩ : ∃ y, b.getD k ByteArray.empty = y := ⟨_, rfl⟩
      rw [hx] at d1
      rw [hy] at d2
      have hlt1 : (k : Int) < (n : Int) := by omega
      by_cases he : x = y
      · subst he
        have HNX := Lib.hid (show ∀ j, j < k + 1 → a.getD j ByteArray.empty = b.getD j ByteArray.empty from fun j hj => by
          by_cases e : j = k
          · subst e; rw [hx, hy]
          · exact HA.out j (by omega))
        have hz : (x.toList != x.toList) = false := by simp
        clear hx hy
        go_wp2
        go_quiet (fail)
        go_wp2
        go_roundw
        case rel => exact ⟨k + 1, _, by omega, by go_num, rfl, HNX⟩
        case measure => simp [intOf]; omega
      · have HF := Lib.hid (show decide (a = b) = false from decide_eq_false (fun e => he (by rw [← hx, ← hy, e])))
        have hz := ba_ne he
        have hzz := ba_neq he
        clear hx hy he
        go_wp2
        go_quiet (fail)
        go_wp2
        go_ret
        exact ⟨ret_bW HF.out.symm, _, by first | rfl | rw [World.drewN_drewN]⟩
    · obtain rfl : k = n := by omega
      have HF := Lib.hid (show decide (a = b) = true from decide_eq_true (list_same ha.out hb.out HA.out))
      go_wp2
      go_ret
      exact ⟨ret_bW HF.out.symm, _, rfl⟩
theorem words_zero (p p2 : Option Addr) (c c2 : Nat) (w : World) :
    Calls Try.prog 31 #[.slice p 0 c, .slice p2 0 c2] w fun e w' => e = .returned (.bool true) ∧ ∃ m, w' = w.drewN m := by
  go_enter Try.func31, Try.ntmps31
  go_wp2
  refine wp_loop_rounds 1 ?_
  rw [rounds_succ]
  go_wp2
  go_ret
  exact ⟨rfl, 0, rfl⟩
theorem words_len (p p2 : Option Addr) (n n2 c c2 : Nat) (w : World) (h : n ≠ n2) (h1 : n ≤ 1048576) (h2 : n2 ≤ 1048576) :
    Calls Try.prog 31 #[.slice p n c, .slice p2 n2 c2] w fun e w' => e = .returned (.bool false) ∧ ∃ m, w' = w.drewN m := by
  have hne : ((n : Int) != n2) = true := by simp; omega
  clear h
  go_enter Try.func31, Try.ntmps31
  go_wp2
  go_ret
  exact ⟨rfl, 0, rfl⟩
theorem words_any (a b : List ByteArray) (v1 v2 : Value) (w : World) (h1 : StAt w v1 a) (h2 : StAt w v2 b) :
    Calls Try.prog 31 #[v1, v2] w fun e w' => e = .returned (.bool (decide (a = b))) ∧ ∃ m, w' = w.drewN m := by
  have hl1 := h1.1
  have hl2 := h2.1
  by_cases hl : a.length = b.length
  · obtain ⟨_, ⟨p, c, rfl, rfl⟩ | ⟨b1, o1, c1, rfl, hb1, hc1⟩⟩ := h1
    · obtain ⟨p2, c2, rfl⟩ := st_form h2
      obtain rfl : b = [] := List.length_eq_zero_iff.1 (by simpa using hl.symm)
      exact words_zero p p2 c c2 w
    · by_cases h0 : a.length = 0
      · obtain ⟨p2, c2, rfl⟩ := st_form h2
        rw [← hl, h0]
        rw [decide_eq_true (show a = b by rw [List.length_eq_zero_iff.1 h0, List.length_eq_zero_iff.1 (hl.symm.trans h0)])]
        exact words_zero _ p2 c1 c2 w
      · obtain ⟨_, ⟨p, c, rfl, rfl⟩ | ⟨b2, o2, c2, rfl, hb2, hc2⟩⟩ := h2
        · simp at hl; exact absurd (by rw [hl]; rfl) h0
        · rw [← hl] at hc2 ⊢
          exact words_some a b b1 o1 c1 b2 o2 c2 _ w (Lib.hid rfl) (Lib.hid hl.symm) hl1 hc1 hc2
  · obtain ⟨p, c, rfl⟩ := st_form h1
    obtain ⟨p2, c2, rfl⟩ := st_form h2
    rw [decide_eq_false (fun e => hl (by rw [e]))]
    exact words_len p p2 _ _ c c2 w hl hl1 hl2
set_option maxRecDepth 20000 in
set_option maxHeartbeats 4000000 in
theorem specSMl_some (a b : List Mt) (b1 o1 c1 b2 o2 c2 n : Nat) (w : World) (ha : Hid (a.length = n)) (hb : Hid (b.length = n)) (hn : n ≤ 1048576) (h1 : ∀ j, j < n → MAt w b1 (o1 + j * 3) (a.getD j zM)) (h2 : ∀ j, j < n → MAt w b2 (o2 + j * 3) (b.getD j zM)) :
    Calls Try.prog 17 #[.slice (some ⟨b1, o1, none⟩) n c1, .slice (some ⟨b2, o2, none⟩) n c2] w fun e w' => e = .returned (.bool (decide (a = b))) ∧ ∃ m, w' = w.drewN m := by
  have H1 := Lib.hid h1
  have H2 := Lib.hid h2
  have hne : ((n : Int) != n) = false := by simp
  clear h1 h2
  go_enter Try.func17, Try.ntmps17
  go_wp2
  go_loopw [5] (fun i wr => ∃ k m : Nat, k ≤ n ∧ i = .int .i64 k ∧ wr = w.drewN m ∧ Hid (∀ j, j < k → a.getD j zM = b.getD j zM)) (fun i _ => n - (intOf i).toNat)
  case atStart => exact ⟨0, 0, by omega, rfl, rfl, Lib.hid (fun j hj => by omega)⟩
  case round =>
    obtain ⟨k, m, hk, rfl, rfl, HA⟩ := hrel
    by_cases hlt : k < n
    · obtain ⟨u1, d0, d1, d2, hu1⟩ := H1.out k hlt
      obtain ⟨u2, e0, e1, e2, hu2⟩ := H2.out k hlt
      obtain ⟨⟨s, ss, z⟩, hx⟩ : ∃ x, a.getD k zM = x := ⟨_, rfl⟩
      obtain ⟨⟨s2, ss2, z2⟩, hy⟩ : ∃ y, b.getD k zM = y := ⟨_, rfl⟩
      rw [hx] at d0 d2 hu1
      rw [hy] at e0 e2 hu2
      simp only at d0 d2 hu1 e0 e2 hu2
      have hlt1 : (k : Int) < (n : Int) := by omega
      have hk0 : (0 : Int) ≤ (k : Int) := by omega
      have HU1 := Lib.hid hu1
      have HU2 := Lib.hid hu2
      obtain ⟨p1, q1, rfl⟩ := st_form hu1
      obtain ⟨p2, q2, rfl⟩ := st_form hu2
      clear hu1 hu2
      have HNE := Lib.hid (fun (h : (s, ss, z) ≠ (s2, ss2, z2)) => show decide (a = b) = false from decide_eq_false (fun e => h (by rw [← hx, ← hy, e])))
      by_cases he : s = s2
      · subst he
        have hz : (s.toList != s.toList) = false := by simp
        by_cases hm : z = z2
        · subst hm
          have hz2 : (z != z) = false := by simp
          by_cases hw : ss = ss2
          · have HW := Lib.hid (show decide (ss = ss2) = true from decide_eq_true hw)
            have HNX := Lib.hid (show ∀ j, j < k + 1 → a.getD j zM = b.getD j zM from fun j hj => by
              by_cases e : j = k
              · subst e; rw [hx, hy, hw]
              · exact HA.out j (by omega))
            clear hx hy hw
            go_wp2
            go_quiet ((go_at_call 31; exact quiet_moreW (by rw [HW.out]) (words_any ss ss2 _ _ _ (st_drewN _ HU1.out) (st_drewN _ HU2.out))))
            go_wp2
            go_roundw
            case rel => exact ⟨k + 1, _, by omega, by go_num, rfl, HNX⟩
            case measure => simp [intOf]; omega
          · have HW := Lib.hid (show decide (ss = ss2) = false from decide_eq_false hw)
            have HF := Lib.hid (HNE.out (fun e => hw (by cases e; rfl)))
            clear hx hy hw
            go_wp2
            go_quiet ((go_at_call 31; exact quiet_moreW (by rw [HW.out]) (words_any ss ss2 _ _ _ (st_drewN _ HU1.out) (st_drewN _ HU2.out))))
            go_wp2
            go_ret
            exact ⟨ret_bW HF.out.symm, _, by first | rfl | rw [World.drewN_drewN]⟩
        · have HF := Lib.hid (HNE.out (fun e => hm (by cases e; rfl)))
          have hz2 : (z != z2) = true := by simp [hm]
          have hz3 : (z == z2) = false := by simp [hm]
          clear hx hy hm
          go_wp2
          go_quiet (fail)
          go_wp2
          go_ret
          exact ⟨ret_bW HF.out.symm, _, by first | rfl | rw [World.drewN_drewN]⟩
      · have HF := Lib.hid (HNE.out (fun e => he (by cases e; rfl)))
        have hz := ba_ne he
        have hzz := ba_neq he
        clear hx hy he
        go_wp2
        go_quiet (fail)
        go_wp2
        go_ret
        exact ⟨ret_bW HF.out.symm, _, by first | rfl | rw [World.drewN_drewN]⟩
    · obtain rfl : k = n := by omega
      have HF := Lib.hid (show decide (a = b) = true from decide_eq_true (list_same ha.out hb.out HA.out))
      go_wp2
      go_ret
      exact ⟨ret_bW HF.out.symm, _, rfl⟩
theorem specSMl_zero (p p2 : Option Addr) (c c2 : Nat) (w : World) :
    Calls Try.prog 17 #[.slice p 0 c, .slice p2 0 c2] w fun e w' => e = .returned (.bool true) ∧ ∃ m, w' = w.drewN m := by
  go_enter Try.func17, Try.ntmps17
  go_wp2
  refine wp_loop_rounds 1 ?_
  rw [rounds_succ]
  go_wp2
  go_ret
  exact ⟨rfl, 0, rfl⟩
theorem specSMl_len (p p2 : Option Addr) (n n2 c c2 : Nat) (w : World) (h : n ≠ n2) (h1 : n ≤ 1048576) (h2 : n2 ≤ 1048576) :
    Calls Try.prog 17 #[.slice p n c, .slice p2 n2 c2] w fun e w' => e = .returned (.bool false) ∧ ∃ m, w' = w.drewN m := by
  have hne : ((n : Int) != n2) = true := by simp; omega
  clear h
  go_enter Try.func17, Try.ntmps17
  go_wp2
  go_ret
  exact ⟨rfl, 0, rfl⟩
theorem specSMl_any (a b : List Mt) (v1 v2 : Value) (w : World) (h1 : MeltsAt w v1 a) (h2 : MeltsAt w v2 b) :
    Calls Try.prog 17 #[v1, v2] w fun e w' => e = .returned (.bool (decide (a = b))) ∧ Below w.heap.size w w' := by
  suffices hk : Calls Try.prog 17 #[v1, v2] w fun e w' => e = .returned (.bool (decide (a = b))) ∧ ∃ m, w' = w.drewN m by
    refine hk.mono ?_
    rintro e w' ⟨rfl, m, rfl⟩
    exact ⟨rfl, drewW _ _⟩
  have hl1 := h1.1
  have hl2 := h2.1
  by_cases hl : a.length = b.length
  · by_cases h0 : a.length = 0
    · obtain ⟨p, c, rfl⟩ := melts_form h1
      obtain ⟨p2, c2, rfl⟩ := melts_form h2
      rw [← hl, h0, decide_eq_true (show a = b by rw [List.length_eq_zero_iff.1 h0, List.length_eq_zero_iff.1 (hl.symm.trans h0)])]
      exact specSMl_zero p p2 c c2 w
    · obtain ⟨b1, o1, c1, rfl, hb1, hc1⟩ := melts_cells h1 (by omega)
      obtain ⟨b2, o2, c2, rfl, hb2, hc2⟩ := melts_cells h2 (by omega)
      rw [← hl] at hc2 ⊢
      exact specSMl_some a b b1 o1 c1 b2 o2 c2 _ w (Lib.hid rfl) (Lib.hid hl.symm) hl1 hc1 hc2
  · obtain ⟨p, c, rfl⟩ := melts_form h1
    obtain ⟨p2, c2, rfl⟩ := melts_form h2
    rw [decide_eq_false (fun e => hl (by rw [e]))]
    exact specSMl_len p p2 _ _ c c2 w hl hl1 hl2
set_option maxHeartbeats 2000000 in
theorem equalS_some (a b : List ByteArray) (b1 o1 c1 b2 o2 c2 n : Nat) (w : World) (ha : Hid (a.length = n)) (hb : Hid (b.length = n)) (hn : n ≤ 1048576) (h1 : ∀ j, j < n → w.cell? ⟨b1, o1 + j, none⟩ = some (.string (a.getD j ByteArray.empty))) (h2 : ∀ j, j < n → w.cell? ⟨b2, o2 + j, none⟩ = some (.string (b.getD j ByteArray.empty))) :
    Calls Try.prog 49 #[.slice (some ⟨b1, o1, none⟩) n c1, .slice (some ⟨b2, o2, none⟩) n c2] w fun e w' => e = .returned (.bool (decide (a = b))) ∧ ∃ m, w' = w.drewN m := by
  have H1 := Lib.hid h1
  have H2 := Lib.hid h2
  have hne : ((n : Int) != n) = false := by simp
  clear h1 h2
  go_enter Try.func49, Try.ntmps49
  go_wp2
  go_loopw [13] (fun i wr => ∃ k m : Nat, k ≤ n ∧ i = .int .i64 k ∧ wr = w.drewN m ∧ Hid (∀ j, j < k → a.getD j ByteArray.empty = b.getD j ByteArray.empty)) (fun i _ => n - (intOf i).toNat)
  case atStart => exact ⟨0, 0, by omega, rfl, rfl, Lib.hid (fun j hj => by omega)⟩
  case round =>
    obtain ⟨k, m, hk, rfl, rfl, HA⟩ := hrel
    by_cases hlt : k < n
    · have d1 := H1.out k hlt
      have d2 := H2.out k hlt
      obtain ⟨x, hx⟩ : ∃ x, a.getD k ByteArray.empty = x := ⟨_, rfl⟩
      obtain ⟨y, hy⟩ : ∃ y, b.getD k ByteArray.empty = y := ⟨_, rfl⟩
      rw [hx] at d1
      rw [hy] at d2
      have hlt1 : (k : Int) < (n : Int) := by omega
      by_cases he : x = y
      · subst he
        have HNX := Lib.hid (show ∀ j, j < k + 1 → a.getD j ByteArray.empty = b.getD j ByteArray.empty from fun j hj => by
          by_cases e : j = k
          · subst e; rw [hx, hy]
          · exact HA.out j (by omega))
        have hz : (x.toList != x.toList) = false := by simp
        clear hx hy
        go_wp2
        go_quiet (fail)
        go_wp2
        go_roundw
        case rel => exact ⟨k + 1, _, by omega, by go_num, rfl, HNX⟩
        case measure => simp [intOf]; omega
      · have HF := Lib.hid (show decide (a = b) = false from decide_eq_false (fun e => he (by rw [← hx, ← hy, e])))
        have hz := ba_ne he
        have hzz := ba_neq he
        clear hx hy he
        go_wp2
        go_quiet (fail)
        go_wp2
        go_ret
        exact ⟨ret_bW HF.out.symm, _, by first | rfl | rw [World.drewN_drewN]⟩
    · obtain rfl : k = n := by omega
      have HF := Lib.hid (show decide (a = b) = true from decide_eq_true (list_same ha.out hb.out HA.out))
      go_wp2
      go_ret
      exact ⟨ret_bW HF.out.symm, _, rfl⟩
theorem equalS_zero (p p2 : Option Addr) (c c2 : Nat) (w : World) :
    Calls Try.prog 49 #[.slice p 0 c, .slice p2 0 c2] w fun e w' => e = .returned (.bool true) ∧ ∃ m, w' = w.drewN m := by
  go_enter Try.func49, Try.ntmps49
  go_wp2
  refine wp_loop_rounds 1 ?_
  rw [rounds_succ]
  go_wp2
  go_ret
  exact ⟨rfl, 0, rfl⟩
theorem equalS_len (p p2 : Option Addr) (n n2 c c2 : Nat) (w : World) (h : n ≠ n2) (h1 : n ≤ 1048576) (h2 : n2 ≤ 1048576) :
    Calls Try.prog 49 #[.slice p n c, .slice p2 n2 c2] w fun e w' => e = .returned (.bool false) ∧ ∃ m, w' = w.drewN m := by
  have hne : ((n : Int) != n2) = true := by simp; omega
  clear h
  go_enter Try.func49, Try.ntmps49
  go_wp2
  go_ret
  exact ⟨rfl, 0, rfl⟩
theorem equalS_any (a b : List ByteArray) (v1 v2 : Value) (w : World) (h1 : StAt w v1 a) (h2 : StAt w v2 b) :
    Calls Try.prog 49 #[v1, v2] w fun e w' => e = .returned (.bool (decide (a = b))) ∧ ∃ m, w' = w.drewN m := by
  have hl1 := h1.1
  have hl2 := h2.1
  by_cases hl : a.length = b.length
  · obtain ⟨_, ⟨p, c, rfl, rfl⟩ | ⟨b1, o1, c1, rfl, hb1, hc1⟩⟩ := h1
    · obtain ⟨p2, c2, rfl⟩ := st_form h2
      obtain rfl : b = [] := List.length_eq_zero_iff.1 (by simpa using hl.symm)
      exact equalS_zero p p2 c c2 w
    · by_cases h0 : a.length = 0
      · obtain ⟨p2, c2, rfl⟩ := st_form h2
        rw [← hl, h0]
        rw [decide_eq_true (show a = b by rw [List.length_eq_zero_iff.1 h0, List.length_eq_zero_iff.1 (hl.symm.trans h0)])]
        exact equalS_zero _ p2 c1 c2 w
      · obtain ⟨_, ⟨p, c, rfl, rfl⟩ | ⟨b2, o2, c2, rfl, hb2, hc2⟩⟩ := h2
        · simp at hl; exact absurd (by rw [hl]; rfl) h0
        · rw [← hl] at hc2 ⊢
          exact equalS_some a b b1 o1 c1 b2 o2 c2 _ w (Lib.hid rfl) (Lib.hid hl.symm) hl1 hc1 hc2
  · obtain ⟨p, c, rfl⟩ := st_form h1
    obtain ⟨p2, c2, rfl⟩ := st_form h2
    rw [decide_eq_false (fun e => hl (by rw [e]))]
    exact equalS_len p p2 _ _ c c2 w hl hl1 hl2
set_option maxHeartbeats 2000000 in
theorem meltSame_any (s s2 : ByteArray) (v v2 : Value) (ss ss2 : List ByteArray) (z z2 : Int) (w : World) (h1 : StAt w v ss) (h2 : StAt w v2 ss2) :
    Calls Try.prog 33 #[.agg #[.string s, v, .int .i64 z], .agg #[.string s2, v2, .int .i64 z2]] w fun e w' => e = .returned (.bool (decide ((s, ss, z) = (s2, ss2, z2)))) ∧ Below w.heap.size w w' := by
  have hba := (below_alT w (.cells #[.string s, v, .int .i64 z] 27)).alloc (by simp) (.cells #[.string s2, v2, .int .i64 z2] 27)
  have H1 := Lib.hid (st_kept hba h1)
  have H2 := Lib.hid (st_kept hba h2)
  have HBA := Lib.hid hba
  obtain ⟨p1, q1, rfl⟩ := st_form h1
  obtain ⟨p2, q2, rfl⟩ := st_form h2
  clear h1 h2 hba
  have HNE := Lib.hid (fun (h : (s, ss, z) ≠ (s2, ss2, z2)) => show decide ((s, ss, z) = (s2, ss2, z2)) = false from decide_eq_false h)
  by_cases he : s = s2
  · subst he
    have hz : (s.toList == s.toList) = true := by simp
    by_cases hm : z = z2
    · subst hm
      have hz2 : (z == z) = true := by simp
      have HF := Lib.hid (show decide ((s, ss, z) = (s, ss2, z)) = decide (ss = ss2) by simp)
      have HW := Lib.hid (equalS_any ss ss2 _ _ _ H1.out H2.out)
      clear HNE
      generalize decide (ss = ss2) = r at *
      generalize ss.length = n1 at *
      generalize ss2.length = n2 at *
      go_enter Try.func33, Try.ntmps33
      go_wp2_with fail
      refine HW.out.mono ?_
      rintro e w2 ⟨rfl, m, rfl⟩
      go_wp2
      go_ret
      exact ⟨ret_bW HF.out.symm, below_of HBA.out (drewW _ _) HBA.out.size⟩
    · have HF := Lib.hid (HNE.out (fun e => hm (by cases e; rfl)))
      have hz2 : (z == z2) = false := by simp [hm]
      clear hm HNE
      generalize ss.length = n1 at *
      generalize ss2.length = n2 at *
      go_enter Try.func33, Try.ntmps33
      go_wp2
      go_ret
      exact ⟨ret_bW HF.out.symm, HBA.out⟩
  · have HF := Lib.hid (HNE.out (fun e => he (by cases e; rfl)))
    have hz := ba_neq he
    clear he HNE
    generalize ss.length = n1 at *
    generalize ss2.length = n2 at *
    go_enter Try.func33, Try.ntmps33
    go_wp2
    go_ret
    exact ⟨ret_bW HF.out.symm, HBA.out⟩
set_option maxRecDepth 20000 in
set_option maxHeartbeats 4000000 in
theorem equalF_some (a b : List Mt) (b1 o1 c1 b2 o2 c2 n : Nat) (w : World) (ha : Hid (a.length = n)) (hb : Hid (b.length = n)) (hn : n ≤ 1048576) (hb1 : b1 < w.heap.size) (hb2 : b2 < w.heap.size) (h1 : ∀ j, j < n → MAt w b1 (o1 + j * 3) (a.getD j zM)) (h2 : ∀ j, j < n → MAt w b2 (o2 + j * 3) (b.getD j zM)) :
    Calls Try.prog 32 #[.slice (some ⟨b1, o1, none⟩) n c1, .slice (some ⟨b2, o2, none⟩) n c2, .func (.func 33) #[] #[]] w fun e w' => e = .returned (.bool (decide (a = b))) ∧ Below w.heap.size w w' := by
  have H1 := Lib.hid h1
  have H2 := Lib.hid h2
  have hne : ((n : Int) != n) = false := by simp
  clear h1 h2
  go_enter Try.func32, Try.ntmps32
  go_wp2
  go_loopw [17] (fun i wr => ∃ k : Nat, k ≤ n ∧ i = .int .i64 k ∧ Hid (∀ j, j < k → a.getD j zM = b.getD j zM) ∧ Below w.heap.size w wr) (fun i _ => n - (intOf i).toNat)
  case atStart => exact ⟨0, by omega, rfl, Lib.hid (fun j hj => by omega), Below.refl _ _⟩
  case round =>
    obtain ⟨k, hk, rfl, HA, hbw⟩ := hrel
    have HB := Lib.hid hbw
    by_cases hlt : k < n
    · obtain ⟨u1, d0, d1, d2, hu1⟩ := mat_kept hbw hb1 (H1.out k hlt)
      obtain ⟨u2, e0, e1, e2, hu2⟩ := mat_kept hbw hb2 (H2.out k hlt)
      obtain ⟨⟨s, ss, z⟩, hx⟩ : ∃ x, a.getD k zM = x := ⟨_, rfl⟩
      obtain ⟨⟨s2, ss2, z2⟩, hy⟩ : ∃ y, b.getD k zM = y := ⟨_, rfl⟩
      rw [hx] at d0 d2 hu1
      rw [hy] at e0 e2 hu2
      simp only at d0 d2 hu1 e0 e2 hu2
      have hlt1 : (k : Int) < (n : Int) := by omega
      have hk0 : (0 : Int) ≤ (k : Int) := by omega
      have hl1 : b1 < wr.heap.size := Nat.lt_of_lt_of_le hb1 hbw.size
      have hl2 : b2 < wr.heap.size := Nat.lt_of_lt_of_le hb2 hbw.size
      have HBA := Lib.hid ((below_alT wr (.cells #[.string s, u1, .int .i64 z] 27)).alloc (by simp) (.cells #[.string s2, u2, .int .i64 z2] 27))
      have HU1 := Lib.hid (st_kept HBA.out hu1)
      have HU2 := Lib.hid (st_kept HBA.out hu2)
      have HW := Lib.hid (meltSame_any s s2 u1 u2 ss ss2 z z2 _ HU1.out HU2.out)
      obtain ⟨p1, q1, rfl⟩ := st_form hu1
      obtain ⟨p2, q2, rfl⟩ := st_form hu2
      have g0 : (wr.alloc (.cells #[.string s, .slice p1 ss.length q1, .int .i64 z] 27)).cell? ⟨b2, o2 + k * 3, none⟩ = some (.string s2) := (below_cell (below_alT _ _) _ _ hl2).trans e0
      have g1 : (wr.alloc (.cells #[.string s, .slice p1 ss.length q1, .int .i64 z] 27)).cell? ⟨b2, o2 + k * 3 + 1, none⟩ = some (.slice p2 ss2.length q2) := (below_cell (below_alT _ _) _ _ hl2).trans e1
      have g2 : (wr.alloc (.cells #[.string s, .slice p1 ss.length q1, .int .i64 z] 27)).cell? ⟨b2, o2 + k * 3 + 2, none⟩ = some (.int .i64 z2) := (below_cell (below_alT _ _) _ _ hl2).trans e2
      have HNX := Lib.hid (fun (h : (s, ss, z) = (s2, ss2, z2)) => show ∀ j, j < k + 1 → a.getD j zM = b.getD j zM from fun j hj => by
        by_cases e : j = k
        · subst e; rw [hx, hy, h]
        · exact HA.out j (by omega))
      have HNE := Lib.hid (fun (h : (s, ss, z) ≠ (s2, ss2, z2)) => show decide (a = b) = false from decide_eq_false (fun e => h (by rw [← hx, ← hy, e])))
      clear hu1 hu2 hx hy hbw
      by_cases he : (s, ss, z) = (s2, ss2, z2)
      · have HT := Lib.hid (show decide ((s, ss, z) = (s2, ss2, z2)) = true from decide_eq_true he)
        have HN := Lib.hid (HNX.out he)
        rw [HT.out] at HW
        clear HNX HNE he HU1 HU2
        generalize ss.length = n1 at *
        generalize ss2.length = n2 at *
        go_wp2_with fail
        refine HW.out.mono ?_
        rintro e w2 ⟨rfl, hb⟩
        have HB2 := Lib.hid (below_of (below_of HB.out HBA.out HB.out.size) hb (below_of HB.out HBA.out HB.out.size).size)
        clear hb
        go_wp2
        go_roundw
        case rel => exact ⟨k + 1, by omega, by go_num, HN, HB2.out⟩
        case measure => simp [intOf]; omega
      · have HT := Lib.hid (show decide ((s, ss, z) = (s2, ss2, z2)) = false from decide_eq_false he)
        have HF := Lib.hid (HNE.out he)
        rw [HT.out] at HW
        clear HNX HNE he HU1 HU2
        generalize ss.length = n1 at *
        generalize ss2.length = n2 at *
        go_wp2_with fail
        refine HW.out.mono ?_
        rintro e w2 ⟨rfl, hb⟩
        have HB2 := Lib.hid (below_of (below_of HB.out HBA.out HB.out.size) hb (below_of HB.out HBA.out HB.out.size).size)
        clear hb
        go_wp2
        go_ret
        exact ⟨ret_bW HF.out.symm, HB2.out⟩
    · obtain rfl : k = n := by omega
      have HF := Lib.hid (show decide (a = b) = true from decide_eq_true (list_same ha.out hb.out HA.out))
      clear hbw
      go_wp2
      go_ret
      exact ⟨ret_bW HF.out.symm, HB.out⟩
theorem equalF_zero (p p2 : Option Addr) (c c2 : Nat) (w : World) :
    Calls Try.prog 32 #[.slice p 0 c, .slice p2 0 c2, .func (.func 33) #[] #[]] w fun e w' => e = .returned (.bool true) ∧ Below w.heap.size w w' := by
  go_enter Try.func32, Try.ntmps32
  go_wp2
  refine wp_loop_rounds 1 ?_
  rw [rounds_succ]
  go_wp2
  go_ret
  exact ⟨rfl, Below.refl _ _⟩
theorem equalF_len (p p2 : Option Addr) (n n2 c c2 : Nat) (w : World) (h : n ≠ n2) (h1 : n ≤ 1048576) (h2 : n2 ≤ 1048576) :
    Calls Try.prog 32 #[.slice p n c, .slice p2 n2 c2, .func (.func 33) #[] #[]] w fun e w' => e = .returned (.bool false) ∧ Below w.heap.size w w' := by
  have hne : ((n : Int) != n2) = true := by simp; omega
  clear h
  go_enter Try.func32, Try.ntmps32
  go_wp2
  go_ret
  exact ⟨rfl, Below.refl _ _⟩
theorem equalF_any (a b : List Mt) (v1 v2 : Value) (w : World) (h1 : MeltsAt w v1 a) (h2 : MeltsAt w v2 b) :
    Calls Try.prog 32 #[v1, v2, .func (.func 33) #[] #[]] w fun e w' => e = .returned (.bool (decide (a = b))) ∧ Below w.heap.size w w' := by
  have hl1 := h1.1
  have hl2 := h2.1
  by_cases hl : a.length = b.length
  · by_cases h0 : a.length = 0
    · obtain ⟨p, c, rfl⟩ := melts_form h1
      obtain ⟨p2, c2, rfl⟩ := melts_form h2
      rw [← hl, h0, decide_eq_true (show a = b by rw [List.length_eq_zero_iff.1 h0, List.length_eq_zero_iff.1 (hl.symm.trans h0)])]
      exact equalF_zero p p2 c c2 w
    · obtain ⟨b1, o1, c1, rfl, hb1, hc1⟩ := melts_cells h1 (by omega)
      obtain ⟨b2, o2, c2, rfl, hb2, hc2⟩ := melts_cells h2 (by omega)
      rw [← hl] at hc2 ⊢
      exact equalF_some a b b1 o1 c1 b2 o2 c2 _ w (Lib.hid rfl) (Lib.hid hl.symm) hl1 hb1 hb2 hc1 hc2
  · obtain ⟨p, c, rfl⟩ := melts_form h1
    obtain ⟨p2, c2, rfl⟩ := melts_form h2
    rw [decide_eq_false (fun e => hl (by rw [e]))]
    exact equalF_len p p2 _ _ c c2 w hl hl1 hl2
theorem implSMl_any (a b : List Mt) (v1 v2 : Value) (w : World) (h1 : MeltsAt w v1 a) (h2 : MeltsAt w v2 b) :
    Calls Try.prog 18 #[v1, v2] w fun e w' => e = .returned (.bool (decide (a = b))) ∧ Below w.heap.size w w' := by
  have HC := Lib.hid (equalF_any a b v1 v2 w h1 h2)
  obtain ⟨p, c, rfl⟩ := melts_form h1
  obtain ⟨p2, c2, rfl⟩ := melts_form h2
  clear h1 h2
  generalize decide (a = b) = r at *
  generalize a.length = n1 at *
  generalize b.length = n2 at *
  go_enter Try.func18, Try.ntmps18
  go_wp2_with fail
  refine HC.out.mono ?_
  rintro e w2 ⟨rfl, hb⟩
  have HB := Lib.hid hb
  clear hb
  go_wp2
  go_ret
  exact ⟨rfl, HB.out⟩
end Go.Proofs.Ytjicnfgpbbganaa
