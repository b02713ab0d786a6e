/- Spots: when they are valid; the reference model's answer. -/
import Derived.Test.YtlhbjchanalnaaaDoorSpots
import Derived.Test.YtlhbjchanalnaaaDoorWithin
import Derived.Deep.QuietTactic
import Derived.BigQuiet
import Derived.Deep.RegionWith
import Derived.Deep.Draws
set_option linter.unusedVariables false
namespace Go.Proofs.YtlhbjchanalnaaaDoor
open Go.ChangeShapes Go.WideShapes Go.ChangeAt Go.RowKit

def wgtB (y : Int) : Bool := decide (y ≠ 0) && inB y (-1000) 1000
def spotB (r : Qt) : Bool := inB r.1 0 359 && wgtB r.2
theorem wgt_iff {y : Int} : wgtB y = true ↔ y ≠ 0 ∧ -1000 ≤ y ∧ y ≤ 1000 := by simp [wgtB, inB_iff]
theorem spot_iff {r : Qt} : spotB r = true ↔ (0 ≤ r.1 ∧ r.1 ≤ 359) ∧ r.2 ≠ 0 ∧ -1000 ≤ r.2 ∧ r.2 ≤ 1000 := by simp [spotB, inB_iff, wgt_iff]
/-- Spot i of a list is one, and it lies behind the one before it. -/
def okQ (rs : List Qt) (i : Nat) : Bool := spotB (rs.getD i zQ) && (decide (i = 0) || decide ((rs.getD (i - 1) zQ).1 < (rs.getD i zQ).1))
def chainQ (rs : List Qt) : Bool := (List.range rs.length).all (okQ rs)
def spotsB (rs : List Qt) : Bool := decide (rs.length ≤ 16) && chainQ rs
theorem chainQ_iff {rs : List Qt} : chainQ rs = true ↔ ∀ i, i < rs.length → okQ rs i = true := by simp [chainQ]
theorem spots_iff {rs : List Qt} : spotsB rs = true ↔ rs.length ≤ 16 ∧ ∀ i, i < rs.length → okQ rs i = true := by unfold spotsB; rw [Bool.and_eq_true, decide_eq_true_eq, chainQ_iff]
theorem spots_no {rs : List Qt} {i : Nat} (hi : i < rs.length) (h : okQ rs i = false) : spotsB rs = false := by
  rcases Bool.eq_false_or_eq_true (spotsB rs) with hc | hc
  · have := (spots_iff.1 hc).2 i hi
    rw [h] at this; cases this
  · exact hc
theorem spots_end {rs : List Qt} (h : ∀ i, i < rs.length → okQ rs i = true) : spotsB rs = decide (rs.length ≤ 16) := by unfold spotsB; rw [chainQ_iff.2 h, Bool.and_true]
theorem spots_long {rs : List Qt} (h : 16 < rs.length) : spotsB rs = false := by unfold spotsB; rw [decide_eq_false (by omega)]; rfl
theorem okQ_yes {rs : List Qt} {i : Nat} (h : okQ rs i = true) : spotB (rs.getD i zQ) = true := by unfold okQ at h; rw [Bool.and_eq_true] at h; exact h.1
theorem okQ_lt {rs : List Qt} {i : Nat} (h0 : 0 < i) (h : okQ rs i = true) : (rs.getD (i - 1) zQ).1 < (rs.getD i zQ).1 := by
  unfold okQ at h; rw [Bool.and_eq_true, decide_eq_false (by omega), Bool.false_or, decide_eq_true_eq] at h; exact h.2
theorem qin_drew {w : World} {b o n : Nat} {r : Qt} (h : QIn w b o r) : QIn (w.drewN n) b o r := ⟨h.c0, h.c1⟩
theorem cellI1Q (w : World) (x : Int) (T : TypeId) (n : Nat) (hn : n = w.heap.size) : ∀ j, j < 1 → (w.alloc (.cells #[.int .i64 x] T)).cell? ⟨n, 0 + j, none⟩ = some (.int .i64 ([x].getD j 0)) := by
  subst hn
  intro j hj
  match j, hj with
  | 0, _ => go_simp
theorem allI1Q (lo hi c : Int) : allIn lo hi [c] = inB c lo hi := by simp [allIn]
theorem retQ_b {a b : Bool} (h : a = b) : Ending.returned (.bool a) = .returned (.bool b) := by rw [h]
theorem quiet_moreQ {P : Program} {f : FuncId} {args : Array Value} {w : World} {m x : Nat} {v v' : Value} (hv : v' = v)
    (h : Calls P f args (w.drewN (m + x)) fun e w' => e = .returned v' ∧ ∃ k, w' = (w.drewN (m + x)).drewN k) : Calls P f args (w.drewN (m + x)) fun e w'' => e = .returned v ∧ ∃ n, w'' = w.drewN (m + n) :=
  h.mono fun _ _ ⟨he, k, hk⟩ => ⟨by rw [he, hv], x + k, by rw [hk, World.drewN_drewN, Nat.add_assoc]⟩
theorem l12Weight_any (y : Int) (w : World) :
    Calls Tryd.prog 23 #[.int .i64 y] w fun e w' => e = .returned (.bool (wgtB y)) ∧ w = w' := by
  by_cases h0 : y = 0
  · subst h0
    go_enter Tryd.func23, Tryd.ntmps23
    go_wp2
    go_ret
    exact ⟨rfl, rfl⟩
  · have HF := Lib.hid (show wgtB y = inB y (-1000) 1000 by unfold wgtB; rw [decide_eq_true h0]; rfl)
    have hne : (y != 0) = true := by simpa using h0
    clear h0
    go_enter Tryd.func23, Tryd.ntmps23
    go_wp2_with fail
    refine (l00In_any _ _ _ _).mono ?_
    rintro e w2 ⟨rfl, rfl⟩
    go_wp2
    go_ret
    exact ⟨retQ_b HF.out.symm, rfl⟩
set_option maxHeartbeats 1000000 in
theorem l12One_any (x y : Int) (b o : Nat) (w : World) (h : QIn w b o (x, y)) :
    Calls Tryd.prog 17 #[.pointer (some ⟨b, o, none⟩)] w fun e w' => e = .returned (.bool (spotB (x, y))) ∧ w = w' := by
  have c0 : w.cell? ⟨b, o, none⟩ = some (.int .i64 x) := h.c0
  have c1 : w.cell? ⟨b, o + 1, none⟩ = some (.int .i64 y) := h.c1
  clear h
  rcases Bool.eq_false_or_eq_true (inB x 0 359) with h1 | h1
  · have HF := Lib.hid (show spotB (x, y) = wgtB y by unfold spotB; rw [h1]; rfl)
    have H1 := Lib.hid h1
    clear h1
    go_enter Tryd.func17, Tryd.ntmps17
    go_wp2_with fail
    refine (l00In_any _ _ _ _).mono ?_
    rintro e w2 ⟨rfl, rfl⟩
    rw [H1.out]
    go_wp2_with fail
    refine (l12Weight_any _ _).mono ?_
    rintro e w2 ⟨rfl, rfl⟩
    generalize wgtB y = c at *
    go_wp2
    go_ret
    exact ⟨retQ_b HF.out.symm, rfl⟩
  · have HF := Lib.hid (show spotB (x, y) = false by unfold spotB; rw [h1]; rfl)
    have H1 := Lib.hid h1
    clear h1
    go_enter Tryd.func17, Tryd.ntmps17
    go_wp2_with fail
    refine (l00In_any _ _ _ _).mono ?_
    rintro e w2 ⟨rfl, rfl⟩
    rw [H1.out]
    go_wp2
    go_ret
    exact ⟨retQ_b HF.out.symm, rfl⟩
set_option maxRecDepth 20000 in
set_option maxHeartbeats 4000000 in
theorem l12Ok_some (b off cap n : Nat) (rs : List Qt) (w : World) (hn : Hid (rs.length = n)) (hn0 : n ≤ 1048576) (hc : ∀ i, i < n → QIn w b (off + i * 2) (rs.getD i zQ)) :
    Calls Tryd.prog 11 #[.slice (some ⟨b, off, none⟩) n cap] w fun e w' => e = .returned (.bool (spotsB rs)) ∧ ∃ m, w' = w.drewN m := by
  have HC := Lib.hid hc
  have HNO := Lib.hid (fun i (hi : i < rs.length) h => spots_no (rs := rs) (i := i) hi h)
  clear hc
  go_enter Tryd.func11, Tryd.ntmps11
  go_wp2
  go_loopw [3] (fun i wr => ∃ k m : Nat, k ≤ n ∧ i = .int .i64 k ∧ wr = w.drewN m ∧ Hid (∀ j, j < k → okQ rs j = true)) (fun i _ => n - (intOf i).toNat)
  case atStart => exact ⟨0, 0, by omega, rfl, rfl, Lib.hid (fun j hj => by omega)⟩
  case round =>
    obtain ⟨k, m, hk, rfl, rfl, HA⟩ := hrel
    by_cases hlt : k < n
    · have hr := HC.out k hlt
      obtain ⟨⟨x, y⟩, hxy⟩ : ∃ r, rs.getD k zQ = r := ⟨_, rfl⟩
      have hkm : (k : Int) < (n : Int) := by omega
      have hk0 : (0 : Int) ≤ (k : Int) := by omega
      rw [hxy] at hr
      have HRK := Lib.hid hr
      rcases Bool.eq_false_or_eq_true (spotB (x, y)) with h4 | h4
      · have H4 := Lib.hid h4
        match hk' : k with
        | 0 =>
          have HOK := Lib.hid (show okQ rs 0 = true by unfold okQ; rw [hxy, h4]; rfl)
          have HR0 := Lib.hid (show QIn w b off (x, y) by simpa using hr)
          clear hr hxy h4 HRK
          go_wp2
          go_quiet ((go_at_call 17; exact quiet_moreQ (by rw [H4.out]) ((l12One_any x y b _ _ (qin_drew HR0.out)).mono (fun _ _ h => ⟨h.1, 0, h.2.symm⟩))))
          go_wp2
          go_roundw
          case rel => exact ⟨1, _, by omega, by go_num, rfl, Lib.hid (fun j hj => by obtain rfl : j = 0 := (by omega); exact HOK.out)⟩
          case measure => simp [intOf]; omega
        | q + 1 =>
          have hr2 := HC.out q (by omega)
          obtain ⟨⟨x2, y2⟩, hx2⟩ : ∃ r, rs.getD q zQ = r := ⟨_, rfl⟩
          rw [hx2] at hr2
          have d0 : w.cell? ⟨b, off + (q + 1) * 2, none⟩ = some (.int .i64 x) := hr.c0
          have e0 : w.cell? ⟨b, off + q * 2, none⟩ = some (.int .i64 x2) := hr2.c0
          have hg : (0 : Int) < ((q + 1 : Nat) : Int) := by omega
          have hs : (((q + 1 : Nat) : Int) - 1) = (q : Int) := by omega
          have hq0 : (0 : Int) ≤ (q : Int) := by omega
          have hq1 : (q : Int) < (n : Int) := by omega
          by_cases h5 : x2 < x
          · have h6 : ¬ x ≤ x2 := by omega
            have HOK := Lib.hid (show okQ rs (q + 1) = true by unfold okQ; rw [hxy, h4, Nat.add_sub_cancel, hx2]; simp [h5])
            clear hr hr2 hx2 hxy h4
            go_wp2
            go_quiet ((go_at_call 17; exact quiet_moreQ (by rw [H4.out]) ((l12One_any x y b _ _ (qin_drew HRK.out)).mono (fun _ _ h => ⟨h.1, 0, h.2.symm⟩))))
            go_wp2
            go_roundw
            case rel => exact ⟨q + 2, _, by omega, by go_num, rfl, Lib.hid (fun j hj => by
              by_cases e : j = q + 1
              · subst e; exact HOK.out
              · exact HA.out j (by omega))⟩
            case measure => simp [intOf]; omega
          · have h6 : x ≤ x2 := by omega
            have HF := Lib.hid (HNO.out (q + 1) (by rw [hn.out]; exact hlt) (by unfold okQ; rw [hxy, h4, Nat.add_sub_cancel, hx2]; simp [h5]))
            clear hr hr2 hx2 hxy h4
            go_wp2
            go_quiet ((go_at_call 17; exact quiet_moreQ (by rw [H4.out]) ((l12One_any x y b _ _ (qin_drew HRK.out)).mono (fun _ _ h => ⟨h.1, 0, h.2.symm⟩))))
            go_wp2
            go_ret
            exact ⟨retQ_b HF.out.symm, _, by first | rfl | rw [World.drewN_drewN]⟩
      · have H4 := Lib.hid h4
        have HF := Lib.hid (HNO.out k (by rw [hn.out]; exact hlt) (by unfold okQ; rw [hxy, h4]; rfl))
        clear hr hxy h4
        go_wp2
        go_quiet ((go_at_call 17; exact quiet_moreQ (by rw [H4.out]) ((l12One_any x y b _ _ (qin_drew HRK.out)).mono (fun _ _ h => ⟨h.1, 0, h.2.symm⟩))))
        go_wp2
        go_ret
        exact ⟨retQ_b HF.out.symm, _, by first | rfl | rw [World.drewN_drewN]⟩
    · obtain rfl : k = n := by omega
      have HF := Lib.hid (show spotsB rs = decide ((k : Int) ≤ 16) by
        rw [spots_end (fun j hj => HA.out j (by rw [hn.out] at hj; exact hj)), hn.out]
        rw [decide_eq_decide]; omega)
      go_wp2
      go_ret
      exact ⟨retQ_b HF.out.symm, _, rfl⟩
theorem l12Ok_none (a : Option Addr) (c : Nat) (w : World) :
    Calls Tryd.prog 11 #[.slice a 0 c] w fun e w' => e = .returned (.bool (spotsB [])) ∧ ∃ m, w' = w.drewN m := by
  go_enter Tryd.func11, Tryd.ntmps11
  go_wp2
  refine wp_loop_rounds 1 ?_
  rw [rounds_succ]
  go_wp2
  go_ret
  exact ⟨rfl, 0, rfl⟩
theorem l12Ok_drew (rs : List Qt) (v : Value) (w : World) (h : SpotsAt w v rs) :
    Calls Tryd.prog 11 #[v] w fun e w' => e = .returned (.bool (spotsB rs)) ∧ ∃ m, w' = w.drewN m := by
  by_cases h0 : rs.length = 0
  · obtain rfl : rs = [] := List.length_eq_zero_iff.1 h0
    obtain ⟨a, c, rfl⟩ := spots_form h
    exact l12Ok_none a c w
  · have hl := h.1
    obtain ⟨b, off, cap, rfl, hb, hc⟩ := spots_cells h (by omega)
    exact l12Ok_some b off cap _ rs w (Lib.hid rfl) hl hc
theorem l12Ok_any (rs : List Qt) (v : Value) (w : World) (h : SpotsAt w v rs) :
    Calls Tryd.prog 11 #[v] w fun e w' => e = .returned (.bool (spotsB rs)) ∧ Below w.heap.size w w' := by
  refine (l12Ok_drew rs v w h).mono ?_
  rintro e w' ⟨rfl, m, rfl⟩
  exact ⟨rfl, below_drewN _ _⟩
end Go.Proofs.YtlhbjchanalnaaaDoor
