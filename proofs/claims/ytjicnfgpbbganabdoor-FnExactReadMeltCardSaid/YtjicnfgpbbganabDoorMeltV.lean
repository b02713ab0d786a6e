/- Melts: when one is valid; the reference model's answer. -/
import Derived.Test.YtjicnfgpbbganabDoorMelts
import Derived.Test.YtjicnfgpbbganabDoorNameSpecE
import Derived.Deep.QuietTactic
import Derived.BigQuiet
import Derived.Laws.Cover1
import Derived.Deep.RegionWith
import Derived.Deep.Draws
set_option linter.unusedVariables false
namespace Go.Proofs.YtjicnfgpbbganabDoor
open Go.ChangeShapes Go.WideShapes Go.ChangeAt Go.RowKit

theorem flipT : ∀ (x y : List UInt8), (Op.bytesLess x y || x == y) = !Op.bytesLess y x
  | [], [] => rfl
  | [], _ :: _ => rfl
  | _ :: _, [] => rfl
  | a :: x, b :: y => by
    have ih := flipT x y
    by_cases h1 : a < b
    · have h2 : ¬ b < a := by rw [UInt8.lt_iff_toNat_lt] at *; omega
      have h3 : ¬ b = a := by rintro rfl; rw [UInt8.lt_iff_toNat_lt] at h1; omega
      simp [Op.bytesLess, h1, h2, h3]
    · by_cases h2 : a = b
      · subst h2
        simp [Op.bytesLess, h1]
        simpa using ih
      · have h3 : b < a := by
          rw [UInt8.lt_iff_toNat_lt] at *
          have : a.toNat ≠ b.toNat := fun e => h2 (UInt8.toNat_inj.1 e)
          omega
        simp [Op.bytesLess, h1, h2, h3]
def lessT (a b : ByteArray) : Bool := Op.bytesLess a.toList b.toList
/-- Name i of a list is one, and it lies behind the one before it. -/
def okN (ss : List ByteArray) (i : Nat) : Bool := nameB (ss.getD i ByteArray.empty) && (decide (i = 0) || lessT (ss.getD (i - 1) ByteArray.empty) (ss.getD i ByteArray.empty))
def chainN (ss : List ByteArray) : Bool := (List.range ss.length).all (okN ss)
def namesB (ss : List ByteArray) : Bool := decide (1 ≤ ss.length ∧ ss.length ≤ 16) && chainN ss
def meltB (s : ByteArray) (ss : List ByteArray) (z : Int) : Bool := nameB s && (namesB ss && inB z 1 320000000)
theorem chainN_iff {ss : List ByteArray} : chainN ss = true ↔ ∀ i, i < ss.length → okN ss i = true := by simp [chainN]
theorem chainN_no {ss : List ByteArray} {i : Nat} (hi : i < ss.length) (h : okN ss i = false) : chainN ss = false := by
  rcases Bool.eq_false_or_eq_true (chainN ss) with hc | hc
  · have := chainN_iff.1 hc i hi
    rw [h] at this; cases this
  · exact hc
theorem namesB_len {ss : List ByteArray} (h : ¬ (1 ≤ ss.length ∧ ss.length ≤ 16)) : namesB ss = false := by unfold namesB; rw [decide_eq_false h]; rfl
theorem namesB_in {ss : List ByteArray} (h : 1 ≤ ss.length ∧ ss.length ≤ 16) : namesB ss = chainN ss := by unfold namesB; rw [decide_eq_true h]; rfl
theorem meltB_iff {s : ByteArray} {ss : List ByteArray} {z : Int} : meltB s ss z = true ↔ nameB s = true ∧ namesB ss = true ∧ 1 ≤ z ∧ z ≤ 320000000 := by simp [meltB, inB_iff]
theorem retT_b {a b : Bool} (h : a = b) : Ending.returned (.bool a) = .returned (.bool b) := by rw [h]
theorem drewT (w : World) (m : Nat) : Below w.heap.size w (w.drewN m) := ⟨rfl, rfl, rfl, Nat.le_refl _, fun _ _ => rfl⟩
theorem quiet_moreT {P : Program} {f : FuncId} {args : Array Value} {w : World} {m x : Nat} {v v' : Value} (hv : v' = v)
    (h : Calls P f args (w.drewN (m + x)) fun e w' => e = .returned v' ∧ w.drewN (m + x) = w') : Calls P f args (w.drewN (m + x)) fun e w'' => e = .returned v ∧ ∃ n, w'' = w.drewN (m + n) :=
  h.mono fun _ _ ⟨he, hk⟩ => ⟨by rw [he, hv], x, hk.symm⟩
set_option maxRecDepth 20000 in
set_option maxHeartbeats 4000000 in
theorem l14One_loop (b o : Nat) (s : ByteArray) (ss : List ByteArray) (b2 off cap n : Nat) (z : Int) (w : World) (hn : Hid (ss.length = n)) (hn0 : 1 ≤ n) (hn1 : n ≤ 16) (c0 : w.cell? ⟨b, o, none⟩ = some (.string s)) (c1 : w.cell? ⟨b, o + 1, none⟩ = some (.slice (some ⟨b2, off, none⟩) n cap)) (c2 : w.cell? ⟨b, o + 2, none⟩ = some (.int .i64 z)) (hc : ∀ j, j < n → w.cell? ⟨b2, off + j, none⟩ = some (.string (ss.getD j ByteArray.empty)))
    (hs : s.size ≤ maxLen) (hz : SzSt ss) (h1 : Hid (nameB s = true)) (h2 : Hid (inB z 1 320000000 = true)) :
    Calls Tryd.prog 18 #[.pointer (some ⟨b, o, none⟩)] w fun e w' => e = .returned (.bool (chainN ss)) ∧ ∃ m, w' = w.drewN m := by
  have HC := Lib.hid hc
  have HZ := Lib.hid hz
  have HNO := Lib.hid (fun i (hi : i < ss.length) h => chainN_no (ss := ss) (i := i) hi h)
  clear hc hz
  go_enter Tryd.func18, Tryd.ntmps18
  go_wp2_with fail
  refine (specName_any s _ hs).mono ?_
  rintro e w2 ⟨rfl, rfl⟩
  rw [h1.out]
  have hg1 : ¬ (n : Int) < 1 := by omega
  have hg2 : ¬ 16 < (n : Int) := by omega
  go_wp2_with fail
  refine (l00In_any _ _ _ _).mono ?_
  rintro e w2 ⟨rfl, rfl⟩
  rw [h2.out]
  go_wp2
  go_loopw [3] (fun i wr => ∃ k m : Nat, k ≤ n ∧ i = .int .i64 k ∧ wr = w.drewN m ∧ Hid (∀ j, j < k → okN ss j = true)) (fun i _ => n - (intOf i).toNat)
  case atStart => exact ⟨0, 0, by omega, rfl, rfl, Lib.hid (fun j hj => by omega)⟩
  case round =>
    obtain ⟨k, m, hk, rfl, rfl, HA⟩ := hrel
    by_cases hlt : k < n
    · have d0 := HC.out k hlt
      have hs' := HZ.out k (by rw [hn.out]; exact hlt)
      obtain ⟨x, hx⟩ : ∃ x, ss.getD k ByteArray.empty = x := ⟨_, rfl⟩
      have hkm : (k : Int) < (n : Int) := by omega
      have hk0 : (0 : Int) ≤ (k : Int) := by omega
      rw [hx] at d0 hs'
      have HS := Lib.hid (show x.size ≤ maxLen from hs')
      clear hs'
      rcases Bool.eq_false_or_eq_true (nameB x) with h4 | h4
      · have H4 := Lib.hid h4
        match hk' : k with
        | 0 =>
          have HOK := Lib.hid (show okN ss 0 = true by unfold okN; rw [hx, h4]; rfl)
          have d00 : w.cell? ⟨b2, off, none⟩ = some (.string x) := by simpa using d0
          clear hx h4 d0
          go_wp2
          go_quiet ((go_at_call 28; exact quiet_moreT (by rw [H4.out]) (specName_any x _ HS.out)))
          go_wp2
          go_roundw
          case rel => exact ⟨1, _, by omega, by go_num, rfl, Lib.hid (fun j hj => by obtain rfl : j = 0 := (by omega); exact HOK.out)⟩
          case measure => simp [intOf]; omega
        | q + 1 =>
          have e0 := HC.out q (by omega)
          obtain ⟨y, hy⟩ : ∃ y, ss.getD q ByteArray.empty = y := ⟨_, rfl⟩
          rw [hy] at e0
          have hg : (0 : Int) < ((q + 1 : Nat) : Int) := by omega
          have hq : (((q + 1 : Nat) : Int) - 1) = (q : Int) := by omega
          have hq0 : (0 : Int) ≤ (q : Int) := by omega
          have hq1 : (q : Int) < (n : Int) := by omega
          have hq2 : (0 : Int) ≤ (q : Int) + 1 := by omega
          have hqw : IntKind.i64.wrap (q : Int) = (q : Int) := IntWalk.i64_in _ (by omega)
          rcases Bool.eq_false_or_eq_true (Op.bytesLess y.toList x.toList) with h5 | h5
          · have HOK := Lib.hid (show okN ss (q + 1) = true by unfold okN; rw [hx, h4, Nat.add_sub_cancel, hy]; simp [lessT, h5])
            clear hx hy h4
            go_wp2
            go_quiet ((go_at_call 28; exact quiet_moreT (by rw [H4.out]) (specName_any x _ HS.out)))
            go_wp2
            go_roundw
            case rel => exact ⟨q + 2, _, by omega, by go_num, rfl, Lib.hid (fun j hj => by
              by_cases e : j = q + 1
              · subst e; exact HOK.out
              · exact HA.out j (by omega))⟩
            case measure => simp [intOf]; omega
          · have HF := Lib.hid (HNO.out (q + 1) (by rw [hn.out]; exact hlt) (by unfold okN; rw [hx, h4, Nat.add_sub_cancel, hy]; simp [lessT, h5]))
            clear hx hy h4
            go_wp2
            go_quiet ((go_at_call 28; exact quiet_moreT (by rw [H4.out]) (specName_any x _ HS.out)))
            go_wp2
            go_ret
            exact ⟨retT_b HF.out.symm, _, by first | rfl | rw [World.drewN_drewN]⟩
      · have H4 := Lib.hid h4
        have HF := Lib.hid (HNO.out k (by rw [hn.out]; exact hlt) (by unfold okN; rw [hx, h4]; rfl))
        clear hx h4
        go_wp2
        go_quiet ((go_at_call 28; exact quiet_moreT (by rw [H4.out]) (specName_any x _ HS.out)))
        go_wp2
        go_ret
        exact ⟨retT_b HF.out.symm, _, by first | rfl | rw [World.drewN_drewN]⟩
    · obtain rfl : k = n := by omega
      have HF := Lib.hid (chainN_iff.2 (fun j hj => HA.out j (by rw [hn.out] at hj; exact hj)))
      go_wp2
      go_ret
      exact ⟨retT_b HF.out.symm, _, rfl⟩
set_option maxHeartbeats 1000000 in
theorem l14One_at (b o : Nat) (s : ByteArray) (v : Value) (ss : List ByteArray) (z : Int) (w : World) (c0 : w.cell? ⟨b, o, none⟩ = some (.string s)) (c1 : w.cell? ⟨b, o + 1, none⟩ = some v) (c2 : w.cell? ⟨b, o + 2, none⟩ = some (.int .i64 z)) (hv : StAt w v ss) (hs : s.size ≤ maxLen) (hz : SzSt ss) :
    Calls Tryd.prog 18 #[.pointer (some ⟨b, o, none⟩)] w fun e w' => e = .returned (.bool (meltB s ss z)) ∧ ∃ m, w' = w.drewN m := by
  rcases Bool.eq_false_or_eq_true (nameB s) with h1 | h1
  · have H1 := Lib.hid h1
    by_cases hl : 1 ≤ ss.length ∧ ss.length ≤ 16
    · rcases Bool.eq_false_or_eq_true (inB z 1 320000000) with h2 | h2
      · rw [show meltB s ss z = chainN ss by unfold meltB; rw [h1, h2, namesB_in hl, Bool.true_and, Bool.and_true]]
        obtain ⟨_, ⟨a, c, rfl, rfl⟩ | ⟨b2, off, cap, rfl, hb, hc⟩⟩ := hv
        · simp at hl
        · exact l14One_loop b o s ss b2 off cap _ z w (Lib.hid rfl) hl.1 hl.2 c0 c1 c2 hc hs hz H1 (Lib.hid h2)
      · have H2 := Lib.hid h2
        have HF := Lib.hid (show meltB s ss z = false by unfold meltB; rw [h2, Bool.and_false, Bool.and_false])
        obtain ⟨a, c, rfl⟩ := st_form hv
        obtain ⟨hl1, hl2⟩ := hl
        clear hv h1 h2 hz
        generalize ss.length = n at *
        have hg1 : ¬ (n : Int) < 1 := by omega
        have hg2 : ¬ 16 < (n : Int) := by omega
        go_enter Tryd.func18, Tryd.ntmps18
        go_wp2_with fail
        refine (specName_any s _ hs).mono ?_
        rintro e w2 ⟨rfl, rfl⟩
        rw [H1.out]
        go_wp2_with fail
        refine (l00In_any _ _ _ _).mono ?_
        rintro e w2 ⟨rfl, rfl⟩
        rw [H2.out]
        go_wp2
        go_ret
        exact ⟨retT_b HF.out.symm, 0, rfl⟩
    · have HF := Lib.hid (show meltB s ss z = false by unfold meltB; rw [namesB_len hl, Bool.false_and, Bool.and_false])
      obtain ⟨a, c, rfl⟩ := st_form hv
      have hlong := hv.1
      clear hv h1 hz
      generalize ss.length = n at *
      by_cases hn1 : n < 1
      · have hg1 : (n : Int) < 1 := by omega
        go_enter Tryd.func18, Tryd.ntmps18
        go_wp2_with fail
        refine (specName_any s _ hs).mono ?_
        rintro e w2 ⟨rfl, rfl⟩
        rw [H1.out]
        go_wp2
        go_ret
        exact ⟨retT_b HF.out.symm, 0, rfl⟩
      · have hg1 : ¬ (n : Int) < 1 := by omega
        have hg2 : 16 < (n : Int) := by omega
        go_enter Tryd.func18, Tryd.ntmps18
        go_wp2_with fail
        refine (specName_any s _ hs).mono ?_
        rintro e w2 ⟨rfl, rfl⟩
        rw [H1.out]
        go_wp2
        go_ret
        exact ⟨retT_b HF.out.symm, 0, rfl⟩
  · have H1 := Lib.hid h1
    have HF := Lib.hid (show meltB s ss z = false by unfold meltB; rw [h1]; rfl)
    clear h1
    go_enter Tryd.func18, Tryd.ntmps18
    go_wp2_with fail
    refine (specName_any s _ hs).mono ?_
    rintro e w2 ⟨rfl, rfl⟩
    rw [H1.out]
    go_wp2
    go_ret
    exact ⟨retT_b HF.out.symm, 0, rfl⟩
theorem l14One_any (b o : Nat) (r : Mt) (w : World) (h : MAt w b o r) (hs : r.1.size ≤ maxLen) (hz : SzSt r.2.1) :
    Calls Tryd.prog 18 #[.pointer (some ⟨b, o, none⟩)] w fun e w' => e = .returned (.bool (meltB r.1 r.2.1 r.2.2)) ∧ ∃ m, w' = w.drewN m := by
  obtain ⟨u, c0, c1, c2, hu⟩ := h
  exact l14One_at b o r.1 u r.2.1 r.2.2 w c0 c1 c2 hu hs hz
end Go.Proofs.YtjicnfgpbbganabDoor
