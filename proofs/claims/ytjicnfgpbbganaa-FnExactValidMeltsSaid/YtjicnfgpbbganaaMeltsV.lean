/- Lists of melts: when one is valid; the reference model's answer. -/
import Derived.Test.YtjicnfgpbbganaaMeltV
import Derived.Test.YtjicnfgpbbganaaMeltW
set_option linter.unusedVariables false
namespace Go.Proofs.Ytjicnfgpbbganaa
open Go.ChangeShapes Go.WideShapes Go.ChangeAt Go.RowKit

/-- Two lists of names have one in common. -/
def commB (a b : List ByteArray) : Bool := a.any fun x => b.any fun y => decide (x = y)
def mokB (r : Mt) : Bool := meltB r.1 r.2.1 r.2.2
def freeM (ms : List Mt) (i : Nat) : Bool := (List.range i).all fun k => !commB (ms.getD k zM).2.1 (ms.getD i zM).2.1
def okM (ms : List Mt) (i : Nat) : Bool := mokB (ms.getD i zM) && ((decide (i = 0) || lessT (ms.getD (i - 1) zM).1 (ms.getD i zM).1) && freeM ms i)
def chainM (ms : List Mt) : Bool := (List.range ms.length).all (okM ms)
def meltsB (ms : List Mt) : Bool := decide (ms.length ≤ 12) && chainM ms
theorem chainM_iff {ms : List Mt} : chainM ms = true ↔ ∀ i, i < ms.length → okM ms i = true := by simp [chainM]
theorem meltsB_iff {ms : List Mt} : meltsB ms = true ↔ ms.length ≤ 12 ∧ ∀ i, i < ms.length → okM ms i = true := by unfold meltsB; rw [Bool.and_eq_true, decide_eq_true_eq, chainM_iff]
theorem meltsB_no {ms : List Mt} {i : Nat} (hi : i < ms.length) (h : okM ms i = false) : meltsB ms = false := by
  rcases Bool.eq_false_or_eq_true (meltsB ms) with hc | hc
  · have := (meltsB_iff.1 hc).2 i hi
    rw [h] at this; cases this
  · exact hc
theorem meltsB_end {ms : List Mt} (h : ∀ i, i < ms.length → okM ms i = true) : meltsB ms = decide (ms.length ≤ 12) := by unfold meltsB; rw [chainM_iff.2 h, Bool.and_true]
theorem meltsB_long {ms : List Mt} (h : 12 < ms.length) : meltsB ms = false := by unfold meltsB; rw [decide_eq_false (by omega)]; rfl
theorem freeM_iff {ms : List Mt} {i : Nat} : freeM ms i = true ↔ ∀ k, k < i → commB (ms.getD k zM).2.1 (ms.getD i zM).2.1 = false := by simp [freeM]
theorem freeM_no {ms : List Mt} {i k : Nat} (hk : k < i) (h : commB (ms.getD k zM).2.1 (ms.getD i zM).2.1 = true) : freeM ms i = false := by
  rcases Bool.eq_false_or_eq_true (freeM ms i) with hc | hc
  · have := freeM_iff.1 hc k hk
    rw [h] at this; cases this
  · exact hc
theorem mat_drewN {w : World} {b o : Nat} {r : Mt} (m : Nat) (h : MAt w b o r) : MAt (w.drewN m) b o r := by
  obtain ⟨u, h0, h1, h2, h3⟩ := h
  exact ⟨u, h0, h1, h2, st_drewN m h3⟩
theorem st_open {w : World} {v : Value} {ss : List ByteArray} (h : StAt w v ss) : ∃ (A : Option Addr) (b off cap : Nat), v = .slice A ss.length cap ∧ (0 < ss.length → A = some ⟨b, off, none⟩) ∧ ∀ j, j < ss.length → w.cell? ⟨b, off + j, none⟩ = some (.string (ss.getD j ByteArray.empty)) := by
  obtain ⟨_, ⟨a, c, rfl, rfl⟩ | ⟨b, off, cap, rfl, hb, hc⟩⟩ := h
  · exact ⟨a, 0, 0, c, rfl, fun h => by simp at h, fun j hj => by simp at hj⟩
  · exact ⟨_, b, off, cap, rfl, fun _ => rfl, hc⟩
theorem any_at {α : Type} {l : List α} {p : α → Bool} {d : α} {k : Nat} (hk : k < l.length) (h : p (l.getD k d) = true) : l.any p = true := by
  rw [List.any_eq_true]
  refine ⟨l.getD k d, ?_, h⟩
  rw [List.getD_eq_getElem?_getD, List.getElem?_eq_getElem hk]; exact List.getElem_mem hk
theorem any_none {α : Type} {l : List α} {p : α → Bool} {d : α} (h : ∀ j, j < l.length → p (l.getD j d) = false) : l.any p = false := by
  rw [List.any_eq_false]
  intro q hq
  obtain ⟨i, hi, rfl⟩ := List.mem_iff_getElem.1 hq
  have := h i hi
  rw [List.getD_eq_getElem?_getD, List.getElem?_eq_getElem hi] at this
  simp only [Option.getD_some] at this
  rw [this]; simp
set_option maxRecDepth 20000 in
set_option maxHeartbeats 4000000 in
theorem common_any (b1 o1 b2 o2 : Nat) (r1 r2 : Mt) (w : World) (h1 : MAt w b1 o1 r1) (h2 : MAt w b2 o2 r2) :
    Calls Try.prog 46 #[.pointer (some ⟨b1, o1, none⟩), .pointer (some ⟨b2, o2, none⟩)] w fun e w' => e = .returned (.bool (commB r1.2.1 r2.2.1)) ∧ ∃ m, w' = w.drewN m := by
  obtain ⟨u1, -, c1, -, hu1⟩ := h1
  obtain ⟨u2, -, c2, -, hu2⟩ := h2
  have hl1 := hu1.1
  have hl2 := hu2.1
  obtain ⟨A1, p1, q1, k1, rfl, hA1, hc1⟩ := st_open hu1
  obtain ⟨A2, p2, q2, k2, rfl, hA2, hc2⟩ := st_open hu2
  generalize r1.2.1 = a at *
  generalize r2.2.1 = b at *
  clear hu1 hu2
  obtain ⟨n1, hn1⟩ : ∃ n, a.length = n := ⟨_, rfl⟩
  obtain ⟨n2, hn2⟩ : ∃ n, b.length = n := ⟨_, rfl⟩
  have HT := Lib.hid (fun i j (hi : i < n1) (hj : j < n2) (h : a.getD i ByteArray.empty = b.getD j ByteArray.empty) => show commB a b = true from any_at (d := ByteArray.empty) (by rw [hn1]; exact hi) (any_at (d := ByteArray.empty) (by rw [hn2]; exact hj) (decide_eq_true h)))
  have HF := Lib.hid (fun (h : ∀ i, i < n1 → ∀ j, j < n2 → a.getD i ByteArray.empty ≠ b.getD j ByteArray.empty) => show commB a b = false from any_none (d := ByteArray.empty) (fun i hi => any_none (d := ByteArray.empty) (fun j hj => decide_eq_false (h i (by rw [← hn1]; exact hi) j (by rw [← hn2]; exact hj)))))
  rw [hn1] at c1 hA1 hc1 hl1
  rw [hn2] at c2 hA2 hc2 hl2
  have HA1 := Lib.hid hA1
  have HA2 := Lib.hid hA2
  have HC1 := Lib.hid hc1
  have HC2 := Lib.hid hc2
  clear hA1 hA2 hc1 hc2 hn1 hn2
  go_enter Try.func46, Try.ntmps46
  go_wp2
  go_loopw [5] (fun i wr => ∃ k m : Nat, k ≤ n1 ∧ i = .int .i64 k ∧ wr = w.drewN m ∧ Hid (∀ i, i < k → ∀ j, j < n2 → a.getD i ByteArray.empty ≠ b.getD j ByteArray.empty)) (fun i _ => n1 - (intOf i).toNat)
  case atStart => exact ⟨0, 0, by omega, rfl, rfl, Lib.hid (fun i hi => by omega)⟩
  case round =>
    obtain ⟨k, m, hk, rfl, rfl, HA⟩ := hrel
    by_cases hlt : k < n1
    · have hlt1 : (k : Int) < (n1 : Int) := by omega
      have hk0 : (0 : Int) ≤ (k : Int) := by omega
      have HLT := Lib.hid hlt
      go_wp2
      go_loopw [6] (fun i wr => ∃ q m : Nat, q ≤ n2 ∧ i = .int .i64 q ∧ wr = w.drewN m ∧ Hid (∀ j, j < q → a.getD k ByteArray.empty ≠ b.getD j ByteArray.empty)) (fun i _ => n2 - (intOf i).toNat)
      case atStart => exact ⟨0, m, by omega, rfl, rfl, Lib.hid (fun i hi => by omega)⟩
      case round =>
        obtain ⟨q, m', hq, rfl, rfl, HQ⟩ := hrel
        by_cases hlt2 : q < n2
        · have hB1 := HA1.out (by omega)
          have hB2 := HA2.out (by omega)
          subst hB1 hB2
          have d1 := HC1.out k HLT.out
          have d2 := HC2.out q hlt2
          have hq1 : (q : Int) < (n2 : Int) := by omega
          have hq0 : (0 : Int) ≤ (q : Int) := by omega
          obtain ⟨x, hx⟩ : ∃ x, a.getD k ByteArray.empty = x := ⟨_, rfl⟩
          obtain ⟨y, hy⟩ : ∃ y, b.getD q ByteArray.empty = y := ⟨_, rfl⟩
          rw [hx] at d1
          rw [hy] at d2
          by_cases he : x = y
          · have HR := Lib.hid (HT.out k q HLT.out hlt2 (by rw [hx, hy, he]))
            subst he
            have hz : (x.toList == x.toList) = true := by simp
            clear hx hy
            go_wp2
            go_quiet (fail)
            go_wp2
            go_ret
            exact ⟨ret_bW HR.out.symm, _, by first | rfl | rw [World.drewN_drewN]⟩
          · have hz := ba_neq he
            have HNX := Lib.hid (show ∀ j, j < q + 1 → a.getD k ByteArray.empty ≠ b.getD j ByteArray.empty from fun j hj => by
              by_cases e : j = q
              · subst e; rw [hx, hy]; exact he
              · exact HQ.out j (by omega))
            clear hx hy he
            go_wp2
            go_quiet (fail)
            go_wp2
            go_roundw
            case rel => exact ⟨q + 1, _, by omega, by go_num, rfl, HNX⟩
            case measure => simp [intOf]; omega
        · obtain rfl : q = n2 := by omega
          have HNX := Lib.hid (show ∀ i, i < k + 1 → ∀ j, j < q → a.getD i ByteArray.empty ≠ b.getD j ByteArray.empty from fun i hi => by
            by_cases e : i = k
            · subst e; exact HQ.out
            · exact HA.out i (by omega))
          go_wp2
          go_roundw
          case rel => exact ⟨k + 1, _, by have := HLT.out; omega, by go_num, rfl, HNX⟩
          case measure => have := HLT.out; simp [intOf]; omega
    · obtain rfl : k = n1 := by omega
      have HR := Lib.hid (HF.out HA.out)
      go_wp2
      go_ret
      exact ⟨ret_bW HR.out.symm, _, rfl⟩
/-- The strings of a list of melts are no longer than strings are. -/
def SzMs (ms : List Mt) : Prop := ∀ j, j < ms.length → (ms.getD j zM).2.1.length ≤ 1048576 ∧ (ms.getD j zM).1.size ≤ 9223372036854775807 ∧ SzSt (ms.getD j zM).2.1
set_option maxRecDepth 20000 in
set_option maxHeartbeats 8000000 in
theorem l14Ok_some (b off cap n : Nat) (ms : List Mt) (w : World) (hn : Hid (ms.length = n)) (hn0 : n ≤ 1048576) (hc : ∀ i, i < n → MAt w b (off + i * 3) (ms.getD i zM)) (hz : SzMs ms) :
    Calls Try.prog 28 #[.slice (some ⟨b, off, none⟩) n cap] w fun e w' => e = .returned (.bool (meltsB ms)) ∧ ∃ m, w' = w.drewN m := by
  have HC := Lib.hid hc
  have HZ := Lib.hid hz
  have HNO := Lib.hid (fun i (hi : i < ms.length) h => meltsB_no (ms := ms) (i := i) hi h)
  clear hc hz
  go_enter Try.func28, Try.ntmps28
  go_wp2
  go_loopw [3] (fun i wr => ∃ k m : Nat, k ≤ n ∧ i = .int .i64 k ∧ wr = w.drewN m ∧ Hid (∀ j, j < k → okM ms j = true)) (fun i _ => n - (intOf i).toNat)
  case atStart => exact ⟨0, 0, by omega, rfl, rfl, Lib.hid (fun j hj => by omega)⟩
  case round =>
    obtain ⟨k, m, hk, rfl, rfl, HA⟩ := hrel
    by_cases hlt : k < n
    · have hr := HC.out k hlt
      have hs := HZ.out k (by rw [hn.out]; exact hlt)
      obtain ⟨r, hx⟩ : ∃ r, ms.getD k zM = r := ⟨_, rfl⟩
      rw [hx] at hr hs
      have HX := Lib.hid hx
      have HRK := Lib.hid hr
      have HS := Lib.hid (show r.1.size ≤ maxLen from hs.2.1)
      have HSS := Lib.hid hs.2.2
      have hkm : (k : Int) < (n : Int) := by omega
      have hk0 : (0 : Int) ≤ (k : Int) := by omega
      have HLT := Lib.hid hlt
      clear hs hx
      rcases Bool.eq_false_or_eq_true (mokB r) with h4 | h4
      · have H4 := Lib.hid (show meltB r.1 r.2.1 r.2.2 = true from h4)
        obtain ⟨jj, hjj⟩ : ∃ jj, (decide (k = 0) || lessT (ms.getD (k - 1) zM).1 r.1) = jj := ⟨_, rfl⟩
        have HJJ := Lib.hid hjj
        have HOK := Lib.hid (show okM ms k = (jj && freeM ms k) by unfold okM; rw [HX.out, h4, hjj]; rfl)
        clear h4
        obtain ⟨u, d0, d1, d2, hu⟩ := hr
        obtain ⟨s, ss, z⟩ := r
        simp only at d0 d1 d2 hu
        obtain ⟨ua, uc, rfl⟩ := st_form hu
        clear hu d1 d2
        cases hkz : decide (k = 0) with
        | true =>
          obtain rfl : k = 0 := of_decide_eq_true hkz
          obtain rfl : jj = true := by rw [← hjj]; rfl
          have d00 : w.cell? ⟨b, off, none⟩ = some (.string s) := by simpa using d0
          have HR0 := Lib.hid (show MAt w b off (s, ss, z) by simpa using HRK.out)
          have HKF := Lib.hid (show okM ms 0 = true by rw [HOK.out]; rfl)
          clear hjj hkz d0 HRK
          go_wp2
          go_quiet ((go_at_call 24; exact quiet_moreW (by rw [H4.out]) (l14One_any b _ (s, ss, z) _ (mat_drewN _ HR0.out) HS.out HSS.out)))
          go_wp2
          refine wp_loop_rounds 1 ?_
          rw [rounds_succ]
          go_wp2
          go_roundw
          case rel => exact ⟨1, _, by omega, by go_num, by first | rfl | rw [World.drewN_drewN], Lib.hid (fun j hj => by obtain rfl : j = 0 := (by omega); exact HKF.out)⟩
          case measure => simp [intOf]; omega
        | false =>
          obtain ⟨q, rfl⟩ : ∃ q, k = q + 1 := ⟨k - 1, by have := of_decide_eq_false hkz; omega⟩
          obtain ⟨u2, e0, -, -, -⟩ := HC.out q (by omega)
          obtain ⟨y, hy⟩ : ∃ y, (ms.getD q zM).1 = y := ⟨_, rfl⟩
          rw [hy] at e0
          have hg : (0 : Int) < ((q + 1 : Nat) : Int) := by omega
          have hqe : (((q + 1 : Nat) : Int) - 1) = (q : Int) := by omega
          have hq0 : (0 : Int) ≤ (q : Int) := by omega
          have hq1 : (q : Int) < (n : Int) := by omega
          have hq2 : (0 : Int) ≤ (q : Int) + 1 := by omega
          have hqw : IntKind.i64.wrap (q : Int) = (q : Int) := IntWalk.i64_in _ (by omega)
          have hjl : Op.bytesLess y.toList s.toList = jj := by
            rw [← hjj, hkz, Nat.add_sub_cancel, hy]; rfl
          clear hjj hkz hy
          cases jj with
          | false =>
            have HF := Lib.hid (HNO.out (q + 1) (by rw [hn.out]; exact hlt) (by rw [HOK.out]; rfl))
            go_wp2
            go_quiet ((go_at_call 24; exact quiet_moreW (by rw [H4.out]) (l14One_any b _ (s, ss, z) _ (mat_drewN _ HRK.out) HS.out HSS.out)))
            go_wp2
            go_ret
            exact ⟨ret_bW HF.out.symm, _, by first | rfl | rw [World.drewN_drewN]⟩
          | true =>
            rw [Bool.true_and] at HOK
            go_wp2
            go_quiet ((go_at_call 24; exact quiet_moreW (by rw [H4.out]) (l14One_any b _ (s, ss, z) _ (mat_drewN _ HRK.out) HS.out HSS.out)))
            go_wp2
            go_loopw [4] (fun i wr => ∃ t m : Nat, t ≤ q + 1 ∧ i = .int .i64 t ∧ wr = w.drewN m ∧ Hid (∀ j, j < t → commB (ms.getD j zM).2.1 (ms.getD (q + 1) zM).2.1 = false)) (fun i _ => q + 1 - (intOf i).toNat)
            case atStart => exact ⟨0, _, by omega, rfl, by first | rfl | rw [World.drewN_drewN], Lib.hid (fun j hj => by omega)⟩
            case round =>
              obtain ⟨t, m', ht, rfl, rfl, HT⟩ := hrel
              by_cases hlt2 : t < q + 1
              · obtain ⟨r2, hr2⟩ : ∃ r, ms.getD t zM = r := ⟨_, rfl⟩
                have HR2 := Lib.hid (show MAt w b (off + t * 3) r2 by rw [← hr2]; exact HC.out t (by omega))
                have ht1 : (t : Int) < ((q + 1 : Nat) : Int) := by omega
                have ht0 : (0 : Int) ≤ (t : Int) := by omega
                have htn : (t : Int) < (n : Int) := by omega
                rcases Bool.eq_false_or_eq_true (commB r2.2.1 ss) with h6 | h6
                · have H6 := Lib.hid h6
                  have HF := Lib.hid (HNO.out (q + 1) (by rw [hn.out]; exact hlt) (by rw [HOK.out]; exact freeM_no hlt2 (by rw [hr2, HX.out]; exact h6)))
                  clear h6 hr2
                  go_wp2
                  go_quiet ((go_at_call 46; exact quiet_moreW (by rw [H6.out]) (common_any b _ b _ r2 (s, ss, z) _ (mat_drewN _ HR2.out) (mat_drewN _ HRK.out))))
                  go_wp2
                  go_ret
                  exact ⟨ret_bW HF.out.symm, _, by first | rfl | rw [World.drewN_drewN]⟩
                · have H6 := Lib.hid h6
                  have HNX := Lib.hid (show ∀ j, j < t + 1 → commB (ms.getD j zM).2.1 (ms.getD (q + 1) zM).2.1 = false from fun j hj => by
                    by_cases e : j = t
                    · subst e; rw [hr2, HX.out]; exact h6
                    · exact HT.out j (by omega))
                  clear h6 hr2
                  go_wp2
                  go_quiet ((go_at_call 46; exact quiet_moreW (by rw [H6.out]) (common_any b _ b _ r2 (s, ss, z) _ (mat_drewN _ HR2.out) (mat_drewN _ HRK.out))))
                  go_wp2
                  go_roundw
                  case rel => exact ⟨t + 1, _, by omega, by go_num, by first | rfl | rw [World.drewN_drewN], HNX⟩
                  case measure => simp [intOf]; omega
              · obtain rfl : t = q + 1 := by omega
                have HKF := Lib.hid (show okM ms (q + 1) = true by rw [HOK.out]; exact freeM_iff.2 HT.out)
                go_wp2
                go_roundw
                case rel => exact ⟨q + 2, _, by omega, by go_num, rfl, Lib.hid (fun j hj => by
                  by_cases e : j = q + 1
                  · subst e; exact HKF.out
                  · exact HA.out j (by omega))⟩
                case measure => simp [intOf]; omega
      · have H4 := Lib.hid (show meltB r.1 r.2.1 r.2.2 = false from h4)
        have HF := Lib.hid (HNO.out k (by rw [hn.out]; exact hlt) (by unfold okM; rw [HX.out, h4]; rfl))
        clear hr h4
        go_wp2
        go_quiet ((go_at_call 24; exact quiet_moreW (by rw [H4.out]) (l14One_any b _ r _ (mat_drewN _ HRK.out) HS.out HSS.out)))
        go_wp2
        go_ret
        exact ⟨ret_bW HF.out.symm, _, by first | rfl | rw [World.drewN_drewN]⟩
    · obtain rfl : k = n := by omega
      have HF := Lib.hid (show meltsB ms = decide ((k : Int) ≤ 12) by
        rw [meltsB_end (fun j hj => HA.out j (by rw [hn.out] at hj; exact hj)), hn.out, decide_eq_decide]
        omega)
      go_wp2
      go_ret
      exact ⟨ret_bW HF.out.symm, _, rfl⟩
theorem l14Ok_none (a : Option Addr) (c : Nat) (w : World) :
    Calls Try.prog 28 #[.slice a 0 c] w fun e w' => e = .returned (.bool (meltsB [])) ∧ ∃ m, w' = w.drewN m := by
  go_enter Try.func28, Try.ntmps28
  go_wp2
  refine wp_loop_rounds 1 ?_
  rw [rounds_succ]
  go_wp2
  go_ret
  exact ⟨rfl, 0, rfl⟩
theorem l14Ok_drew (ms : List Mt) (v : Value) (w : World) (h : MeltsAt w v ms) (hz : SzMs ms) :
    Calls Try.prog 28 #[v] w fun e w' => e = .returned (.bool (meltsB ms)) ∧ ∃ m, w' = w.drewN m := by
  by_cases h0 : ms.length = 0
  · obtain rfl : ms = [] := List.length_eq_zero_iff.1 h0
    obtain ⟨a, c, rfl⟩ := melts_form h
    exact l14Ok_none a c w
  · have hl := h.1
    obtain ⟨b, off, cap, rfl, hb, hc⟩ := melts_cells h (by omega)
    exact l14Ok_some b off cap _ ms w (Lib.hid rfl) hl hc hz
theorem specVMs_any (ms : List Mt) (v : Value) (w : World) (h : MeltsAt w v ms) (hz : SzMs ms) :
    Calls Try.prog 13 #[v] w fun e w' => e = .returned (.bool (meltsB ms)) ∧ Below w.heap.size w w' := by
  have HC := Lib.hid (l14Ok_drew ms v w h hz)
  clear h
  generalize meltsB ms = r at *
  go_enter Try.func13, Try.ntmps13
  go_wp2_with fail
  refine HC.out.mono ?_
  rintro e w1 ⟨rfl, m, rfl⟩
  go_wp2
  go_ret
  exact ⟨rfl, drewW _ _⟩
end Go.Proofs.Ytjicnfgpbbganaa
