/- Profiles: the reference model's validity. -/
import Derived.Test.YtpjopfhkgegahaaRingSpec
import Derived.Deep.Draws
namespace Go.Proofs.Ytpjopfhkgegahaa
open Go.ChangeShapes Go.WideShapes Go.ChangeAt Go.RowKit

/-- A contract that only draws, where a loop's round has drawn m times and its region x times. -/
theorem quiet_more {P : Program} {f : FuncId} {args : Array Value} {w : World} {m x : Nat} {v v' : Value} (hv : v' = v)
    (h : Calls P f args (w.drewN (m + x)) fun e w' => e = .returned v' ∧ ∃ k, w' = (w.drewN (m + x)).drewN k) : Calls P f args (w.drewN (m + x)) fun e w'' => e = .returned v ∧ ∃ n, w'' = w.drewN (m + n) :=
  h.mono fun _ _ ⟨he, k, hk⟩ => ⟨by rw [he, hv], x + k, by rw [hk, World.drewN_drewN, Nat.add_assoc]⟩
theorem ring_drew {w : World} {b o n : Nat} {r : Rg} (h : RingIn w b o r) : RingIn (w.drewN n) b o r := ⟨h.c0, h.c1, h.c2⟩
theorem prof_no1 {s : ByteArray} {rs : List Rg} (h : nameB s = false) : profB s rs = false := by unfold profB; rw [h]; rfl
theorem prof_no2 {s : ByteArray} {rs : List Rg} (h : ¬ (1 ≤ rs.length ∧ rs.length ≤ 32)) : profB s rs = false := by unfold profB; rw [decide_eq_false h]; simp
theorem prof_no3 {s : ByteArray} {rs : List Rg} {i : Nat} (hi : i < rs.length) (h : okAt rs i = false) : profB s rs = false := by
  have : chainB rs = false := by
    rcases Bool.eq_false_or_eq_true (chainB rs) with hc | hc
    · have := chain_iff.1 hc i hi
      rw [h] at this; cases this
    · exact hc
  unfold profB; rw [this]; simp
theorem prof_end {s : ByteArray} {rs : List Rg} (h : nameB s = true) (h2 : 1 ≤ rs.length ∧ rs.length ≤ 32) (h3 : ∀ i, i < rs.length → okAt rs i = true) : profB s rs = decide (heights rs ≤ 300000) := by
  unfold profB; rw [h, decide_eq_true h2, chain_iff.2 h3]; rfl

set_option maxRecDepth 20000 in
set_option maxHeartbeats 4000000 in
theorem l05Ok_some (p b off cap n : Nat) (s : ByteArray) (rs : List Rg) (w : World) (hn : rs.length = n) (hn0 : n ≤ 1048576) (hp : ProfIn w p s (.slice (some ⟨b, off, none⟩) n cap)) (hsz : s.size ≤ maxLen) (hc : ∀ i, i < n → RingIn w b (off + i * 3) (rs.getD i zR)) :
    Calls Try.prog 30 #[.pointer (some ⟨p, 0, none⟩)] w fun e w' => e = .returned (.bool (profB s rs)) ∧ Below w.heap.size w w' := by
  obtain ⟨p0, p1⟩ := hp
  have HC := Lib.hid hc
  have HN := Lib.hid hn
  clear hc hn
  rcases Bool.eq_false_or_eq_true (nameB s) with h1 | h1
  · by_cases h2 : 1 ≤ n ∧ n ≤ 32
    · obtain ⟨n1, n2⟩ := h2
      have HE := Lib.hid (fun h3 => prof_end (s := s) (rs := rs) h1 (by rw [HN.out]; exact ⟨n1, n2⟩) h3)
      have HNO := Lib.hid (fun i (hi : i < rs.length) h => prof_no3 (s := s) (rs := rs) (i := i) hi h)
      have hm1 : ¬ (n : Int) < 1 := by omega
      have hm2 : ¬ 32 < (n : Int) := by omega
      have HT := Lib.hid h1
      clear h1
      go_enter Try.func30, Try.ntmps30
      go_wp2_with fail
      refine (specName_any s _ hsz).mono ?_
      rintro e w1 ⟨rfl, rfl⟩
      rw [HT.out]
      go_wp2
      go_loopw [3] (fun i wr => ∃ k m : Nat, k ≤ n ∧ i = .int .i64 k ∧ wr = w.drewN m ∧ Hid (∀ j, j < k → okAt rs j = true)) (fun i _ => n - (intOf i).toNat)
      case atStart => exact ⟨0, 0, by omega, rfl, rfl, Lib.hid (fun j hj => by omega)⟩
      case round =>
        obtain ⟨k, m, hk, rfl, rfl, HA⟩ := hrel
        by_cases hlt : k < n
        · have hr := HC.out k hlt
          obtain ⟨⟨x, y, z⟩, hxyz⟩ : ∃ r, rs.getD k zR = r := ⟨_, rfl⟩
          have hkm : (k : Int) < (n : Int) := by omega
          have hk0 : (0 : Int) ≤ (k : Int) := by omega
          rw [hxyz] at hr
          have HRK := Lib.hid hr
          rcases Bool.eq_false_or_eq_true (ringB (x, y, z)) with h4 | h4
          · have H4 := Lib.hid h4
            match hk' : k with
            | 0 =>
              have HOK := Lib.hid (show okAt rs 0 = true by unfold okAt; rw [hxyz, h4]; rfl)
              have HR0 := Lib.hid (show RingIn w b off (x, y, z) by simpa using hr)
              clear hr hxyz h4 HRK
              go_wp2
              go_quiet ((go_at_call 53; exact quiet_more (by rw [H4.out]) (l05Ring_any x y z b _ _ (ring_drew HR0.out))))
              go_wp2
              go_roundw
              case rel => exact ⟨1, _, by omega, by go_num, rfl, Lib.hid (fun j hj => by obtain rfl : j = 0 := (by omega); exact HOK.out)⟩
              case measure => simp [intOf]; omega
            | q + 1 =>
              have hr2 := HC.out q (by omega)
              obtain ⟨⟨x2, y2, z2⟩, hx2⟩ : ∃ r, rs.getD q zR = r := ⟨_, rfl⟩
              rw [hx2] at hr2
              have HRQ := Lib.hid hr2
              have hg : (0 : Int) < ((q + 1 : Nat) : Int) := by omega
              have hs : (((q + 1 : Nat) : Int) - 1) = (q : Int) := by omega
              have hq0 : (0 : Int) ≤ (q : Int) := by omega
              have hq1 : (q : Int) < (n : Int) := by omega
              rcases Bool.eq_false_or_eq_true (joinB (x2, y2, z2) (x, y, z)) with h5 | h5
              · have H5 := Lib.hid h5
                have HOK := Lib.hid (show okAt rs (q + 1) = true by unfold okAt; rw [hxyz, h4, Nat.add_sub_cancel, hx2, h5]; rfl)
                clear hr hr2 hx2 hxyz h4 h5
                go_wp2
                go_quiet (first | (go_at_call 53; exact quiet_more (by rw [H4.out]) (l05Ring_any x y z b _ _ (ring_drew HRK.out))) | (go_at_call 54; exact quiet_more (by rw [H5.out]) (l05Joined_any x2 y2 z2 x y z b _ b _ _ (ring_drew HRQ.out) (ring_drew HRK.out))))
                go_wp2
                go_roundw
                case rel => exact ⟨q + 2, _, by omega, by go_num, rfl, Lib.hid (fun j hj => by
                  by_cases e : j = q + 1
                  · subst e; exact HOK.out
                  · exact HA.out j (by omega))⟩
                case measure => simp [intOf]; omega
              · have H5 := Lib.hid h5
                have HF := Lib.hid (HNO.out (q + 1) (by rw [HN.out]; exact hlt) (by unfold okAt; rw [hxyz, h4, Nat.add_sub_cancel, hx2, h5]; rfl))
                clear hr hr2 hx2 hxyz h4 h5
                go_wp2
                go_quiet (first | (go_at_call 53; exact quiet_more (by rw [H4.out]) (l05Ring_any x y z b _ _ (ring_drew HRK.out))) | (go_at_call 54; exact quiet_more (by rw [H5.out]) (l05Joined_any x2 y2 z2 x y z b _ b _ _ (ring_drew HRQ.out) (ring_drew HRK.out))))
                go_wp2
                go_ret
                exact ⟨ret_bool HF.out.symm, rfl, rfl, rfl, Nat.le_refl _, fun _ _ => rfl⟩
          · have H4 := Lib.hid h4
            have HF := Lib.hid (HNO.out k (by rw [HN.out]; exact hlt) (by unfold okAt; rw [hxyz, h4]; rfl))
            clear hr hxyz h4
            go_wp2
            go_quiet ((go_at_call 53; exact quiet_more (by rw [H4.out]) (l05Ring_any x y z b _ _ (ring_drew HRK.out))))
            go_wp2
            go_ret
            exact ⟨ret_bool HF.out.symm, rfl, rfl, rfl, Nat.le_refl _, fun _ _ => rfl⟩
        · obtain rfl : k = n := by omega
          have hR : ∀ i, i < rs.length → ringB (rs.getD i zR) = true := fun i hi => by
            have := HA.out i (by have := HN.out; omega)
            unfold okAt at this
            rw [Bool.and_eq_true] at this
            exact this.1
          have HF := Lib.hid (HE.out (fun i hi => HA.out i (by have := HN.out; omega)))
          have HH := Lib.hid (l05Height_some p b off cap k s rs (w.drewN m) HN.out n2 ⟨p0, p1⟩ (fun i hi => ring_drew (HC.out i hi)) hR)
          clear hR
          go_wp2_with fail
          refine HH.out.mono ?_
          rintro e w2 ⟨rfl, rfl⟩
          generalize heights rs = y at *
          go_wp2
          go_ret
          exact ⟨ret_bool HF.out.symm, below_drewN w m⟩
    · have HF := Lib.hid (prof_no2 (s := s) (rs := rs) (by rw [HN.out]; exact h2))
      have HT := Lib.hid h1
      rw [HF.out]
      by_cases h3 : 1 ≤ n
      · have hm1 : ¬ (n : Int) < 1 := by omega
        have hm2 : 32 < (n : Int) := by omega
        clear h2 h1
        go_enter Try.func30, Try.ntmps30
        go_wp2_with fail
        refine (specName_any s _ hsz).mono ?_
        rintro e w1 ⟨rfl, rfl⟩
        rw [HT.out]
        go_wp2
        go_ret
        exact ⟨rfl, Below.refl _ _⟩
      · have hm1 : (n : Int) < 1 := by omega
        clear h2 h1
        go_enter Try.func30, Try.ntmps30
        go_wp2_with fail
        refine (specName_any s _ hsz).mono ?_
        rintro e w1 ⟨rfl, rfl⟩
        rw [HT.out]
        go_wp2
        go_ret
        exact ⟨rfl, Below.refl _ _⟩
  · have HF := Lib.hid (prof_no1 (rs := rs) h1)
    rw [HF.out]
    go_enter Try.func30, Try.ntmps30
    go_wp2_with fail
    refine (specName_any s _ hsz).mono ?_
    rintro e w1 ⟨rfl, rfl⟩
    rw [h1]
    go_wp2
    go_ret
    exact ⟨rfl, Below.refl _ _⟩

set_option maxHeartbeats 1000000 in
theorem l05Ok_zero (p : Nat) (a : Option Addr) (c : Nat) (s : ByteArray) (w : World) (hp : ProfIn w p s (.slice a 0 c)) (hsz : s.size ≤ maxLen) :
    Calls Try.prog 30 #[.pointer (some ⟨p, 0, none⟩)] w fun e w' => e = .returned (.bool (profB s [])) ∧ Below w.heap.size w w' := by
  obtain ⟨p0, p1⟩ := hp
  have HF := Lib.hid (show profB s [] = false by unfold profB; simp)
  rw [HF.out]
  rcases Bool.eq_false_or_eq_true (nameB s) with h1 | h1
  · go_enter Try.func30, Try.ntmps30
    go_wp2_with fail
    refine (specName_any s _ hsz).mono ?_
    rintro e w1 ⟨rfl, rfl⟩
    rw [h1]
    go_wp2
    go_ret
    exact ⟨rfl, Below.refl _ _⟩
  · go_enter Try.func30, Try.ntmps30
    go_wp2_with fail
    refine (specName_any s _ hsz).mono ?_
    rintro e w1 ⟨rfl, rfl⟩
    rw [h1]
    go_wp2
    go_ret
    exact ⟨rfl, Below.refl _ _⟩
/-- The reference model's validity of the profile in block p. -/
theorem l05Ok_any (p : Nat) (s : ByteArray) (v : Value) (rs : List Rg) (w : World) (hp : ProfIn w p s v) (hv : RingsAt w v rs) (hsz : s.size ≤ maxLen) :
    Calls Try.prog 30 #[.pointer (some ⟨p, 0, none⟩)] w fun e w' => e = .returned (.bool (profB s rs)) ∧ Below w.heap.size w w' := by
  obtain ⟨hl, ⟨a, c, rfl, rfl⟩ | ⟨b, off, cap, rfl, -, hc⟩⟩ := hv
  · exact l05Ok_zero p a c s w hp hsz
  · exact l05Ok_some p b off cap _ s rs w rfl hl hp hsz (ring_in hc)
end Go.Proofs.Ytpjopfhkgegahaa
