/- Merged texts: Ring RingSpec ProfSpec RingLaw Prof ProfArg ProfFuns ProfImpl Hand ProfVal. -/
import Derived.Test.YtpjopfhkgegahaaGreatG1
import Derived.Deep.QuietTactic
import Derived.BigQuiet
import Derived.Deep.RegionWith
import Derived.Deep.Draws
import Derived.BigRegion
import Derived.Lib.SmallJoins
import Derived.Deep.Slices
import Derived.Deep.Strs
import Derived.Deep.RegionHeld3

namespace Go.Proofs.YtpjopfhkgegahaaGreat
open Go.ChangeShapes Go.WideShapes Go.ChangeAt Go.RowKit

abbrev Rg := Int × Int × Int
def ringB (r : Rg) : Bool := inB r.1 500 150000 && (inB r.2.1 0 (r.1 - 100) && inB r.2.2 10 300000)
theorem ring_iff {r : Rg} : ringB r = true ↔ (500 ≤ r.1 ∧ r.1 ≤ 150000) ∧ (0 ≤ r.2.1 ∧ r.2.1 ≤ r.1 - 100) ∧ 10 ≤ r.2.2 ∧ r.2.2 ≤ 300000 := by
  simp [ringB, inB_iff]
def joinB (a b : Rg) : Bool := decide (a.2.1 < b.1) && decide (b.2.1 < a.1)
theorem join_iff {a b : Rg} : joinB a b = true ↔ a.2.1 < b.1 ∧ b.2.1 < a.1 := by simp [joinB]
def zR : Rg := (0, 0, 0)
/-- Ring i is valid, and lies on the one before it. -/
def okAt (rs : List Rg) (i : Nat) : Bool := ringB (rs.getD i zR) && (decide (i = 0) || joinB (rs.getD (i - 1) zR) (rs.getD i zR))
def heights : List Rg → Int
  | [] => 0
  | r :: rs => r.2.2 + heights rs
theorem heights_append (a b : List Rg) : heights (a ++ b) = heights a + heights b := by
  induction a with
  | nil => simp [heights]
  | cons r a ih => simp [heights, ih]; omega
theorem heights_next (rs : List Rg) (k : Nat) (h : k < rs.length) : heights (rs.take (k + 1)) = heights (rs.take k) + (rs.getD k zR).2.2 := by
  rw [List.take_succ_eq_append_getElem h, heights_append]
  simp [heights, List.getD, h]
def chainB (rs : List Rg) : Bool := (List.range rs.length).all (okAt rs)
theorem chain_iff {rs : List Rg} : chainB rs = true ↔ ∀ i, i < rs.length → okAt rs i = true := by simp [chainB]
theorem heights_bd {rs : List Rg} (h : ∀ i, i < rs.length → ringB (rs.getD i zR) = true) (k : Nat) (hk : k ≤ rs.length) : 10 * (k : Int) ≤ heights (rs.take k) ∧ heights (rs.take k) ≤ 300000 * k := by
  induction k with
  | zero => simp [heights]
  | succ k ih =>
    have i1 := ih (by omega)
    have i2 := (ring_iff.1 (h k (by omega))).2.2
    rw [heights_next rs k (by omega)]
    omega
/-- A valid profile. -/
def profB (s : ByteArray) (rs : List Rg) : Bool := nameB s && (decide (1 ≤ rs.length ∧ rs.length ≤ 32) && (chainB rs && decide (heights rs ≤ 300000)))
theorem prof_iff {s : ByteArray} {rs : List Rg} : profB s rs = true ↔ nameB s = true ∧ (1 ≤ rs.length ∧ rs.length ≤ 32) ∧ (∀ i, i < rs.length → okAt rs i = true) ∧ heights rs ≤ 300000 := by
  unfold profB
  rw [Bool.and_eq_true, Bool.and_eq_true, Bool.and_eq_true, decide_eq_true_eq, decide_eq_true_eq, chain_iff]
theorem prof_ring {s : ByteArray} {rs : List Rg} (h : profB s rs = true) (i : Nat) (hi : i < rs.length) : ringB (rs.getD i zR) = true := by
  have := (prof_iff.1 h).2.2.1 i hi
  unfold okAt at this
  rw [Bool.and_eq_true] at this
  exact this.1

/-- The cells of rings, one after the other. -/
def flat : List Rg → List Int
  | [] => []
  | r :: rs => r.1 :: r.2.1 :: r.2.2 :: flat rs
theorem flat_len (rs : List Rg) : (flat rs).length = rs.length * 3 := by
  induction rs with
  | nil => rfl
  | cons r rs ih => simp [flat, ih]; omega
theorem flat_get (rs : List Rg) (j : Nat) (h : j < rs.length) : (flat rs)[j * 3]? = some (rs.getD j zR).1 ∧ (flat rs)[j * 3 + 1]? = some (rs.getD j zR).2.1 ∧ (flat rs)[j * 3 + 2]? = some (rs.getD j zR).2.2 := by
  induction rs generalizing j with
  | nil => simp at h
  | cons r rs ih =>
    match j with
    | 0 => simp [flat]
    | j + 1 =>
      have := ih j (by simpa using h)
      have e : (j + 1) * 3 = j * 3 + 3 := by omega
      rw [e]
      simpa [flat] using this
/-- The slice v reads as rs. -/
def RingsAt (w : World) (v : Value) (rs : List Rg) : Prop :=
  rs.length ≤ 1048576 ∧ ((∃ a c, v = .slice a 0 c ∧ rs = []) ∨ ∃ b off cap, v = .slice (some ⟨b, off, none⟩) rs.length cap ∧ b < w.heap.size ∧ ∀ j, j < rs.length * 3 → w.cell? ⟨b, off + j, none⟩ = some (.int .i64 ((flat rs).getD j 0)))
/-- .. in a block of its own, from B on, that may be written. -/
def OwnRings (w : World) (B : Nat) (v : Value) (rs : List Rg) : Prop := ∃ g cap, v = .slice (some ⟨g, 0, none⟩) rs.length cap ∧ B ≤ g ∧ g < w.heap.size ∧ w.ownsRow B 113 3 v rs.length (i64s (flat rs))
theorem rings_kept {w w' : World} {v : Value} {rs : List Rg} (hb : Below w.heap.size w w') (h : RingsAt w v rs) : RingsAt w' v rs := by
  obtain ⟨hl, h | ⟨b, off, cap, rfl, hlt, hc⟩⟩ := h
  · exact ⟨hl, .inl h⟩
  · exact ⟨hl, .inr ⟨b, off, cap, rfl, by have := hb.size; omega, fun j hj => by rw [hb.cell (p := ⟨b, off + j, none⟩) hlt]; exact hc j hj⟩⟩
theorem own_rings {w : World} {B : Nat} {v : Value} {rs : List Rg} (hl : rs.length ≤ 1048576) (h : OwnRings w B v rs) : RingsAt w v rs := by
  obtain ⟨g, cap, rfl, _, hg, hown⟩ := h
  refine ⟨hl, .inr ⟨g, 0, cap, rfl, hg, fun j hj => ?_⟩⟩
  rw [Nat.zero_add, hown.cellAt j (by omega)]
  exact i64s_get _ j (by rw [flat_len]; omega)
end Go.Proofs.YtpjopfhkgegahaaGreat


namespace Go.Proofs.YtpjopfhkgegahaaGreat
open Go.ChangeShapes Go.WideShapes Go.ChangeAt Go.RowKit

/-- Block b holds the ring r from o on. -/
structure RingIn (w : World) (b o : Nat) (r : Rg) : Prop where
  c0 : w.cell? ⟨b, o, none⟩ = some (.int .i64 r.1)
  c1 : w.cell? ⟨b, o + 1, none⟩ = some (.int .i64 r.2.1)
  c2 : w.cell? ⟨b, o + 2, none⟩ = some (.int .i64 r.2.2)
theorem ring_no1 {x y z : Int} (h : inB x 500 150000 = false) : ringB (x, y, z) = false := by unfold ringB; rw [h]; rfl
theorem ring_mid {x y z : Int} (h : inB x 500 150000 = true) : ringB (x, y, z) = (inB y 0 (x - 100) && inB z 10 300000) := by unfold ringB; rw [h]; rfl
set_option maxHeartbeats 1000000 in
theorem l05Ring_any (x y z : Int) (b o : Nat) (w : World) (h : RingIn w b o (x, y, z)) :
    Calls Tryz.prog 120 #[.pointer (some ⟨b, o, none⟩)] w fun e w' => e = .returned (.bool (ringB (x, y, z))) ∧ ∃ n, w' = w.drewN n := by
  have c0 : w.cell? ⟨b, o, none⟩ = some (.int .i64 x) := h.c0
  have c1 : w.cell? ⟨b, o + 1, none⟩ = some (.int .i64 y) := h.c1
  have c2 : w.cell? ⟨b, o + 2, none⟩ = some (.int .i64 z) := h.c2
  clear h
  rcases Bool.eq_false_or_eq_true (inB x 500 150000) with h1 | h1
  · obtain ⟨x0, x1⟩ := inB_iff.1 h1
    have HR := Lib.hid (ring_mid (y := y) (z := z) h1)
    have hw : IntKind.i64.wrap (x - 100) = x - 100 := IntWalk.i64_in _ (by omega)
    rcases Bool.eq_false_or_eq_true (inB y 0 (x - 100)) with h2 | h2
    · obtain ⟨c, h3⟩ : ∃ c, inB z 10 300000 = c := ⟨_, rfl⟩
      have HR2 := Lib.hid (show ringB (x, y, z) = c by rw [HR.out, h2, h3]; rfl)
      go_enter Tryz.func120, Tryz.ntmps120
      go_wp2
      go_quiet (first | (go_at_call_of 74 (Value.int .i64 x); exact Calls.quiet_of_same ((l00In_any x 500 150000 _).mono (fun _ _ h => ⟨by rw [h.1, h1], h.2.symm⟩))) | (go_at_call_of 74 (Value.int .i64 y); exact Calls.quiet_of_same ((l00In_any y 0 (x - 100) _).mono (fun _ _ h => ⟨by rw [h.1, h2], h.2.symm⟩))) | (go_at_call_of 74 (Value.int .i64 z); exact Calls.quiet_of_same ((l00In_any z 10 300000 _).mono (fun _ _ h => ⟨by rw [h.1, h3], h.2.symm⟩))))
      go_wp2
      go_ret
      exact ⟨ret_bool HR2.out.symm, _, rfl⟩
    · have HR2 := Lib.hid (show ringB (x, y, z) = false by rw [HR.out, h2]; rfl)
      go_enter Tryz.func120, Tryz.ntmps120
      go_wp2
      go_quiet (first | (go_at_call_of 74 (Value.int .i64 x); exact Calls.quiet_of_same ((l00In_any x 500 150000 _).mono (fun _ _ h => ⟨by rw [h.1, h1], h.2.symm⟩))) | (go_at_call_of 74 (Value.int .i64 y); exact Calls.quiet_of_same ((l00In_any y 0 (x - 100) _).mono (fun _ _ h => ⟨by rw [h.1, h2], h.2.symm⟩))))
      go_wp2
      go_ret
      exact ⟨ret_bool HR2.out.symm, _, rfl⟩
  · have HR := Lib.hid (ring_no1 (y := y) (z := z) h1)
    go_enter Tryz.func120, Tryz.ntmps120
    go_wp2
    go_quiet (first | (go_at_call_of 74 (Value.int .i64 x); exact Calls.quiet_of_same ((l00In_any x 500 150000 _).mono (fun _ _ h => ⟨by rw [h.1, h1], h.2.symm⟩))))
    go_wp2
    go_ret
    exact ⟨ret_bool HR.out.symm, _, rfl⟩
set_option maxHeartbeats 400000 in
theorem l05Joined_any (x y z x2 y2 z2 : Int) (b o b2 o2 : Nat) (w : World) (h : RingIn w b o (x, y, z)) (h2 : RingIn w b2 o2 (x2, y2, z2)) :
    Calls Tryz.prog 121 #[.pointer (some ⟨b, o, none⟩), .pointer (some ⟨b2, o2, none⟩)] w fun e w' => e = .returned (.bool (joinB (x, y, z) (x2, y2, z2))) ∧ ∃ n, w' = w.drewN n := by
  obtain ⟨c0, c1, c2⟩ := h
  obtain ⟨d0, d1, d2⟩ := h2
  have HJ := Lib.hid (show joinB (x, y, z) (x2, y2, z2) = (decide (y < x2) && decide (y2 < x)) from rfl)
  rcases Bool.eq_false_or_eq_true (decide (y < x2)) with h1 | h1
  · go_enter Tryz.func121, Tryz.ntmps121
    go_wp2
    go_quiet (fail)
    go_wp2
    go_ret
    exact ⟨ret_bool (by rw [HJ.out, h1]; rfl), _, rfl⟩
  · go_enter Tryz.func121, Tryz.ntmps121
    go_wp2
    go_quiet (fail)
    go_wp2
    go_ret
    exact ⟨ret_bool (by rw [HJ.out, h1]; rfl), _, rfl⟩

/-- Block p holds a profile: its name, and where its rings lie. -/
structure ProfIn (w : World) (p : Nat) (s : ByteArray) (v : Value) : Prop where
  c0 : w.cell? ⟨p, 0, none⟩ = some (.string s)
  c1 : w.cell? ⟨p, 1, none⟩ = some v
theorem ring_in {w : World} {b off : Nat} {rs : List Rg} (hc : ∀ j, j < rs.length * 3 → w.cell? ⟨b, off + j, none⟩ = some (.int .i64 ((flat rs).getD j 0))) (i : Nat) (hi : i < rs.length) : RingIn w b (off + i * 3) (rs.getD i zR) := by
  obtain ⟨h0, h1, h2⟩ := flat_get rs i hi
  refine ⟨?_, ?_, ?_⟩
  · rw [hc (i * 3) (by omega), List.getD_eq_getElem?_getD, h0]; rfl
  · rw [Nat.add_assoc, hc (i * 3 + 1) (by omega), List.getD_eq_getElem?_getD, h1]; rfl
  · rw [Nat.add_assoc, hc (i * 3 + 2) (by omega), List.getD_eq_getElem?_getD, h2]; rfl
set_option maxHeartbeats 1000000 in
theorem l05Height_some (p b off cap n : Nat) (s : ByteArray) (rs : List Rg) (w : World) (hn : rs.length = n) (hn1 : n ≤ 32) (hp : ProfIn w p s (.slice (some ⟨b, off, none⟩) n cap)) (hc : ∀ i, i < n → RingIn w b (off + i * 3) (rs.getD i zR)) (hR : ∀ i, i < rs.length → ringB (rs.getD i zR) = true) :
    Calls Tryz.prog 122 #[.pointer (some ⟨p, 0, none⟩)] w fun e w' => e = .returned (.int .i64 (heights rs)) ∧ w = w' := by
  obtain ⟨p0, p1⟩ := hp
  have HC := Lib.hid hc
  have HBD := Lib.hid (heights_bd hR)
  have HNX := Lib.hid (heights_next rs)
  have HN := Lib.hid hn
  clear hc hR hn
  go_enter Tryz.func122, Tryz.ntmps122
  go_wp2
  go_loop [3, 4] (fun a i => ∃ k : Nat, k ≤ n ∧ i = .int .i64 k ∧ a = .int .i64 (heights (rs.take k))) (fun _ i => n - (intOf i).toNat)
  case atStart => exact ⟨0, by omega, rfl, rfl⟩
  case round =>
    obtain ⟨k, hk, rfl, rfl⟩ := hrel
    by_cases hlt : k < n
    · obtain ⟨-, -, c2⟩ := HC.out k hlt
      have b1 := HBD.out k (by have := HN.out; omega)
      have b2 := HBD.out (k + 1) (by have := HN.out; omega)
      have hx := HNX.out k (by have := HN.out; omega)
      rw [hx] at b2
      have HX := Lib.hid hx
      clear hx
      generalize (rs.getD k zR).2.2 = x at *
      generalize heights (rs.take k) = y at *
      have hw : IntKind.i64.wrap (y + x) = y + x := IntWalk.i64_in _ (by omega)
      have hk1 : (k : Int) < (n : Int) := by omega
      have hk0 : (0 : Int) ≤ (k : Int) := by omega
      clear b1 b2
      go_wp2
      go_round
      case rel => exact ⟨k + 1, by omega, by go_num, by rw [HX.out]⟩
      case measure => simp [intOf]; omega
    · obtain rfl : k = n := by omega
      have he : heights (rs.take k) = heights rs := by rw [List.take_of_length_le (by have := HN.out; omega)]
      obtain ⟨y, hy⟩ : ∃ y, heights rs = y := ⟨_, rfl⟩
      have HY := Lib.hid hy
      rw [he, hy]
      clear hy he
      go_wp2
      go_ret
      exact ⟨ret_i64 HY.out.symm, rfl⟩
end Go.Proofs.YtpjopfhkgegahaaGreat


namespace Go.Proofs.YtpjopfhkgegahaaGreat
open Go.ChangeShapes Go.WideShapes Go.ChangeAt Go.RowKit

/-- A contract that only draws, where a loop's round has drawn m times and its region x times. -/
theorem quiet_more {P : Program} {f : FuncId} {args : Array Value} {w : World} {m x : Nat} {v v' : Value} (hv : v' = v)
    (h : Calls P f args (w.drewN (m + x)) fun e w' => e = .returned v' ∧ ∃ k, w' = (w.drewN (m + x)).drewN k) : Calls P f args (w.drewN (m + x)) fun e w'' => e = .returned v ∧ ∃ n, w'' = w.drewN (m + n) :=
  h.mono fun _ _ ⟨he, k, hk⟩ => ⟨by rw [he, hv], x + k, by rw [hk, World.drewN_drewN, Nat.add_assoc]⟩
theorem ring_drew {w : World} {b o n : Nat} {r : Rg} (h : RingIn w b o r) : RingIn (w.drewN n) b o r := ⟨h.c0, h.c1, h.c2⟩
theorem prof_no1 {s : ByteArray} {rs : List Rg} (h : nameB s = false) : profB s rs = false := by unfold profB; rw [h]; rfl
theorem prof_no2 {s : ByteArray} {rs : List Rg} (h : ¬ (1 ≤ rs.length ∧ rs.length ≤ 32)) : profB s rs = false := by unfold profB; rw [decide_eq_false h]; simp
theorem prof_no3 {s : ByteArray} {rs : List Rg} {i : Nat} (hi : i < rs.length) (h : okAt rs i = false) : profB s rs = false := by
  have : chainB rs = false := by
    rcases Bool.eq_false_or_eq_true (chainB rs) with hc | hc
    · have := chain_iff.1 hc i hi
      rw [h] at this; cases this
    · exact hc
  unfold profB; rw [this]; simp
theorem prof_end {s : ByteArray} {rs : List Rg} (h : nameB s = true) (h2 : 1 ≤ rs.length ∧ rs.length ≤ 32) (h3 : ∀ i, i < rs.length → okAt rs i = true) : profB s rs = decide (heights rs ≤ 300000) := by
  unfold profB; rw [h, decide_eq_true h2, chain_iff.2 h3]; rfl

set_option maxRecDepth 20000 in
set_option maxHeartbeats 4000000 in
theorem l05Ok_some (p b off cap n : Nat) (s : ByteArray) (rs : List Rg) (w : World) (hn : rs.length = n) (hn0 : n ≤ 1048576) (hp : ProfIn w p s (.slice (some ⟨b, off, none⟩) n cap)) (hsz : s.size ≤ maxLen) (hc : ∀ i, i < n → RingIn w b (off + i * 3) (rs.getD i zR)) :
    Calls Tryz.prog 97 #[.pointer (some ⟨p, 0, none⟩)] w fun e w' => e = .returned (.bool (profB s rs)) ∧ Below w.heap.size w w' := by
  obtain ⟨p0, p1⟩ := hp
  have HC := Lib.hid hc
  have HN := Lib.hid hn
  clear hc hn
  rcases Bool.eq_false_or_eq_true (nameB s) with h1 | h1
  · by_cases h2 : 1 ≤ n ∧ n ≤ 32
    · obtain ⟨n1, n2⟩ := h2
      have HE := Lib.hid (fun h3 => prof_end (s := s) (rs := rs) h1 (by rw [HN.out]; exact ⟨n1, n2⟩) h3)
      have HNO := Lib.hid (fun i (hi : i < rs.length) h => prof_no3 (s := s) (rs := rs) (i := i) hi h)
      have hm1 : ¬ (n : Int) < 1 := by omega
      have hm2 : ¬ 32 < (n : Int) := by omega
      have HT := Lib.hid h1
      clear h1
      go_enter Tryz.func97, Tryz.ntmps97
      go_wp2_with fail
      refine (specName_any s _ hsz).mono ?_
      rintro e w1 ⟨rfl, rfl⟩
      rw [HT.out]
      go_wp2
      go_loopw [3] (fun i wr => ∃ k m : Nat, k ≤ n ∧ i = .int .i64 k ∧ wr = w.drewN m ∧ Hid (∀ j, j < k → okAt rs j = true)) (fun i _ => n - (intOf i).toNat)
      case atStart => exact ⟨0, 0, by omega, rfl, rfl, Lib.hid (fun j hj => by omega)⟩
      case round =>
        obtain ⟨k, m, hk, rfl, rfl, HA⟩ := hrel
        by_cases hlt : k < n
        · have hr := HC.out k hlt
          obtain ⟨⟨x, y, z⟩, hxyz⟩ : ∃ r, rs.getD k zR = r := ⟨_, rfl⟩
          have hkm : (k : Int) < (n : Int) := by omega
          have hk0 : (0 : Int) ≤ (k : Int) := by omega
          rw [hxyz] at hr
          have HRK := Lib.hid hr
          rcases Bool.eq_false_or_eq_true (ringB (x, y, z)) with h4 | h4
          · have H4 := Lib.hid h4
            match hk' : k with
            | 0 =>
              have HOK := Lib.hid (show okAt rs 0 = true by unfold okAt; rw [hxyz, h4]; rfl)
              have HR0 := Lib.hid (show RingIn w b off (x, y, z) by simpa using hr)
              clear hr hxyz h4 HRK
              go_wp2
              go_quiet ((go_at_call 120; exact quiet_more (by rw [H4.out]) (l05Ring_any x y z b _ _ (ring_drew HR0.out))))
              go_wp2
              go_roundw
              case rel => exact ⟨1, _, by omega, by go_num, rfl, Lib.hid (fun j hj => by obtain rfl : j = 0 := (by omega); exact HOK.out)⟩
              case measure => simp [intOf]; omega
            | q + 1 =>
              have hr2 := HC.out q (by omega)
              obtain ⟨⟨x2, y2, z2⟩, hx2⟩ : ∃ r, rs.getD q zR = r := ⟨_, rfl⟩
              rw [hx2] at hr2
              have HRQ := Lib.hid hr2
              have hg : (0 : Int) < ((q + 1 : Nat) : Int) := by omega
              have hs : (((q + 1 : Nat) : Int) - 1) = (q : Int) := by omega
              have hq0 : (0 : Int) ≤ (q : Int) := by omega
              have hq1 : (q : Int) < (n : Int) := by omega
              rcases Bool.eq_false_or_eq_true (joinB (x2, y2, z2) (x, y, z)) with h5 | h5
              · have H5 := Lib.hid h5
                have HOK := Lib.hid (show okAt rs (q + 1) = true by unfold okAt; rw [hxyz, h4, Nat.add_sub_cancel, hx2, h5]; rfl)
                clear hr hr2 hx2 hxyz h4 h5
                go_wp2
                go_quiet (first | (go_at_call 120; exact quiet_more (by rw [H4.out]) (l05Ring_any x y z b _ _ (ring_drew HRK.out))) | (go_at_call 121; exact quiet_more (by rw [H5.out]) (l05Joined_any x2 y2 z2 x y z b _ b _ _ (ring_drew HRQ.out) (ring_drew HRK.out))))
                go_wp2
                go_roundw
                case rel => exact ⟨q + 2, _, by omega, by go_num, rfl, Lib.hid (fun j hj => by
                  by_cases e : j = q + 1
                  · subst e; exact HOK.out
                  · exact HA.out j (by omega))⟩
                case measure => simp [intOf]; omega
              · have H5 := Lib.hid h5
                have HF := Lib.hid (HNO.out (q + 1) (by rw [HN.out]; exact hlt) (by unfold okAt; rw [hxyz, h4, Nat.add_sub_cancel, hx2, h5]; rfl))
                clear hr hr2 hx2 hxyz h4 h5
                go_wp2
                go_quiet (first | (go_at_call 120; exact quiet_more (by rw [H4.out]) (l05Ring_any x y z b _ _ (ring_drew HRK.out))) | (go_at_call 121; exact quiet_more (by rw [H5.out]) (l05Joined_any x2 y2 z2 x y z b _ b _ _ (ring_drew HRQ.out) (ring_drew HRK.out))))
                go_wp2
                go_ret
                exact ⟨ret_bool HF.out.symm, rfl, rfl, rfl, Nat.le_refl _, fun _ _ => rfl⟩
          · have H4 := Lib.hid h4
            have HF := Lib.hid (HNO.out k (by rw [HN.out]; exact hlt) (by unfold okAt; rw [hxyz, h4]; rfl))
            clear hr hxyz h4
            go_wp2
            go_quiet ((go_at_call 120; exact quiet_more (by rw [H4.out]) (l05Ring_any x y z b _ _ (ring_drew HRK.out))))
            go_wp2
            go_ret
            exact ⟨ret_bool HF.out.symm, rfl, rfl, rfl, Nat.le_refl _, fun _ _ => rfl⟩
        · obtain rfl : k = n := by omega
          have hR : ∀ i, i < rs.length → ringB (rs.getD i zR) = true := fun i hi => by
            have := HA.out i (by have := HN.out; omega)
            unfold okAt at this
            rw [Bool.and_eq_true] at this
            exact this.1
          have HF := Lib.hid (HE.out (fun i hi => HA.out i (by have := HN.out; omega)))
          have HH := Lib.hid (l05Height_some p b off cap k s rs (w.drewN m) HN.out n2 ⟨p0, p1⟩ (fun i hi => ring_drew (HC.out i hi)) hR)
          clear hR
          go_wp2_with fail
          refine HH.out.mono ?_
          rintro e w2 ⟨rfl, rfl⟩
          generalize heights rs = y at *
          go_wp2
          go_ret
          exact ⟨ret_bool HF.out.symm, below_drewN w m⟩
    · have HF := Lib.hid (prof_no2 (s := s) (rs := rs) (by rw [HN.out]; exact h2))
      have HT := Lib.hid h1
      rw [HF.out]
      by_cases h3 : 1 ≤ n
      · have hm1 : ¬ (n : Int) < 1 := by omega
        have hm2 : 32 < (n : Int) := by omega
        clear h2 h1
        go_enter Tryz.func97, Tryz.ntmps97
        go_wp2_with fail
        refine (specName_any s _ hsz).mono ?_
        rintro e w1 ⟨rfl, rfl⟩
        rw [HT.out]
        go_wp2
        go_ret
        exact ⟨rfl, Below.refl _ _⟩
      · have hm1 : (n : Int) < 1 := by omega
        clear h2 h1
        go_enter Tryz.func97, Tryz.ntmps97
        go_wp2_with fail
        refine (specName_any s _ hsz).mono ?_
        rintro e w1 ⟨rfl, rfl⟩
        rw [HT.out]
        go_wp2
        go_ret
        exact ⟨rfl, Below.refl _ _⟩
  · have HF := Lib.hid (prof_no1 (rs := rs) h1)
    rw [HF.out]
    go_enter Tryz.func97, Tryz.ntmps97
    go_wp2_with fail
    refine (specName_any s _ hsz).mono ?_
    rintro e w1 ⟨rfl, rfl⟩
    rw [h1]
    go_wp2
    go_ret
    exact ⟨rfl, Below.refl _ _⟩

set_option maxHeartbeats 1000000 in
theorem l05Ok_zero (p : Nat) (a : Option Addr) (c : Nat) (s : ByteArray) (w : World) (hp : ProfIn w p s (.slice a 0 c)) (hsz : s.size ≤ maxLen) :
    Calls Tryz.prog 97 #[.pointer (some ⟨p, 0, none⟩)] w fun e w' => e = .returned (.bool (profB s [])) ∧ Below w.heap.size w w' := by
  obtain ⟨p0, p1⟩ := hp
  have HF := Lib.hid (show profB s [] = false by unfold profB; simp)
  rw [HF.out]
  rcases Bool.eq_false_or_eq_true (nameB s) with h1 | h1
  · go_enter Tryz.func97, Tryz.ntmps97
    go_wp2_with fail
    refine (specName_any s _ hsz).mono ?_
    rintro e w1 ⟨rfl, rfl⟩
    rw [h1]
    go_wp2
    go_ret
    exact ⟨rfl, Below.refl _ _⟩
  · go_enter Tryz.func97, Tryz.ntmps97
    go_wp2_with fail
    refine (specName_any s _ hsz).mono ?_
    rintro e w1 ⟨rfl, rfl⟩
    rw [h1]
    go_wp2
    go_ret
    exact ⟨rfl, Below.refl _ _⟩
/-- The reference model's validity of the profile in block p. -/
theorem l05Ok_any (p : Nat) (s : ByteArray) (v : Value) (rs : List Rg) (w : World) (hp : ProfIn w p s v) (hv : RingsAt w v rs) (hsz : s.size ≤ maxLen) :
    Calls Tryz.prog 97 #[.pointer (some ⟨p, 0, none⟩)] w fun e w' => e = .returned (.bool (profB s rs)) ∧ Below w.heap.size w w' := by
  obtain ⟨hl, ⟨a, c, rfl, rfl⟩ | ⟨b, off, cap, rfl, -, hc⟩⟩ := hv
  · exact l05Ok_zero p a c s w hp hsz
  · exact l05Ok_some p b off cap _ s rs w rfl hl hp hsz (ring_in hc)
end Go.Proofs.YtpjopfhkgegahaaGreat


namespace Go.Proofs.YtpjopfhkgegahaaGreat
open Go.ChangeShapes Go.WideShapes Go.ChangeAt Go.RowKit

def rgV (r : Rg) : Value := .agg #[.int .i64 r.1, .int .i64 r.2.1, .int .i64 r.2.2]
theorem infoRing : (Tryz.prog.info? 113).map (fun i => (i.zero, i.size, i.bytes)) = some (some (.agg #[.int .i64 0, .int .i64 0, .int .i64 0]), 3, 24) := by kernel_rfl
theorem flat_append (a b : List Rg) : flat (a ++ b) = flat a ++ flat b := by
  induction a with
  | nil => rfl
  | cons r a ih => simp [flat, ih]
theorem flat_set (rs : List Rg) (j : Nat) (r : Rg) : (((flat rs).set (j * 3) r.1).set (j * 3 + 1) r.2.1).set (j * 3 + 2) r.2.2 = flat (rs.set j r) := by
  induction rs generalizing j with
  | nil => rfl
  | cons q rs ih =>
    match j with
    | 0 => simp [flat]
    | j + 1 =>
      have e : (j + 1) * 3 = j * 3 + 3 := by omega
      have := ih j
      rw [e]
      simpa [flat] using this
theorem i64s_set (zs : List Int) (j : Nat) (z : Int) : (i64s zs).set j (.int .i64 z) = i64s (zs.set j z) := by simp [i64s, List.map_set]
/-- What the copy holds after k rounds. -/
def copiedR (rs : List Rg) (k : Nat) : List Rg := rs.take k ++ List.replicate (rs.length - k) zR
theorem copiedR_len (rs : List Rg) (k : Nat) (h : k ≤ rs.length) : (copiedR rs k).length = rs.length := by simp [copiedR]; omega
theorem copiedR_next (rs : List Rg) (k : Nat) (h : k < rs.length) : (copiedR rs k).set k (rs.getD k zR) = copiedR rs (k + 1) := by
  unfold copiedR
  rw [show rs.length - k = rs.length - (k + 1) + 1 from by omega, List.replicate_succ, List.set_append_right _ _ (by simp; omega), List.length_take,
    Nat.min_eq_left (by omega), Nat.sub_self, List.set_cons_zero, List.take_succ_eq_append_getElem h]
  simp only [List.append_assoc, List.singleton_append, List.getD_eq_getElem?_getD, List.getElem?_eq_getElem h, Option.getD_some]
theorem copiedR_all (rs : List Rg) : copiedR rs rs.length = rs := by simp [copiedR]
theorem flat_zeros (n : Nat) : flat (List.replicate n zR) = List.replicate (n * 3) 0 := by
  induction n with
  | zero => rfl
  | succ n ih => rw [List.replicate_succ, flat, ih, show (n + 1) * 3 = n * 3 + 1 + 1 + 1 from by omega, List.replicate_succ, List.replicate_succ, List.replicate_succ]; rfl
theorem made_rings (n : Nat) : (madeCells (Value.agg #[.int .i64 0, .int .i64 0, .int .i64 0]).cells (n * 3)).toList = i64s (flat (List.replicate n zR)) := by
  rw [flat_zeros]
  unfold madeCells i64s
  rw [List.map_replicate]
  apply List.ext_getElem?
  intro j
  have h3 : j % 3 = 0 ∨ j % 3 = 1 ∨ j % 3 = 2 := by omega
  by_cases h : j < n * 3
  · rcases h3 with h3 | h3 | h3 <;> simp [h, Value.cells, h3]
  · simp [h]

theorem results_cellR {P : Program} {fn : Func} {p : Tmp} {ty : TypeId} (h : fn.results = #[.cell p ty]) (tmps : Array Value) (w : World) :
    (results fn tmps).run P w = ((asAddr (tmps.getD p undef)).run P w).andThen fun a w1 => (loadVar ty a).run P w1 := by
  simp only [results, h]
  simp [Sem.run_bind, Result.andThen]
set_option maxHeartbeats 1000000 in
theorem toRing_any (x y z : Int) (w : World) : Calls Tryz.prog 51 #[.agg #[.int .i64 x, .int .i64 y, .int .i64 z]] w fun e w' => e = .returned (.agg #[.int .i64 x, .int .i64 y, .int .i64 z]) ∧ Below w.heap.size w w' := by
  go_enter Tryz.func51, Tryz.ntmps51
  go_wp2
  try simp only [Exit.inBlock, Exit.then]
  refine bodyPost_ret_by (v := .agg #[.int .i64 x, .int .i64 y, .int .i64 z]) (by rw [results_cellR rfl]; go_simp) rfl ?_
  exact ⟨rfl, (((Below.refl _ _).alloc (Nat.le_refl _) _).alloc (by simp) _).alloc (by simp <;> omega) _⟩
set_option maxHeartbeats 1000000 in
theorem eqRing_any (x y z : Int) (w : World) : Calls Tryz.prog 58 #[.agg #[.int .i64 x, .int .i64 y, .int .i64 z], .agg #[.int .i64 x, .int .i64 y, .int .i64 z]] w fun e w' => e = .returned (.bool true) ∧ Below w.heap.size w w' := by
  have hx : (x != x) = false := by simp
  have hy : (y != y) = false := by simp
  have hz : (z != z) = false := by simp
  go_enter Tryz.func58, Tryz.ntmps58
  go_wp2
  go_ret
  exact ⟨rfl, ((Below.refl _ _).alloc (Nat.le_refl _) _).alloc (by simp) _⟩

theorem row_keepR {w w' : World} {B sz : Nat} {e : TypeId} {v : Value} {n : Nat} {xs : List Value} (hb : Below w.heap.size w w') (h : w.ownsRow B e sz v n xs) : w'.ownsRow B e sz v n xs :=
  h.kept (row := none) ⟨hb.os, hb.tape, hb.output, hb.size, fun k hk _ => hb.block k hk⟩ (by cases hv : v.ownBlock <;> simp)
theorem store3 {w : World} {B g n cap : Nat} {rs : List Rg} (h : w.ownsRow B 113 3 (.slice (some ⟨g, 0, none⟩) n cap) n (i64s (flat rs))) (j : Nat) (r : Rg) :
    (((w.setCell ⟨g, j * 3, none⟩ (.int .i64 r.1)).setCell ⟨g, j * 3 + 1, none⟩ (.int .i64 r.2.1)).setCell ⟨g, j * 3 + 2, none⟩ (.int .i64 r.2.2)).ownsRow B 113 3 (.slice (some ⟨g, 0, none⟩) n cap) n (i64s (flat (rs.set j r))) := by
  have h1 := (h.stored (j * 3) (.int .i64 r.1)).1
  have h2 := (h1.stored (j * 3 + 1) (.int .i64 r.2.1)).1
  have h3 := (h2.stored (j * 3 + 2) (.int .i64 r.2.2)).1
  rw [i64s_set, i64s_set, i64s_set, flat_set] at h3
  exact h3
theorem own_in {w : World} {B g n cap : Nat} {E : TypeId} {rs : List Rg} (hn : rs.length = n) (h : w.ownsRow B E 3 (.slice (some ⟨g, 0, none⟩) n cap) n (i64s (flat rs))) (i : Nat) (hi : i < n) : RingIn w g (i * 3) (rs.getD i zR) := by
  have hr := ring_in (w := w) (b := g) (off := 0) (rs := rs) (fun j hj => by
    rw [Nat.zero_add, h.cellAt j (by omega)]
    exact i64s_get _ j (by rw [flat_len]; omega)) i (by omega)
  rw [Nat.zero_add] at hr
  exact hr
set_option maxHeartbeats 2000000 in
set_option maxRecDepth 100000 in
theorem toRings_some (rs : List Rg) (b off cap : Nat) (w : World) (hl : rs.length ≤ 1048576) (hlt : b < w.heap.size) (hc : ∀ i, i < rs.length → RingIn w b (off + i * 3) (rs.getD i zR)) (n : Nat) (hn : Hid (rs.length = n)) :
    Calls Tryz.prog 27 #[.slice (some ⟨b, off, none⟩) n cap] w fun e w' => ∃ g, e = .returned (.slice (some ⟨g, 0, none⟩) n n) ∧ w.heap.size ≤ g ∧ g < w'.heap.size ∧ w'.ownsRow w.heap.size 113 3 (.slice (some ⟨g, 0, none⟩) n n) n (i64s (flat rs)) ∧ Below w.heap.size w w' := by
  obtain ⟨i0, hi, hz0, hz1, hz2⟩ := info_parts infoRing
  have hn1 : n ≤ 1048576 := by rw [← hn.out]; exact hl
  have HC := Lib.hid hc
  clear hc hl
  go_enter Tryz.func27, Tryz.ntmps27
  go_wp2_with (at_make; refine wpList_make_full _ rfl _ _ 40 rfl w.heap.size 113 i0 (.agg #[.int .i64 0, .int .i64 0, .int .i64 0]) 3 Tryz.underlying40 hi hz0 hz1 .i64 .i64 _ _ n rfl rfl rfl rfl (by rw [hz2]; omega) (by unfold maxLen; omega) (Nat.le_refl _) ?_; intro w0 hown hgrow)
  have HB0 := Lib.hid ((Below.refl w.heap.size w).grown hgrow (Nat.le_refl _) (fun k hk => by cases hk))
  rw [made_rings] at hown
  have HO0 := Lib.hid (show w0.ownsRow w.heap.size 113 3 (.slice (some ⟨w.heap.size, 0, none⟩) n n) n (i64s (flat (copiedR rs 0))) by
    unfold copiedR; rw [hn.out, Nat.sub_zero, List.take_zero, List.nil_append]; exact hown)
  clear hgrow hown
  go_wp2
  go_loopw [4] (fun i wr => ∃ k : Nat, k ≤ n ∧ i = .int .i64 k ∧ wr.ownsRow w.heap.size 113 3 (.slice (some ⟨w.heap.size, 0, none⟩) n n) n (i64s (flat (copiedR rs k))) ∧ Below w.heap.size w wr) (fun i _ => n - (intOf i).toNat)
  case atStart => exact ⟨0, by omega, rfl, HO0.out, HB0.out⟩
  case round =>
    obtain ⟨k, hk, rfl, hown, hbw⟩ := hrel
    by_cases hlt2 : k < n
    · obtain ⟨c0, c1, c2⟩ := HC.out k (by rw [hn.out]; exact hlt2)
      obtain ⟨⟨x, y, z⟩, hxyz⟩ : ∃ r, rs.getD k zR = r := ⟨_, rfl⟩
      rw [hxyz] at c0 c1 c2
      have hc0 : wr.cell? ⟨b, off + k * 3, none⟩ = some (.int .i64 x) := by rw [hbw.cell (p := ⟨b, off + k * 3, none⟩) hlt]; exact c0
      have hc1 : wr.cell? ⟨b, off + k * 3 + 1, none⟩ = some (.int .i64 y) := by rw [hbw.cell (p := ⟨b, off + k * 3 + 1, none⟩) hlt]; exact c1
      have hc2 : wr.cell? ⟨b, off + k * 3 + 2, none⟩ = some (.int .i64 z) := by rw [hbw.cell (p := ⟨b, off + k * 3 + 2, none⟩) hlt]; exact c2
      have HN := Lib.hid (show (copiedR rs k).set k (x, y, z) = copiedR rs (k + 1) by rw [← hxyz]; exact copiedR_next rs k (by rw [hn.out]; exact hlt2))
      have HL := Lib.hid (show (copiedR rs k).length = n by rw [copiedR_len _ _ (by rw [hn.out]; omega), hn.out])
      have HO := Lib.hid hown
      have HB := Lib.hid hbw
      clear hown hbw c0 c1 c2 hxyz
      generalize copiedR rs k = cs at *
      have hkn : (k : Int) < (n : Int) := by omega
      have hk0 : (0 : Int) ≤ (k : Int) := by omega
      go_wp2_with fail
      refine (toRing_any x y z _).mono ?_
      rintro e w2 ⟨rfl, hb2⟩
      have HO2 := Lib.hid (row_keepR hb2 HO.out)
      have HB2 := Lib.hid (below_of HB.out hb2 HB.out.size)
      obtain ⟨d0, d1, d2⟩ := own_in HL.out HO2.out k hlt2
      generalize cs.getD k zR = old at *
      have f0 := HO2.out.frozenAt (k * 3)
      have f1 := HO2.out.frozenAt (k * 3 + 1)
      have f2 := HO2.out.frozenAt (k * 3 + 2)
      have HS := Lib.hid (store3 HO2.out k (x, y, z))
      clear hb2
      go_wp2
      go_roundw
      case rel => exact ⟨k + 1, by omega, by go_num, by rw [← HN.out]; exact HS.out, ((HB2.out.setCell (Nat.le_refl _) _).setCell (Nat.le_refl _) _).setCell (Nat.le_refl _) _⟩
      case measure => simp [intOf]; omega
    · obtain rfl : k = n := by omega
      have HO := Lib.hid hown
      have HB := Lib.hid hbw
      clear hown hbw
      have hc2 : copiedR rs k = rs := by rw [← hn.out]; exact copiedR_all rs
      rw [hc2] at HO
      clear hc2
      go_wp2
      go_ret
      exact ⟨w.heap.size, rfl, Nat.le_refl _, (HO.out.lt _ rfl).2, HO.out, HB.out⟩

set_option maxRecDepth 100000 in
theorem toRings_none (a : Option Addr) (c : Nat) (w : World) :
    Calls Tryz.prog 27 #[.slice a 0 c] w fun e w' => ∃ g, e = .returned (.slice (some ⟨g, 0, none⟩) 0 0) ∧ w.heap.size ≤ g ∧ g < w'.heap.size ∧ w'.ownsRow w.heap.size 113 3 (.slice (some ⟨g, 0, none⟩) 0 0) 0 (i64s (flat [])) ∧ Below w.heap.size w w' := by
  obtain ⟨i0, hi, hz0, hz1, hz2⟩ := info_parts infoRing
  go_enter Tryz.func27, Tryz.ntmps27
  go_wp2_with (at_make; refine wpList_make_full _ rfl _ _ 40 rfl w.heap.size 113 i0 (.agg #[.int .i64 0, .int .i64 0, .int .i64 0]) 3 Tryz.underlying40 hi hz0 hz1 .i64 .i64 _ _ 0 rfl rfl rfl rfl (by omega) (by unfold maxLen; omega) (Nat.le_refl _) ?_; intro w0 hown hgrow)
  have HB0 := Lib.hid ((Below.refl w.heap.size w).grown hgrow (Nat.le_refl _) (fun k hk => by cases hk))
  rw [made_rings] at hown
  have HO0 := Lib.hid hown
  clear hgrow hown
  go_wp2
  refine wp_loop_rounds 1 ?_
  rw [rounds_succ]
  go_wp2
  go_ret
  exact ⟨w.heap.size, rfl, Nat.le_refl _, (HO0.out.lt _ rfl).2, HO0.out, HB0.out⟩
def CopyRings (w : World) (rs : List Rg) (e : Ending) (w' : World) : Prop := ∃ v, e = .returned v ∧ OwnRings w' w.heap.size v rs ∧ Below w.heap.size w w'
theorem toRings_any (rs : List Rg) (v : Value) (w : World) (h : RingsAt w v rs) : Calls Tryz.prog 27 #[v] w (CopyRings w rs) := by
  obtain ⟨hl, ⟨a, c, rfl, rfl⟩ | ⟨b, off, cap, rfl, hlt, hc⟩⟩ := h
  · refine (toRings_none a c w).mono ?_
    rintro e w' ⟨g, rfl, h1, h2, h3, h4⟩
    exact ⟨_, rfl, ⟨g, _, rfl, h1, h2, h3⟩, h4⟩
  · refine (toRings_some rs b off cap w hl hlt (ring_in hc) _ (Lib.hid rfl)).mono ?_
    rintro e w' ⟨g, rfl, h1, h2, h3, h4⟩
    exact ⟨_, rfl, ⟨g, _, rfl, h1, h2, h3⟩, h4⟩
set_option maxHeartbeats 1000000 in
theorem eqRings_some (rs : List Rg) (b o c b2 o2 c2 : Nat) (w : World) (n : Nat) (hn1 : n ≤ 1048576) (hb : b < w.heap.size) (hb2 : b2 < w.heap.size)
    (h1 : ∀ i, i < n → RingIn w b (o + i * 3) (rs.getD i zR)) (h2 : ∀ i, i < n → RingIn w b2 (o2 + i * 3) (rs.getD i zR)) :
    Calls Tryz.prog 35 #[.slice (some ⟨b, o, none⟩) n c, .slice (some ⟨b2, o2, none⟩) n c2] w fun e w' => e = .returned (.bool true) ∧ Below w.heap.size w w' := by
  have H1 := Lib.hid h1
  have H2 := Lib.hid h2
  clear h1 h2
  have hne : ((n : Int) != n) = false := by simp
  go_enter Tryz.func35, Tryz.ntmps35
  go_wp2
  go_loopw [5] (fun i wr => ∃ k : Nat, k ≤ n ∧ i = .int .i64 k ∧ Below w.heap.size w wr) (fun i _ => n - (intOf i).toNat)
  case atStart => exact ⟨0, by omega, rfl, Below.refl _ _⟩
  case round =>
    obtain ⟨k, hk, rfl, hbw⟩ := hrel
    have HB := Lib.hid hbw
    clear hbw
    by_cases hlt : k < n
    · obtain ⟨c0, c1, c3⟩ := H1.out k hlt
      obtain ⟨d0, d1, d3⟩ := H2.out k hlt
      rw [← HB.out.cell (p := ⟨b, _, none⟩) hb] at c0 c1 c3
      rw [← HB.out.cell (p := ⟨b2, _, none⟩) hb2] at d0 d1 d3
      generalize rs.getD k zR = r at *
      obtain ⟨x, y, z⟩ := r
      have e0 : wr.cell? ⟨b, o + k * 3, none⟩ = some (.int .i64 x) := c0
      have e1 : wr.cell? ⟨b, o + k * 3 + 1, none⟩ = some (.int .i64 y) := c1
      have e2 : wr.cell? ⟨b, o + k * 3 + 2, none⟩ = some (.int .i64 z) := c3
      have g0 : wr.cell? ⟨b2, o2 + k * 3, none⟩ = some (.int .i64 x) := d0
      have g1 : wr.cell? ⟨b2, o2 + k * 3 + 1, none⟩ = some (.int .i64 y) := d1
      have g2 : wr.cell? ⟨b2, o2 + k * 3 + 2, none⟩ = some (.int .i64 z) := d3
      clear c0 c1 c3 d0 d1 d3
      have hlt1 : (k : Int) < (n : Int) := by omega
      have hk0 : (0 : Int) ≤ (k : Int) := by omega
      go_wp2
      go_region_with (go_at_call 58; refine (eqRing_any x y z _).mono ?_; rintro e w2 ⟨rfl, hb5⟩)
      all_goals
        have HB5 := Lib.hid (HB.out.trans ((show Below wr.heap.size wr w2 from ⟨hb5.os, hb5.tape, hb5.output, hb5.size, hb5.block⟩).mono HB.out.size))
        clear hb5
        go_wp2
        go_roundw
        case rel => exact ⟨k + 1, by omega, by go_num, HB5.out⟩
        case measure => simp [intOf]; omega
    · go_wp2
      go_ret
      exact ⟨rfl, HB.out⟩
theorem eqRings_zero (a a2 : Option Addr) (c c2 : Nat) (w : World) :
    Calls Tryz.prog 35 #[.slice a 0 c, .slice a2 0 c2] w fun e w' => e = .returned (.bool true) ∧ Below w.heap.size w w' := by
  go_enter Tryz.func35, Tryz.ntmps35
  go_wp2
  refine wp_loop_rounds 1 ?_
  rw [rounds_succ]
  go_wp2
  go_ret
  exact ⟨rfl, Below.refl _ _⟩
theorem rings_form {w : World} {v : Value} {zs : List Rg} (h : RingsAt w v zs) : ∃ a c, v = .slice a zs.length c := by
  obtain ⟨_, ⟨a, c, rfl, rfl⟩ | ⟨b, off, cap, rfl, _⟩⟩ := h
  · exact ⟨_, _, rfl⟩
  · exact ⟨_, _, rfl⟩
theorem eqRings_at (zs : List Rg) (v1 v2 : Value) (w : World) (h1 : RingsAt w v1 zs) (h2 : RingsAt w v2 zs) :
    Calls Tryz.prog 35 #[v1, v2] w fun e w' => e = .returned (.bool true) ∧ Below w.heap.size w w' := by
  obtain ⟨hl, ⟨a, c, rfl, rfl⟩ | ⟨b, off, cap, rfl, hb, hc⟩⟩ := h1
  · obtain ⟨a2, c2, rfl⟩ := rings_form h2
    exact eqRings_zero a a2 c c2 w
  · obtain ⟨_, ⟨a, c, rfl, rfl⟩ | ⟨b2, off2, cap2, rfl, hb2, hc2⟩⟩ := h2
    · exact eqRings_zero _ _ _ _ w
    · exact eqRings_some zs b off cap b2 off2 cap2 w _ hl hb hb2 (ring_in hc) (ring_in hc2)
end Go.Proofs.YtpjopfhkgegahaaGreat


namespace Go.Proofs.YtpjopfhkgegahaaGreat
open Go.ChangeShapes Go.WideShapes Go.ChangeAt Go.RowKit

theorem ownR_kept {w w' : World} {B : Nat} {v : Value} {zs : List Rg} (hb : Below w.heap.size w w') (h : OwnRings w B v zs) : OwnRings w' B v zs := by
  obtain ⟨g, cap, rfl, h1, h2, hown⟩ := h
  have hs := hb.size
  exact ⟨g, cap, rfl, h1, by omega, row_keepR hb hown⟩
theorem cell_lt5 {w : World} {a : Addr} {v : Value} (h : w.cell? a = some v) : a.block < w.heap.size := by
  unfold World.cell? at h
  cases hh : w.heap[a.block]? with
  | none => rw [hh] at h; simp at h
  | some o => exact (Array.getElem?_eq_some_iff.1 hh).1
theorem held4 {w5 W W2 : World} {b1 b2 : Nat} {x0 x1 y0 y1 : Value} (hz : b1 < w5.heap.size ∧ b2 < w5.heap.size) (h0 : w5.cell? ⟨b2, 0, none⟩ = some x0) (h1 : w5.cell? ⟨b2, 1, none⟩ = some x1) (h2 : w5.cell? ⟨b1, 0, none⟩ = some y0) (h3 : w5.cell? ⟨b1, 1, none⟩ = some y1)
    (hW : Below w5.heap.size w5 W) (hb : Below W.heap.size W W2) : W2.cell? ⟨b2, 0, none⟩ = some x0 ∧ W2.cell? ⟨b2, 1, none⟩ = some x1 ∧ W2.cell? ⟨b1, 0, none⟩ = some y0 ∧ W2.cell? ⟨b1, 1, none⟩ = some y1 ∧ Below w5.heap.size w5 W2 := by
  have h := below_of hW hb hW.size
  exact ⟨by rw [below_cell h _ _ hz.2]; exact h0, by rw [below_cell h _ _ hz.2]; exact h1, by rw [below_cell h _ _ hz.1]; exact h2, by rw [below_cell h _ _ hz.1]; exact h3, h⟩
/-- What is left of a measure. -/
def leftP (a b : Nat) (left : Int) : Int := if left - a < 0 then -1 else if left - a - b < 0 then -1 else left - a - b
theorem szRings_any (a : Option Addr) (n c : Nat) (left : Int) (w : World) (hn : n ≤ 9223372036854775807) (h0 : 0 ≤ left) (h1 : left ≤ 1048576) :
    Calls Tryz.prog 21 #[.slice a n c, .int .i64 left] w fun e w' => e = .returned (.int .i64 (if left - n < 0 then -1 else left - n)) ∧ w = w' := by
  by_cases h : left - n < 0
  · rw [if_pos h]
    go_enter Tryz.func21, Tryz.ntmps21
    go_wp2
    go_ret
    exact ⟨rfl, rfl⟩
  · rw [if_neg h]
    go_enter Tryz.func21, Tryz.ntmps21
    go_wp2
    go_ret
    exact ⟨rfl, rfl⟩
set_option maxHeartbeats 400000 in
theorem szProf_any (s : ByteArray) (a : Option Addr) (n c : Nat) (left : Int) (w : World) (hs : s.size ≤ 9223372036854775807) (hn : n ≤ 9223372036854775807) (h0 : 0 ≤ left) (h1 : left ≤ 1048576) :
    Calls Tryz.prog 6 #[.agg #[.string s, .slice a n c], .int .i64 left] w fun e w' => e = .returned (.int .i64 (leftP s.size n left)) ∧ Below w.heap.size w w' := by
  by_cases h : left - s.size < 0
  · have H := Lib.hid (show leftP s.size n left = -1 by unfold leftP; rw [if_pos h])
    go_enter Tryz.func6, Tryz.ntmps6
    go_wp2
    go_ret
    exact ⟨ret_i64 H.out.symm, (Below.refl _ _).alloc (Nat.le_refl _) _⟩
  · by_cases h2 : left - s.size - n < 0
    · have H := Lib.hid (show leftP s.size n left = -1 by unfold leftP; rw [if_neg h, if_pos h2])
      have HC := Lib.hid (show (if left - s.size - n < 0 then (-1 : Int) else left - s.size - n) = -1 by rw [if_pos h2])
      go_enter Tryz.func6, Tryz.ntmps6
      go_wp2_with fail
      refine (szRings_any a n c (left - s.size) _ hn (by omega) (by omega)).mono ?_
      rintro e w' ⟨rfl, rfl⟩
      rw [HC.out]
      go_wp2
      go_ret
      exact ⟨ret_i64 H.out.symm, (Below.refl _ _).alloc (Nat.le_refl _) _⟩
    · have H := Lib.hid (show leftP s.size n left = left - s.size - n by unfold leftP; rw [if_neg h, if_neg h2])
      have HC := Lib.hid (show (if left - s.size - n < 0 then (-1 : Int) else left - s.size - n) = left - s.size - n by rw [if_neg h2])
      go_enter Tryz.func6, Tryz.ntmps6
      go_wp2_with fail
      refine (szRings_any a n c (left - s.size) _ hn (by omega) (by omega)).mono ?_
      rintro e w' ⟨rfl, rfl⟩
      rw [HC.out]
      go_wp2
      go_ret
      exact ⟨ret_i64 H.out.symm, (Below.refl _ _).alloc (Nat.le_refl _) _⟩

theorem szProf_v (s : ByteArray) (v : Value) (n : Nat) (left : Int) (w : World) (hv : Hid (∃ a c, v = .slice a n c)) (hs : s.size ≤ 9223372036854775807) (hn : n ≤ 9223372036854775807) (h0 : 0 ≤ left) (h1 : left ≤ 1048576) :
    Calls Tryz.prog 6 #[.agg #[.string s, v], .int .i64 left] w fun e w' => e = .returned (.int .i64 (leftP s.size n left)) ∧ Below w.heap.size w w' := by
  obtain ⟨a, c, rfl⟩ := hv
  exact szProf_any s a n c left w hs hn h0 h1
theorem leftP_no {a b : Nat} {left : Int} (h : left < a + b) : leftP a b left = -1 := by
  unfold leftP
  split
  · rfl
  · rw [if_pos (by omega)]
theorem leftP_yes {a b : Nat} {left : Int} (h : (a : Int) + b ≤ left) : leftP a b left = left - a - b := by
  unfold leftP
  rw [if_neg (by omega), if_neg (by omega)]
/-- A slice of the call's own that reads as zs. -/
def OwnRAt (w : World) (B : Nat) (v : Value) (zs : List Rg) : Prop := ∃ B', B ≤ B' ∧ OwnRings w B' v zs
theorem ownRAt_kept {w w' : World} {B : Nat} {v : Value} {zs : List Rg} (hb : Below w.heap.size w w') (h : OwnRAt w B v zs) : OwnRAt w' B v zs := by
  obtain ⟨B', h1, h2⟩ := h
  exact ⟨B', h1, ownR_kept hb h2⟩
theorem ownRAt_rings {w : World} {B : Nat} {v : Value} {zs : List Rg} (hl : zs.length ≤ 1048576) (h : OwnRAt w B v zs) : RingsAt w v zs := by
  obtain ⟨_, _, h2⟩ := h
  exact own_rings hl h2

theorem ownR_set {w : World} {B : Nat} {v : Value} {zs : List Rg} (h : OwnRings w B v zs) (b o : Nat) (x : Value) (hb : b < B) : OwnRings (w.setCell ⟨b, o, none⟩ x) B v zs := by
  obtain ⟨g, cap, rfl, h1, h2, hown⟩ := h
  refine ⟨g, cap, rfl, h1, by simpa using h2, hown.kept (row := some b) ⟨rfl, rfl, rfl, by simp, fun k _ hk => Below.heap_setCell _ _ _ _ (by intro e; exact hk (by simp only at e; rw [e]))⟩ (.inr (by simp [Value.ownBlock]; omega))⟩
/-- What a copy is. -/
def CopyP (s : ByteArray) (zs : List Rg) (w : World) (e : Ending) (w' : World) : Prop := ∃ v, e = .returned (.agg #[.string s, v]) ∧ OwnRAt w' w.heap.size v zs ∧ Below w.heap.size w w'
set_option maxHeartbeats 2000000 in
theorem toProf_any (s : ByteArray) (v : Value) (zs : List Rg) (w : World) (h : RingsAt w v zs) :
    Calls Tryz.prog 10 #[.agg #[.string s, v]] w (CopyP s zs w) := by
  have HI := Lib.hid h
  obtain ⟨a, c, rfl⟩ := rings_form h
  clear h
  generalize hn : zs.length = n at *
  have HN := Lib.hid hn
  clear hn
  go_enter Tryz.func10, Tryz.ntmps10
  go_wp2_with fail
  refine (toRings_any zs _ _ (rings_kept ((((Below.refl _ _).alloc (Nat.le_refl _) _).alloc (by simp) _).alloc (by simp <;> omega) _) HI.out)).mono ?_
  rintro e w1 ⟨v', rfl, hown, hb⟩
  have HO := Lib.hid hown
  have HB := Lib.hid hb
  have c10 : w1.cell? ⟨w.heap.size + 1, 0, none⟩ = some (.string ⟨#[]⟩) := by rw [below_cell hb _ _ (by simp)]; go_simp
  have c11 : w1.cell? ⟨w.heap.size + 1, 1, none⟩ = some (.slice none 0 0) := by rw [below_cell hb _ _ (by simp)]; go_simp
  have c20 : w1.cell? ⟨w.heap.size + 1 + 1, 0, none⟩ = some (.string s) := by rw [below_cell hb _ _ (by simp)]; go_simp
  have c21 : w1.cell? ⟨w.heap.size + 1 + 1, 1, none⟩ = some (.slice none 0 0) := by rw [below_cell hb _ _ (by simp)]; go_simp
  have f10 : w1.frozen? ⟨w.heap.size + 1, 0, none⟩ = false := by rw [below_frozen hb _ _ (by simp)]; go_simp
  have f11 : w1.frozen? ⟨w.heap.size + 1, 1, none⟩ = false := by rw [below_frozen hb _ _ (by simp)]; go_simp
  have f21 : w1.frozen? ⟨w.heap.size + 1 + 1, 1, none⟩ = false := by rw [below_frozen hb _ _ (by simp)]; go_simp
  have hz : w.heap.size + 3 ≤ w1.heap.size := by have := hb.size; simp at this; omega
  obtain ⟨g, cap, rfl, hg1, hg2, -⟩ := hown
  clear hb
  simp at hg1
  have HG := Lib.hid hg1
  go_wp2
  refine bodyPost_ret (v := .agg #[.string s, .slice (some ⟨g, 0, none⟩) zs.length cap]) (by simp [results, Tryz.results10, go_sem, c10, c11]) rfl ⟨_, rfl, ⟨w.heap.size + 3, by omega, ownR_set (ownR_set (ownR_set ?_ _ _ _ (by omega)) _ _ _ (by omega)) _ _ _ (by omega)⟩, ?_⟩
  · have := HO.out
    simpa using this
  · have h3 : Below w.heap.size w w1 := ((((Below.refl _ _).alloc (Nat.le_refl _) _).alloc (by simp) _).alloc (by simp <;> omega) _).trans (HB.out.mono (by simp <;> omega))
    exact ((h3.setCell (by simp <;> omega) _).setCell (by simp) _).setCell (by simp) _
theorem eqProf_any (s : ByteArray) (v1 v2 : Value) (zs : List Rg) (w : World) (h1 : RingsAt w v1 zs) (h2 : RingsAt w v2 zs) :
    Calls Tryz.prog 15 #[.agg #[.string s, v1], .agg #[.string s, v2]] w fun e w' => e = .returned (.bool true) ∧ Below w.heap.size w w' := by
  have H1 := Lib.hid h1
  have H2 := Lib.hid h2
  obtain ⟨a1, c1, rfl⟩ := rings_form h1
  obtain ⟨a2, c2, rfl⟩ := rings_form h2
  clear h1 h2
  generalize hn : zs.length = n at *
  have HN := Lib.hid hn
  clear hn
  have hs : (s.toList != s.toList) = false := by simp
  go_enter Tryz.func15, Tryz.ntmps15
  go_wp2_with fail
  refine (eqRings_at zs _ _ _ (rings_kept (((Below.refl _ _).alloc (Nat.le_refl _) _).alloc (by simp) _) H1.out) (rings_kept (((Below.refl _ _).alloc (Nat.le_refl _) _).alloc (by simp) _) H2.out)).mono ?_
  rintro e w1 ⟨rfl, hb⟩
  have HB := Lib.hid (below_of (((Below.refl _ _).alloc (Nat.le_refl _) _).alloc (by simp) _) hb (by simp <;> omega))
  clear hb
  go_wp2
  go_ret
  exact ⟨rfl, HB.out⟩
end Go.Proofs.YtpjopfhkgegahaaGreat


namespace Go.Proofs.YtpjopfhkgegahaaGreat
open Go.ChangeShapes Go.WideShapes Go.ChangeAt Go.RowKit Go.Deep Go.Deep

section
variable {H : Type} {enc : TypeId × Value → H}
set_option maxRecDepth 20000 in
theorem rings_arg {W : World} {fuel : Nat} {a : Option Addr} {len cap : Nat} {d : DataW H} {p : List MemPlace} (hf : DataW.trod enc Tryz.prog W 0 (fun _ => true) true fuel 26 (Value.slice a len cap).cells.toList = some (d, p))
    (hlt : ∀ x ∈ p, x.block < W.heap.size) : len ≤ 9223372036854775807 ∧ (len ≤ 1048576 → ∃ rs : List Rg, rs.length = len ∧ RingsAt W (.slice a len cap) rs) := by
  have ce : Tryz.prog.cellsOf 115 = 3 := by kernel_rfl
  rcases open_slice Tryz.underlying26 hf with ⟨hcs, hx⟩ | ⟨a', len', cap', m, n, D, Pl, hcs, hb, hl, hm, hmm, hx, hel⟩
  · simp [Value.cells] at hcs
    obtain ⟨rfl, rfl, rfl⟩ := hcs
    exact ⟨by omega, fun _ => ⟨[], rfl, by simp, .inl ⟨_, _, rfl, rfl⟩⟩⟩
  · simp [Value.cells] at hcs
    obtain ⟨rfl, rfl, rfl⟩ := hcs
    simp only [Prod.mk.injEq] at hx
    obtain ⟨rfl, rfl⟩ := hx
    simp only [if_true] at hmm
    subst hmm
    rw [ce] at hel hlt
    unfold maxLen at hm
    have each : ∀ i, i < len → ∃ r : Rg, W.cell? (a'.add (i * 3)) = some (.int .i64 r.1) ∧ W.cell? (a'.add (i * 3 + 1)) = some (.int .i64 r.2.1) ∧ W.cell? (a'.add (i * 3 + 2)) = some (.int .i64 r.2.2) := by
      intro i hi
      obtain ⟨cs', h1, h2⟩ := hel i (by omega)
      obtain ⟨_, hlen, hcell⟩ := World.cells?_some h1
      obtain ⟨y0, y1, y2, k, -, -, g0, g1, g2⟩ := trod_struct3 Tryz.underlying115 h2
      match cs', hlen with
      | [v0, v1, v2], _ =>
        have c1 : Tryz.prog.cellsOf 2 = 1 := by kernel_rfl
        simp [c1] at g0 g1 g2
        obtain ⟨x, hx, -, -⟩ := DataW.trod_int Tryz.underlying2 g0
        obtain ⟨y, hy, -, -⟩ := DataW.trod_int Tryz.underlying2 g1
        obtain ⟨z, hz, -, -⟩ := DataW.trod_int Tryz.underlying2 g2
        simp only [List.cons.injEq, and_true] at hx hy hz
        subst hx hy hz
        have e0 := hcell 0 (by omega)
        have e1 := hcell 1 (by omega)
        have e2 := hcell 2 (by omega)
        rw [add_add] at e0 e1 e2
        exact ⟨(x, y, z), by simpa using e0, by simpa using e1, by simpa using e2⟩
    refine ⟨by omega, fun hs => ?_⟩
    obtain ⟨R, hR⟩ := choose_lt (α := Rg) each
    have hlR : ((List.range len).map R).length = len := by simp
    refine ⟨(List.range len).map R, hlR, by omega, ?_⟩
    by_cases hl0 : len = 0
    · subst hl0
      exact .inl ⟨_, _, rfl, by simp⟩
    · obtain ⟨b, off, spot⟩ := a'
      have hspot : spot = none := by simpa [Addr.add] using World.cell?_spot (hR 0 (by omega)).1
      subst hspot
      have hbW : b < W.heap.size := hlt (.cell b off) (List.mem_append.2 (.inl (MemPlace.mem_row.2 ⟨0, by omega, by simp⟩)))
      refine .inr ⟨b, off, _, by rw [hlR], hbW, fun j hj => ?_⟩
      rw [hlR] at hj
      obtain ⟨i, f, rfl, hf3⟩ : ∃ i f, j = i * 3 + f ∧ f < 3 := ⟨j / 3, j % 3, by omega, by omega⟩
      have hi : i < len := by omega
      obtain ⟨q0, q1, q2⟩ := flat_get ((List.range len).map R) i (by rw [hlR]; exact hi)
      have hg : ((List.range len).map R).getD i zR = R i := by simp [List.getD, hi]
      rw [hg] at q0 q1 q2
      obtain ⟨r0, r1, r2⟩ := hR i hi
      rcases (by omega : f = 0 ∨ f = 1 ∨ f = 2) with rfl | rfl | rfl
      · rw [List.getD_eq_getElem?_getD, Nat.add_zero, q0, Option.getD_some, ← add_plain]; exact r0
      · rw [List.getD_eq_getElem?_getD, q1, Option.getD_some, ← add_plain]; exact r1
      · rw [List.getD_eq_getElem?_getD, q2, Option.getD_some, ← add_plain]; exact r2
set_option maxRecDepth 20000 in
theorem ring_arg {W : World} {base : Nat} {v : Value} {d : DataW H} {p : List MemPlace} (hval : Value.okWide Tryz.prog W .any base 115 v) (h : DataW.Trod enc Tryz.prog W 0 (fun _ => true) true 115 v d p) :
    ∃ x y z : Int, v = .agg #[.int .i64 x, .int .i64 y, .int .i64 z] ∧ (Lit.int .i64 x).wf = true ∧ (Lit.int .i64 y).wf = true ∧ (Lit.int .i64 z).wf = true := by
  obtain ⟨v0, v1, v2, y0, y1, y2, n, rfl, rfl, rfl, h0, h1, h2⟩ := Joins.open_agg3 Tryz.underlying115 (by kernel_rfl) (by kernel_rfl) hval h
  obtain ⟨x, hx, -, wx⟩ := DataW.trod_int Tryz.underlying2 h0
  obtain ⟨y, hy, -, wy⟩ := DataW.trod_int Tryz.underlying2 h1
  obtain ⟨z, hz, -, wz⟩ := DataW.trod_int Tryz.underlying2 h2
  simp only [List.cons.injEq, and_true] at hx hy hz
  subst hx hy hz
  exact ⟨x, y, z, rfl, wx, wy, wz⟩
set_option maxRecDepth 20000 in
set_option maxRecDepth 20000 in
theorem prof_arg {W : World} {base : Nat} {v : Value} {d : DataW H} {p : List MemPlace} (hval : Value.okWide Tryz.prog W .any base 28 v) (h : DataW.Trod enc Tryz.prog W 0 (fun _ => true) true 28 v d p)
    (hlt : ∀ x ∈ p, x.block < W.heap.size) : ∃ (s : ByteArray) (a : Option Addr) (len cap : Nat), v = .agg #[.string s, .slice a len cap] ∧ (s.size ≤ 9223372036854775807 ∧ len ≤ 9223372036854775807) ∧
      (len ≤ 1048576 → ∃ rs : List Rg, rs.length = len ∧ RingsAt W (.slice a len cap) rs) := by
  obtain ⟨v0, v1, y0, y1, n, rfl, rfl, rfl, h0, h1⟩ := Joins.open_agg2 Tryz.underlying28 (by kernel_rfl) (by kernel_rfl) hval h
  obtain ⟨s, hs, rfl, hsz⟩ := DataW.trod_string Tryz.underlying9 h0
  obtain rfl : v0 = .string s := by simpa using hs
  have hv : ∃ a len cap, v1 = .slice a len cap := by
    rcases open_slice Tryz.underlying26 h1 with ⟨hcs, _⟩ | ⟨a', len', cap', m, n, D, Pl, hcs, _⟩
    · exact ⟨_, _, _, by simpa using hcs⟩
    · exact ⟨_, _, _, by simpa using hcs⟩
  obtain ⟨a, len, cap, rfl⟩ := hv
  have hk := rings_arg (a := a) (len := len) (cap := cap) (fuel := n) (d := y1.1) (p := y1.2) h1 (fun x hx => hlt x (by simp [hx]))
  unfold maxLen at hsz
  exact ⟨s, a, len, cap, rfl, ⟨by omega, hk.1⟩, hk.2⟩
end
end Go.Proofs.YtpjopfhkgegahaaGreat


namespace Go.Proofs.YtpjopfhkgegahaaGreat
open Go.ChangeShapes Go.WideShapes Go.ChangeAt Go.RowKit

def codeP (s : ByteArray) (rs : List Rg) : Int := if profB s rs = true then 0 else 1
def hgtR (s : ByteArray) (rs : List Rg) : Int := if profB s rs = true then heights rs else 0
def lipR (s : ByteArray) (rs : List Rg) : Int := if profB s rs = true then 2 * (rs.getD 0 zR).1 else 0
theorem ret_two {a b c d : Int} (h : a = b) (k : c = d) : Ending.returned (.tuple #[.int .i64 a, .int .i64 c]) = .returned (.tuple #[.int .i64 b, .int .i64 d]) := by rw [h, k]
theorem prof_alloc (w : World) (s : ByteArray) (v : Value) (T : TypeId) : ProfIn (w.alloc (.cells #[.string s, v] T)) w.heap.size s v := ⟨by go_simp, by go_simp⟩
theorem prof_keep {w w' : World} {p : Nat} {s : ByteArray} {v : Value} (hb : Below w.heap.size w w') (hp : p < w.heap.size) (h : ProfIn w p s v) : ProfIn w' p s v := ⟨(below_cell hb _ _ hp).trans h.c0, (below_cell hb _ _ hp).trans h.c1⟩
theorem alloc_lt2 (w : World) (o : Obj) : w.heap.size < (w.alloc o).heap.size := by show _ < (w.heap.push o).size; rw [Array.size_push]; omega
theorem below_al (w : World) (o : Obj) : Below w.heap.size w (w.alloc o) := (Below.refl _ _).alloc (Nat.le_refl _) o

end Go.Proofs.YtpjopfhkgegahaaGreat


namespace Go.Proofs.YtpjopfhkgegahaaGreat
open Go.ChangeShapes Go.WideShapes Go.ChangeAt Go.RowKit

set_option maxHeartbeats 1000000 in
theorem implValidRing_any (x y z : Int) (w : World) :
    Calls Tryz.prog 131 #[.agg #[.int .i64 x, .int .i64 y, .int .i64 z]] w fun e w' => e = .returned (.bool (ringB (x, y, z))) ∧ Below w.heap.size w w' := by
  rcases Bool.eq_false_or_eq_true (inB x 500 150000) with h1 | h1
  · obtain ⟨x0, x1⟩ := inB_iff.1 h1
    have HR := Lib.hid (ring_mid (y := y) (z := z) h1)
    have H1 := Lib.hid h1
    have hw : IntKind.i64.wrap (x - 100) = x - 100 := IntWalk.i64_in _ (by omega)
    clear h1
    rcases Bool.eq_false_or_eq_true (inB y 0 (x - 100)) with h2 | h2
    · have H2 := Lib.hid h2
      obtain ⟨c, h3⟩ : ∃ c, inB z 10 300000 = c := ⟨_, rfl⟩
      have HR2 := Lib.hid (show ringB (x, y, z) = c by rw [HR.out, h2, h3]; rfl)
      have H3 := Lib.hid h3
      clear h2 h3 HR
      go_enter Tryz.func131, Tryz.ntmps131
      go_wp2_with fail
      refine (within_i64 _ _ [x] _ 0 1 1 _ rfl (by omega) (cell_int _ _ _ _ (by simp))).mono ?_
      rintro e w' ⟨rfl, rfl⟩
      rw [all_one, H1.out]
      go_wp2_with fail
      refine (within_i64 _ _ [y] _ 0 1 1 _ rfl (by omega) (cell_int _ _ _ _ (by simp))).mono ?_
      rintro e w' ⟨rfl, rfl⟩
      rw [all_one, H2.out]
      go_wp2_with fail
      refine (within_i64 _ _ [z] _ 0 1 1 _ rfl (by omega) (cell_int _ _ _ _ (by simp))).mono ?_
      rintro e w' ⟨rfl, rfl⟩
      rw [all_one, H3.out]
      go_wp2
      go_ret
      exact ⟨ret_bool HR2.out.symm, ((((Below.refl _ _).alloc (Nat.le_refl _) _).alloc (by simp) _).alloc (by simp <;> omega) _).alloc (by simp <;> omega) _⟩
    · have H2 := Lib.hid h2
      have HR2 := Lib.hid (show ringB (x, y, z) = false by rw [HR.out, h2]; rfl)
      clear h2 HR
      go_enter Tryz.func131, Tryz.ntmps131
      go_wp2_with fail
      refine (within_i64 _ _ [x] _ 0 1 1 _ rfl (by omega) (cell_int _ _ _ _ (by simp))).mono ?_
      rintro e w' ⟨rfl, rfl⟩
      rw [all_one, H1.out]
      go_wp2_with fail
      refine (within_i64 _ _ [y] _ 0 1 1 _ rfl (by omega) (cell_int _ _ _ _ (by simp))).mono ?_
      rintro e w' ⟨rfl, rfl⟩
      rw [all_one, H2.out]
      go_wp2
      go_ret
      exact ⟨ret_bool HR2.out.symm, (((Below.refl _ _).alloc (Nat.le_refl _) _).alloc (by simp) _).alloc (by simp <;> omega) _⟩
  · have HR := Lib.hid (ring_no1 (y := y) (z := z) h1)
    have H1 := Lib.hid h1
    clear h1
    go_enter Tryz.func131, Tryz.ntmps131
    go_wp2_with fail
    refine (within_i64 _ _ [x] _ 0 1 1 _ rfl (by omega) (cell_int _ _ _ _ (by simp))).mono ?_
    rintro e w' ⟨rfl, rfl⟩
    rw [all_one, H1.out]
    go_wp2
    go_ret
    exact ⟨ret_bool HR.out.symm, ((Below.refl _ _).alloc (Nat.le_refl _) _).alloc (by simp) _⟩
theorem implCarries_any (x y z x2 y2 z2 : Int) (w : World) :
    Calls Tryz.prog 132 #[.agg #[.int .i64 x, .int .i64 y, .int .i64 z], .agg #[.int .i64 x2, .int .i64 y2, .int .i64 z2]] w fun e w' => e = .returned (.bool (joinB (x, y, z) (x2, y2, z2))) ∧ Below w.heap.size w w' := by
  have HJ := Lib.hid (show joinB (x, y, z) (x2, y2, z2) = (decide (y < x2) && decide (y2 < x)) from rfl)
  rcases Bool.eq_false_or_eq_true (decide (y < x2)) with h1 | h1
  · have H1 := Lib.hid h1
    go_enter Tryz.func132, Tryz.ntmps132
    go_wp2
    go_ret
    exact ⟨ret_bool (by rw [HJ.out, H1.out]; rfl), ((Below.refl _ _).alloc (Nat.le_refl _) _).alloc (by simp) _⟩
  · have H1 := Lib.hid h1
    go_enter Tryz.func132, Tryz.ntmps132
    go_wp2
    go_ret
    exact ⟨ret_bool (by rw [HJ.out, H1.out]; rfl), ((Below.refl _ _).alloc (Nat.le_refl _) _).alloc (by simp) _⟩
end Go.Proofs.YtpjopfhkgegahaaGreat


namespace Go.Proofs.YtpjopfhkgegahaaGreat

section
variable {P : Program} {ops : Array Oper} {Q : Exit → Act → World → Prop} {md : Region.Mode} {S : World → Prop}
/-- Operation i isn't wanted: its guard says no. -/
theorem skipH (i : Nat) (d : Option Tmp) {fuel : Nat} {listed : Array Bool} {a : Act} {w : World} (hS : S w) (hd : (ops[i]?).map Oper.dst = some d) (hw : (ops[i]?).map (fun o => Region.wanted o (yielded ops a.tmps)) = some false)
    (hs : Region.noSelect ops = true) (hf : Region.free md ops listed i = true) (hr : (Region.ready md ops listed).contains i = true)
    (hQ : ∀ c a w, Q (.panic c) (a.put d undef) w → Q (.panic c) a w)
    (h : wpAnyH P md ops Q S fuel (listed.setIfInBounds i true) (a.put d undef) w) : wpAnyH P md ops Q S (fuel + 1) listed a w := by
  cases ho : ops[i]? with
  | none => rw [ho] at hd; cases hd
  | some o =>
    rw [ho] at hd hw
    simp only [Option.map_some, Option.some.injEq] at hd hw
    subst hd
    exact wpAnyH_take (v := undef) ho hs hf hr hQ (Or.inr ⟨hw, rfl⟩) hS h
/-- Operation i yields v. -/
theorem takeH (i : Nat) (d : Option Tmp) (v : Value) {o : Oper} {fuel : Nat} {listed : Array Bool} {a : Act} {w : World} (hS : S w) (ho : ops[i]? = some o) (hd : o.dst = d)
    (hw : Region.wanted o (yielded ops a.tmps) = true) (hs : Region.noSelect ops = true) (hf : Region.free md ops listed i = true) (hr : (Region.ready md ops listed).contains i = true)
    (hQ : ∀ c a w, Q (.panic c) (a.put d v) w → Q (.panic c) a w) (hy : ∀ w, S w → (execOp a.eval o).run P w = .ok (.value v) w)
    (h : wpAnyH P md ops Q S fuel (listed.setIfInBounds i true) (a.put d v) w) : wpAnyH P md ops Q S (fuel + 1) listed a w := by
  subst hd
  exact wpAnyH_take ho hs hf hr hQ (Or.inl ⟨hw, hy⟩) hS h
/-- Operation i alone may come up. -/
theorem loneH (i : Nat) (d : Option Tmp) {o : Oper} {fuel : Nat} {listed : Array Bool} {a : Act} {w : World} (ho : ops[i]? = some o) (hd : o.dst = d) (hr : Region.ready md ops listed = [i]) (hw : Region.wanted o (yielded ops a.tmps) = true)
    (h : ∀ K' : Act → World → Prop, Shut (∀ v w, S w → (S w → wpAnyH P md ops Q S fuel (listed.setIfInBounds i true) (a.put d v) w) → K' (a.put d v) w) → Oper.wp P o a w K' Q) : wpAnyH P md ops Q S (fuel + 1) listed a w := by
  subst hd
  refine wpAnyH_ready (rs := [i]) hr (by simp) (AllReadyH.cons ho (fun K hK => ?_) AllReadyH.nil)
  rw [if_pos hw]
  exact h K (fun v w h1 h2 => hK.out _ _ h1 h2)
end
end Go.Proofs.YtpjopfhkgegahaaGreat


namespace Go.Proofs.YtpjopfhkgegahaaGreat
open Go.ChangeShapes Go.WideShapes Go.ChangeAt Go.RowKit

theorem cell_int1 (w : World) (x : Int) (T : TypeId) (n : Nat) (hn : n = w.heap.size) : ∀ j, j < 1 → (w.alloc (.cells #[.int .i64 x] T)).cell? ⟨n, 0 + j, none⟩ = some (.int .i64 ([x].getD j 0)) := cell_int w x T n hn
theorem ok_ring {rs : List Rg} {i : Nat} (h : okAt rs i = true) : ringB (rs.getD i zR) = true := by
  unfold okAt at h
  rw [Bool.and_eq_true] at h
  exact h.1
theorem heights_bd2 {rs : List Rg} (k : Nat) (h : ∀ i, i < k → ringB (rs.getD i zR) = true) (hk : k ≤ rs.length) : 0 ≤ heights (rs.take k) ∧ heights (rs.take k) ≤ 300000 * k := by
  induction k with
  | zero => simp [heights]
  | succ k ih =>
    have i1 := ih (fun i hi => h i (by omega)) (by omega)
    have i2 := (ring_iff.1 (h k (by omega))).2.2
    rw [heights_next rs k (by omega)]
    omega
theorem keepA {w w' : World} {g : Nat} {u0 u1 u2 : Value} (hz : g < w.heap.size) (g0 : w.cell? ⟨g, 0, none⟩ = some u0) (g1 : w.cell? ⟨g, 1, none⟩ = some u1) (g2 : w.cell? ⟨g, 2, none⟩ = some u2) (hb : Below w.heap.size w w') :
    w'.cell? ⟨g, 0, none⟩ = some u0 ∧ w'.cell? ⟨g, 1, none⟩ = some u1 ∧ w'.cell? ⟨g, 2, none⟩ = some u2 ∧ Below w.heap.size w w' :=
  ⟨(hb.cell (p := ⟨g, 0, none⟩) hz).trans g0, (hb.cell (p := ⟨g, 1, none⟩) hz).trans g1, (hb.cell (p := ⟨g, 2, none⟩) hz).trans g2, hb⟩
theorem keepA2 {w w' : World} {g p m : Nat} {u0 u1 u2 u3 : Value} (hz : g < w.heap.size) (hp : p < w.heap.size) (g0 : w.cell? ⟨g, 0, none⟩ = some u0) (g1 : w.cell? ⟨g, 1, none⟩ = some u1) (g2 : w.cell? ⟨g, 2, none⟩ = some u2) (p1 : w.cell? ⟨p, m, none⟩ = some u3) (hb : Below w.heap.size w w') :
    w'.cell? ⟨g, 0, none⟩ = some u0 ∧ w'.cell? ⟨g, 1, none⟩ = some u1 ∧ w'.cell? ⟨g, 2, none⟩ = some u2 ∧ w'.cell? ⟨p, m, none⟩ = some u3 ∧ Below w.heap.size w w' :=
  ⟨(hb.cell (p := ⟨g, 0, none⟩) hz).trans g0, (hb.cell (p := ⟨g, 1, none⟩) hz).trans g1, (hb.cell (p := ⟨g, 2, none⟩) hz).trans g2, (hb.cell (p := ⟨p, m, none⟩) hp).trans p1, hb⟩
theorem keepB {w w' : World} {g p b o m : Nat} {u0 u1 u2 u3 u4 u5 u6 : Value} (hz : g < w.heap.size) (hp : p < w.heap.size) (hbl : b < w.heap.size) (g0 : w.cell? ⟨g, 0, none⟩ = some u0) (g1 : w.cell? ⟨g, 1, none⟩ = some u1) (g2 : w.cell? ⟨g, 2, none⟩ = some u2)
    (p1 : w.cell? ⟨p, m, none⟩ = some u3) (q0 : w.cell? ⟨b, o, none⟩ = some u4) (q1 : w.cell? ⟨b, o + 1, none⟩ = some u5) (q2 : w.cell? ⟨b, o + 2, none⟩ = some u6) (hb : Below w.heap.size w w') :
    w'.cell? ⟨g, 0, none⟩ = some u0 ∧ w'.cell? ⟨g, 1, none⟩ = some u1 ∧ w'.cell? ⟨g, 2, none⟩ = some u2 ∧ w'.cell? ⟨p, m, none⟩ = some u3 ∧ w'.cell? ⟨b, o, none⟩ = some u4 ∧ w'.cell? ⟨b, o + 1, none⟩ = some u5 ∧ w'.cell? ⟨b, o + 2, none⟩ = some u6 ∧ Below w.heap.size w w' :=
  ⟨(hb.cell (p := ⟨g, 0, none⟩) hz).trans g0, (hb.cell (p := ⟨g, 1, none⟩) hz).trans g1, (hb.cell (p := ⟨g, 2, none⟩) hz).trans g2, (hb.cell (p := ⟨p, m, none⟩) hp).trans p1,
    (hb.cell (p := ⟨b, o, none⟩) hbl).trans q0, (hb.cell (p := ⟨b, o + 1, none⟩) hbl).trans q1, (hb.cell (p := ⟨b, o + 2, none⟩) hbl).trans q2, hb⟩
theorem below_drew {w w' : World} (hb : Below w.drew.heap.size w.drew w') : Below w.heap.size w w' := ⟨hb.os, hb.tape, hb.output, hb.size, hb.block⟩
set_option maxRecDepth 20000 in
set_option maxHeartbeats 4000000 in
theorem implValidP_any (s : ByteArray) (v : Value) (rs : List Rg) (w : World) (h : RingsAt w v rs) (hs : s.size ≤ maxLen) :
    Calls Tryz.prog 111 #[.agg #[.string s, v]] w fun e w' => e = .returned (.bool (profB s rs)) ∧ Below w.heap.size w w' := by
  have HI := Lib.hid h
  obtain ⟨a, c, rfl⟩ := rings_form h
  have hl := h.1
  clear h
  generalize hn : rs.length = n at *
  have HN := Lib.hid hn
  clear hn
  rcases Bool.eq_false_or_eq_true (nameB s) with h1 | h1
  · by_cases h2 : 1 ≤ n ∧ n ≤ 32
    · obtain ⟨n1, n2⟩ := h2
      have HE := Lib.hid (fun h3 => prof_end (s := s) (rs := rs) h1 (by rw [HN.out]; exact ⟨n1, n2⟩) h3)
      have HNO := Lib.hid (fun i (hi : i < rs.length) h => prof_no3 (s := s) (rs := rs) (i := i) hi h)
      have HW := Lib.hid (show inB (n : Int) 1 32 = true from inB_true (by omega))
      have HT := Lib.hid h1
      clear h1
      go_enter Tryz.func111, Tryz.ntmps111
      go_wp2_with fail
      refine (implIsName_any s _ hs).mono ?_
      rintro e w1 ⟨rfl, hb⟩
      rw [HT.out]
      have c0 : w1.cell? ⟨w.heap.size, 0, none⟩ = some (.string s) := by rw [below_cell hb _ _ (by simp)]; go_simp
      have c1 : w1.cell? ⟨w.heap.size, 1, none⟩ = some (.slice a n c) := by rw [below_cell hb _ _ (by simp)]; go_simp
      have hz1 : w.heap.size < w1.heap.size := by have := hb.size; simp at this; omega
      have HB := Lib.hid (below_of ((Below.refl _ _).alloc (Nat.le_refl _) _) hb (by simp))
      clear hb
      go_wp2_with fail
      refine (within_int _ _ [(n : Int)] _ 0 1 1 _ rfl (by omega) (cell_int _ _ _ _ rfl)).mono ?_
      rintro e w2 ⟨rfl, rfl⟩
      rw [all_one, HW.out]
      go_wp2
      obtain ⟨-, ⟨a', c', hv, h0⟩ | ⟨b, off, cap, hv, hbl, hc⟩⟩ := HI.out
      · exfalso; have := HN.out; rw [h0] at this; simp at this; omega
      simp only [Value.slice.injEq] at hv
      obtain ⟨rfl, -, rfl⟩ := hv
      have HC := Lib.hid (fun i (hi : i < n) => ring_in hc i (by rw [HN.out]; exact hi))
      clear hc
      go_loopw [3, 21] (fun L i wr => ∃ k : Nat, k ≤ n ∧ i = .int .i64 k ∧ L = .int .i64 (heights (rs.take k)) ∧ Hid (∀ j, j < k → okAt rs j = true) ∧ Below w.heap.size w wr ∧ wr.cell? ⟨w.heap.size, 0, none⟩ = some (.string s) ∧ wr.cell? ⟨w.heap.size, 1, none⟩ = some (.slice (some ⟨b, off, none⟩) n c) ∧ w.heap.size < wr.heap.size) (fun _ i _ => n - (intOf i).toNat)
      case atStart => exact ⟨0, by omega, rfl, by simp [heights], Lib.hid (fun j hj => by omega), HB.out.alloc (by omega) _, by go_simp, by go_simp, by simp; omega⟩
      case round =>
        obtain ⟨k, hk, rfl, rfl, HA, hbw, d0, d1, hzr⟩ := hrel
        have HBW := Lib.hid hbw
        clear hbw
        by_cases hlt : k < n
        · have hr := HC.out k hlt
          obtain ⟨⟨x, y, z⟩, hxyz⟩ : ∃ r, rs.getD k zR = r := ⟨_, rfl⟩
          rw [hxyz] at hr
          have HXYZ := Lib.hid hxyz
          have e0 : wr.cell? ⟨b, off + k * 3, none⟩ = some (.int .i64 x) := (below_cell HBW.out _ _ hbl).trans hr.c0
          have e1 : wr.cell? ⟨b, off + k * 3 + 1, none⟩ = some (.int .i64 y) := (below_cell HBW.out _ _ hbl).trans hr.c1
          have e2 : wr.cell? ⟨b, off + k * 3 + 2, none⟩ = some (.int .i64 z) := (below_cell HBW.out _ _ hbl).trans hr.c2
          have hkm : (k : Int) < (n : Int) := by omega
          have hk0 : (0 : Int) ≤ (k : Int) := by omega
          clear hr hxyz c0 c1
          go_wp2
          have hzA : wr.heap.size < (wr.alloc (Obj.cells #[Value.int IntKind.i64 x, Value.int IntKind.i64 y, Value.int IntKind.i64 z] 113)).heap.size := by simp
          have hbA := (Below.refl wr.heap.size wr).alloc (Nat.le_refl _) (Obj.cells #[Value.int IntKind.i64 x, Value.int IntKind.i64 y, Value.int IntKind.i64 z] 113)
          have g0 : (wr.alloc (Obj.cells #[Value.int IntKind.i64 x, Value.int IntKind.i64 y, Value.int IntKind.i64 z] 113)).cell? ⟨wr.heap.size, 0, none⟩ = some (.int .i64 x) := by go_simp
          have g1 : (wr.alloc (Obj.cells #[Value.int IntKind.i64 x, Value.int IntKind.i64 y, Value.int IntKind.i64 z] 113)).cell? ⟨wr.heap.size, 1, none⟩ = some (.int .i64 y) := by go_simp
          have g2 : (wr.alloc (Obj.cells #[Value.int IntKind.i64 x, Value.int IntKind.i64 y, Value.int IntKind.i64 z] 113)).cell? ⟨wr.heap.size, 2, none⟩ = some (.int .i64 z) := by go_simp
          have p0 := (below_cell hbA _ _ hzr).trans d0
          have p1 := (below_cell hbA _ _ hzr).trans d1
          have HBA := Lib.hid (below_of HBW.out hbA HBW.out.size)
          have hzw : wr.heap.size < (wr.alloc (Obj.cells #[Value.int IntKind.i64 x, Value.int IntKind.i64 y, Value.int IntKind.i64 z] 113)).heap.size := hzA
          clear hbA d0 d1 e0 e1 e2
          generalize (wr.alloc (Obj.cells #[Value.int IntKind.i64 x, Value.int IntKind.i64 y, Value.int IntKind.i64 z] 113)) = wA at *
          have hzp : w.heap.size < wA.heap.size := by omega
          rcases Bool.eq_false_or_eq_true (ringB (x, y, z)) with h4 | h4
          · have H4 := Lib.hid h4
            have HRI := Lib.hid (ring_iff.1 h4)
            by_cases hkz : k = 0
            · have HOK := Lib.hid (show okAt rs k = true by unfold okAt; rw [HXYZ.out, h4, decide_eq_true hkz]; rfl)
              have hg2 : decide ((0 : Int) < (k : Int)) = false := decide_eq_false (by omega)
              have hg3 : decide (0 < k) = false := decide_eq_false (by omega)
              clear h4 hkz
              refine wp_region_held_drew (S := (fun w' => w'.cell? ⟨wr.heap.size, 0, none⟩ = some (.int .i64 x) ∧ w'.cell? ⟨wr.heap.size, 1, none⟩ = some (.int .i64 y) ∧ w'.cell? ⟨wr.heap.size, 2, none⟩ = some (.int .i64 z) ∧ Below wA.heap.size wA w')) (by kernel_rfl) (⟨g0, g1, g2, ⟨rfl, rfl, rfl, Nat.le_refl _, fun _ _ => rfl⟩⟩) (fun hHeld => ?_)
              refine takeH 0 (some 26) (.agg #[.int .i64 x, .int .i64 y, .int .i64 z]) hHeld rfl rfl (by rfl) (by kernel_rfl) (by kernel_rfl) (by kernel_rfl) (fun _ _ _ h => h) (fun wS hSw => ?_) ?_
              · ((try dsimp only at hSw); go_simp; try with_reducible rfl)
              simp only [Act.put, List.setIfInBounds_toArray, List.set_cons_zero, List.set_cons_succ]
              refine loneH 1 (some 27) rfl rfl (by kernel_rfl) (by rfl) (fun K hK => ?_)
              go_simp; refine (implValidRing_any x y z wA.drew).mono ?_; rintro e w6 ⟨rfl, hb6⟩; rw [H4.out]
              refine hK.out _ _ (keepA hzA g0 g1 g2 (below_drew hb6)) (fun hHeld2 => ?_)
              clear hK K hHeld
              have hHeld := hHeld2
              clear hHeld2
              simp only [Act.put, List.setIfInBounds_toArray, List.set_cons_zero, List.set_cons_succ]
              refine takeH 2 (some 28) (.bool false) hHeld rfl rfl (by rfl) (by kernel_rfl) (by kernel_rfl) (by kernel_rfl) (fun _ _ _ h => h) (fun wS hSw => ?_) ?_
              · ((try dsimp only at hSw); go_simp; try with_reducible rfl)
              simp only [Act.put, List.setIfInBounds_toArray, List.set_cons_zero, List.set_cons_succ]
              refine takeH 3 (some 29) (.bool false) hHeld rfl rfl (by rfl) (by kernel_rfl) (by kernel_rfl) (by kernel_rfl) (fun _ _ _ h => h) (fun wS hSw => ?_) ?_
              · ((try dsimp only at hSw); go_simp; try with_reducible rfl)
              simp only [Act.put, List.setIfInBounds_toArray, List.set_cons_zero, List.set_cons_succ]
              refine takeH 4 (some 30) (.int .i64 k) hHeld rfl rfl (by rfl) (by kernel_rfl) (by kernel_rfl) (by kernel_rfl) (fun _ _ _ h => h) (fun wS hSw => ?_) ?_
              · ((try dsimp only at hSw); go_simp; try with_reducible rfl)
              simp only [Act.put, List.setIfInBounds_toArray, List.set_cons_zero, List.set_cons_succ]
              refine takeH 5 (some 31) (.bool false) hHeld rfl rfl (by rfl) (by kernel_rfl) (by kernel_rfl) (by kernel_rfl) (fun _ _ _ h => h) (fun wS hSw => ?_) ?_
              · ((try dsimp only at hSw); go_simp; try with_reducible rfl)
              simp only [Act.put, List.setIfInBounds_toArray, List.set_cons_zero, List.set_cons_succ]
              refine takeH 6 (some 32) (.bool false) hHeld rfl rfl (by rfl) (by kernel_rfl) (by kernel_rfl) (by kernel_rfl) (fun _ _ _ h => h) (fun wS hSw => ?_) ?_
              · ((try dsimp only at hSw); go_simp; try with_reducible rfl)
              simp only [Act.put, List.setIfInBounds_toArray, List.set_cons_zero, List.set_cons_succ]
              refine skipH 7 (some 33) hHeld rfl (by rfl) (by kernel_rfl) (by kernel_rfl) (by kernel_rfl) (fun _ _ _ h => h) ?_
              simp only [Act.put, List.setIfInBounds_toArray, List.set_cons_zero, List.set_cons_succ]
              refine skipH 8 (some 34) hHeld rfl (by rfl) (by kernel_rfl) (by kernel_rfl) (by kernel_rfl) (fun _ _ _ h => h) ?_
              simp only [Act.put, List.setIfInBounds_toArray, List.set_cons_zero, List.set_cons_succ]
              refine skipH 9 (some 35) hHeld rfl (by rfl) (by kernel_rfl) (by kernel_rfl) (by kernel_rfl) (fun _ _ _ h => h) ?_
              simp only [Act.put, List.setIfInBounds_toArray, List.set_cons_zero, List.set_cons_succ]
              refine skipH 10 (some 36) hHeld rfl (by rfl) (by kernel_rfl) (by kernel_rfl) (by kernel_rfl) (fun _ _ _ h => h) ?_
              simp only [Act.put, List.setIfInBounds_toArray, List.set_cons_zero, List.set_cons_succ]
              refine skipH 11 (some 37) hHeld rfl (by rfl) (by kernel_rfl) (by kernel_rfl) (by kernel_rfl) (fun _ _ _ h => h) ?_
              simp only [Act.put, List.setIfInBounds_toArray, List.set_cons_zero, List.set_cons_succ]
              refine skipH 12 (some 38) hHeld rfl (by rfl) (by kernel_rfl) (by kernel_rfl) (by kernel_rfl) (fun _ _ _ h => h) ?_
              simp only [Act.put, List.setIfInBounds_toArray, List.set_cons_zero, List.set_cons_succ]
              refine skipH 13 (some 39) hHeld rfl (by rfl) (by kernel_rfl) (by kernel_rfl) (by kernel_rfl) (fun _ _ _ h => h) ?_
              simp only [Act.put, List.setIfInBounds_toArray, List.set_cons_zero, List.set_cons_succ]
              refine skipH 14 (some 40) hHeld rfl (by rfl) (by kernel_rfl) (by kernel_rfl) (by kernel_rfl) (fun _ _ _ h => h) ?_
              simp only [Act.put, List.setIfInBounds_toArray, List.set_cons_zero, List.set_cons_succ]
              refine skipH 15 (some 41) hHeld rfl (by rfl) (by kernel_rfl) (by kernel_rfl) (by kernel_rfl) (fun _ _ _ h => h) ?_
              simp only [Act.put, List.setIfInBounds_toArray, List.set_cons_zero, List.set_cons_succ]
              refine takeH 16 (some 42) (.bool false) hHeld rfl rfl (by rfl) (by kernel_rfl) (by kernel_rfl) (by kernel_rfl) (fun _ _ _ h => h) (fun wS hSw => ?_) ?_
              · ((try dsimp only at hSw); go_simp; try with_reducible rfl)
              simp only [Act.put, List.setIfInBounds_toArray, List.set_cons_zero, List.set_cons_succ]
              refine takeH 17 (some 43) (.bool false) hHeld rfl rfl (by rfl) (by kernel_rfl) (by kernel_rfl) (by kernel_rfl) (fun _ _ _ h => h) (fun wS hSw => ?_) ?_
              · ((try dsimp only at hSw); go_simp; try with_reducible rfl)
              simp only [Act.put, List.setIfInBounds_toArray, List.set_cons_zero, List.set_cons_succ]
              refine wpAnyH_done (by kernel_rfl) ?_ _
              obtain ⟨k0, k1, k2, kb⟩ := hHeld
              have HBR := Lib.hid (below_of HBA.out kb HBA.out.size)
              have d0 := (below_cell kb _ _ hzp).trans p0
              have d1 := (below_cell kb _ _ hzp).trans p1
              have hz6 := Nat.lt_of_lt_of_le hzp kb.size
              have hbd := heights_bd2 (rs := rs) k (fun i hi => ok_ring (HA.out i hi)) (by rw [HN.out]; exact hk)
              have HX := Lib.hid (show heights (rs.take (k + 1)) = heights (rs.take k) + z by rw [heights_next rs k (by rw [HN.out]; exact hlt), HXYZ.out])
              obtain ⟨y9, hy9⟩ : ∃ y9, heights (rs.take k) = y9 := ⟨_, rfl⟩
              rw [hy9] at hbd HX
              have HY9 := Lib.hid hy9
              have hrz := HRI.out.2.2
              try simp only at hrz
              have hwr : IntKind.i64.wrap (y9 + z) = y9 + z := IntWalk.i64_in _ (by omega)
              try rw [hy9]
              clear hy9 hbd p0 p1 g0 g1
              go_wp2
              go_roundw
              case rel => exact ⟨k + 1, by omega, by go_num, by rw [HX.out], Lib.hid (fun j hj => by
                by_cases e : j = k
                · subst e; exact HOK.out
                · exact HA.out j (by omega)), HBR.out, d0, d1, hz6⟩
              case measure => simp [intOf]; omega
            · obtain ⟨q, hq⟩ : ∃ q, k = q + 1 := ⟨k - 1, by omega⟩
              have hr2 := HC.out q (by omega)
              obtain ⟨⟨x2, y2, z2⟩, hx2⟩ : ∃ r, rs.getD q zR = r := ⟨_, rfl⟩
              rw [hx2] at hr2
              have hblA : b < wA.heap.size := by have := HBA.out.size; omega
              have q0 : wA.cell? ⟨b, off + q * 3, none⟩ = some (.int .i64 x2) := (below_cell HBA.out _ _ hbl).trans hr2.c0
              have q1 : wA.cell? ⟨b, off + q * 3 + 1, none⟩ = some (.int .i64 y2) := (below_cell HBA.out _ _ hbl).trans hr2.c1
              have q2 : wA.cell? ⟨b, off + q * 3 + 2, none⟩ = some (.int .i64 z2) := (below_cell HBA.out _ _ hbl).trans hr2.c2
              have hg : (0 : Int) < (k : Int) := by omega
              have hg2 : 0 < k := by omega
              have hg3 : decide (0 < k) = true := decide_eq_true hg2
              have hq0 : (0 : Int) ≤ (q : Int) := by omega
              have hq1 : (q : Int) < (n : Int) := by omega
              have hw1 : IntKind.i64.wrap ((k : Int) - 1) = (q : Int) := by rw [show ((k : Int) - 1) = (q : Int) by omega]; exact IntWalk.i64_in _ (by omega)
              obtain ⟨jj, h5⟩ : ∃ jj, joinB (x2, y2, z2) (x, y, z) = jj := ⟨_, rfl⟩
              have H5 := Lib.hid h5
              have HJ := Lib.hid (show okAt rs k = jj by unfold okAt; rw [HXYZ.out, h4, decide_eq_false hkz, show k - 1 = q by omega, hx2, h5]; rfl)
              have HQ := Lib.hid hq
              clear hr2 hx2 h4 h5 hq hkz
              go_region_held3 (fun w' => w'.cell? ⟨wr.heap.size, 0, none⟩ = some (.int .i64 x) ∧ w'.cell? ⟨wr.heap.size, 1, none⟩ = some (.int .i64 y) ∧ w'.cell? ⟨wr.heap.size, 2, none⟩ = some (.int .i64 z) ∧ w'.cell? ⟨w.heap.size, 1, none⟩ = some (.slice (some ⟨b, off, none⟩) n c) ∧ w'.cell? ⟨b, off + q * 3, none⟩ = some (.int .i64 x2) ∧ w'.cell? ⟨b, off + q * 3 + 1, none⟩ = some (.int .i64 y2) ∧ w'.cell? ⟨b, off + q * 3 + 2, none⟩ = some (.int .i64 z2) ∧ Below wA.heap.size wA w')
                (first | exact ⟨g0, g1, g2, p1, q0, q1, q2, ⟨rfl, rfl, rfl, Nat.le_refl _, fun _ _ => rfl⟩⟩ | exact keepB hzA hzp hblA g0 g1 g2 p1 q0 q1 q2 (below_drew hb6) | exact keepB hzA hzp hblA g0 g1 g2 p1 q0 q1 q2 (below_of (below_drew hb6) hb7 (below_drew hb6).size) | assumption)
                (first | (go_at_call 131; refine (implValidRing_any x y z wA.drew).mono ?_; rintro e w6 ⟨rfl, hb6⟩; rw [H4.out]) | (go_at_call 132; refine (implCarries_any x2 y2 z2 x y z w6).mono ?_; rintro e w7 ⟨rfl, hb7⟩; rw [H5.out]))
              have kb : Below wA.heap.size wA w7 := below_of (below_drew hb6) hb7 (below_drew hb6).size
              have k2 : w7.cell? ⟨wr.heap.size, 2, none⟩ = some (.int .i64 z) := (below_cell kb _ _ hzA).trans g2
              clear hb6 hb7
              cases jj
              · have HF := Lib.hid (HNO.out k (by rw [HN.out]; exact hlt) HJ.out)
                have HBR := Lib.hid (below_of HBA.out kb HBA.out.size)
                clear kb
                go_wp2
                go_ret
                exact ⟨ret_bool HF.out.symm, HBR.out⟩
              · have HOK := Lib.hid HJ.out
                have HBR := Lib.hid (below_of HBA.out kb HBA.out.size)
                have d0 := (below_cell kb _ _ hzp).trans p0
                have d1 := (below_cell kb _ _ hzp).trans p1
                have hz6 := Nat.lt_of_lt_of_le hzp kb.size
                have hbd := heights_bd2 (rs := rs) k (fun i hi => ok_ring (HA.out i hi)) (by rw [HN.out]; exact hk)
                have HX := Lib.hid (show heights (rs.take (k + 1)) = heights (rs.take k) + z by rw [heights_next rs k (by rw [HN.out]; exact hlt), HXYZ.out])
                obtain ⟨y9, hy9⟩ : ∃ y9, heights (rs.take k) = y9 := ⟨_, rfl⟩
                rw [hy9] at hbd HX
                have HY9 := Lib.hid hy9
                have hrz := HRI.out.2.2
                try simp only at hrz
                have hwr : IntKind.i64.wrap (y9 + z) = y9 + z := IntWalk.i64_in _ (by omega)
                try rw [hy9]
                clear hy9 hbd p0 p1 g0 g1
                go_wp2
                go_roundw
                case rel => exact ⟨k + 1, by omega, by go_num, by rw [HX.out], Lib.hid (fun j hj => by
                  by_cases e : j = k
                  · subst e; exact HOK.out
                  · exact HA.out j (by omega)), HBR.out, d0, d1, hz6⟩
                case measure => simp [intOf]; omega
          · have H4 := Lib.hid h4
            have HF := Lib.hid (HNO.out k (by rw [HN.out]; exact hlt) (by unfold okAt; rw [HXYZ.out, h4]; rfl))
            clear h4
            refine wp_region_held_drew (S := (fun w' => w'.cell? ⟨wr.heap.size, 0, none⟩ = some (.int .i64 x) ∧ w'.cell? ⟨wr.heap.size, 1, none⟩ = some (.int .i64 y) ∧ w'.cell? ⟨wr.heap.size, 2, none⟩ = some (.int .i64 z) ∧ Below wA.heap.size wA w')) (by kernel_rfl) (⟨g0, g1, g2, ⟨rfl, rfl, rfl, Nat.le_refl _, fun _ _ => rfl⟩⟩) (fun hHeld => ?_)
            refine takeH 0 (some 26) (.agg #[.int .i64 x, .int .i64 y, .int .i64 z]) hHeld rfl rfl (by rfl) (by kernel_rfl) (by kernel_rfl) (by kernel_rfl) (fun _ _ _ h => h) (fun wS hSw => ?_) ?_
            · ((try dsimp only at hSw); go_simp; try with_reducible rfl)
            simp only [Act.put, List.setIfInBounds_toArray, List.set_cons_zero, List.set_cons_succ]
            refine loneH 1 (some 27) rfl rfl (by kernel_rfl) (by rfl) (fun K hK => ?_)
            go_simp; refine (implValidRing_any x y z wA.drew).mono ?_; rintro e w6 ⟨rfl, hb6⟩; rw [H4.out]
            refine hK.out _ _ (keepA hzA g0 g1 g2 (below_drew hb6)) (fun hHeld2 => ?_)
            clear hK K hHeld
            have hHeld := hHeld2
            clear hHeld2
            simp only [Act.put, List.setIfInBounds_toArray, List.set_cons_zero, List.set_cons_succ]
            refine takeH 2 (some 28) (.bool true) hHeld rfl rfl (by rfl) (by kernel_rfl) (by kernel_rfl) (by kernel_rfl) (fun _ _ _ h => h) (fun wS hSw => ?_) ?_
            · ((try dsimp only at hSw); go_simp; try with_reducible rfl)
            simp only [Act.put, List.setIfInBounds_toArray, List.set_cons_zero, List.set_cons_succ]
            refine takeH 3 (some 29) (.bool true) hHeld rfl rfl (by rfl) (by kernel_rfl) (by kernel_rfl) (by kernel_rfl) (fun _ _ _ h => h) (fun wS hSw => ?_) ?_
            · ((try dsimp only at hSw); go_simp; try with_reducible rfl)
            simp only [Act.put, List.setIfInBounds_toArray, List.set_cons_zero, List.set_cons_succ]
            refine skipH 4 (some 30) hHeld rfl (by rfl) (by kernel_rfl) (by kernel_rfl) (by kernel_rfl) (fun _ _ _ h => h) ?_
            simp only [Act.put, List.setIfInBounds_toArray, List.set_cons_zero, List.set_cons_succ]
            refine skipH 5 (some 31) hHeld rfl (by rfl) (by kernel_rfl) (by kernel_rfl) (by kernel_rfl) (fun _ _ _ h => h) ?_
            simp only [Act.put, List.setIfInBounds_toArray, List.set_cons_zero, List.set_cons_succ]
            refine skipH 6 (some 32) hHeld rfl (by rfl) (by kernel_rfl) (by kernel_rfl) (by kernel_rfl) (fun _ _ _ h => h) ?_
            simp only [Act.put, List.setIfInBounds_toArray, List.set_cons_zero, List.set_cons_succ]
            refine skipH 7 (some 33) hHeld rfl (by rfl) (by kernel_rfl) (by kernel_rfl) (by kernel_rfl) (fun _ _ _ h => h) ?_
            simp only [Act.put, List.setIfInBounds_toArray, List.set_cons_zero, List.set_cons_succ]
            refine skipH 8 (some 34) hHeld rfl (by rfl) (by kernel_rfl) (by kernel_rfl) (by kernel_rfl) (fun _ _ _ h => h) ?_
            simp only [Act.put, List.setIfInBounds_toArray, List.set_cons_zero, List.set_cons_succ]
            refine skipH 9 (some 35) hHeld rfl (by rfl) (by kernel_rfl) (by kernel_rfl) (by kernel_rfl) (fun _ _ _ h => h) ?_
            simp only [Act.put, List.setIfInBounds_toArray, List.set_cons_zero, List.set_cons_succ]
            refine skipH 10 (some 36) hHeld rfl (by rfl) (by kernel_rfl) (by kernel_rfl) (by kernel_rfl) (fun _ _ _ h => h) ?_
            simp only [Act.put, List.setIfInBounds_toArray, List.set_cons_zero, List.set_cons_succ]
            refine skipH 11 (some 37) hHeld rfl (by rfl) (by kernel_rfl) (by kernel_rfl) (by kernel_rfl) (fun _ _ _ h => h) ?_
            simp only [Act.put, List.setIfInBounds_toArray, List.set_cons_zero, List.set_cons_succ]
            refine skipH 12 (some 38) hHeld rfl (by rfl) (by kernel_rfl) (by kernel_rfl) (by kernel_rfl) (fun _ _ _ h => h) ?_
            simp only [Act.put, List.setIfInBounds_toArray, List.set_cons_zero, List.set_cons_succ]
            refine skipH 13 (some 39) hHeld rfl (by rfl) (by kernel_rfl) (by kernel_rfl) (by kernel_rfl) (fun _ _ _ h => h) ?_
            simp only [Act.put, List.setIfInBounds_toArray, List.set_cons_zero, List.set_cons_succ]
            refine skipH 14 (some 40) hHeld rfl (by rfl) (by kernel_rfl) (by kernel_rfl) (by kernel_rfl) (fun _ _ _ h => h) ?_
            simp only [Act.put, List.setIfInBounds_toArray, List.set_cons_zero, List.set_cons_succ]
            refine skipH 15 (some 41) hHeld rfl (by rfl) (by kernel_rfl) (by kernel_rfl) (by kernel_rfl) (fun _ _ _ h => h) ?_
            simp only [Act.put, List.setIfInBounds_toArray, List.set_cons_zero, List.set_cons_succ]
            refine skipH 16 (some 42) hHeld rfl (by rfl) (by kernel_rfl) (by kernel_rfl) (by kernel_rfl) (fun _ _ _ h => h) ?_
            simp only [Act.put, List.setIfInBounds_toArray, List.set_cons_zero, List.set_cons_succ]
            refine takeH 17 (some 43) (.bool true) hHeld rfl rfl (by rfl) (by kernel_rfl) (by kernel_rfl) (by kernel_rfl) (fun _ _ _ h => h) (fun wS hSw => ?_) ?_
            · ((try dsimp only at hSw); go_simp; try with_reducible rfl)
            simp only [Act.put, List.setIfInBounds_toArray, List.set_cons_zero, List.set_cons_succ]
            refine wpAnyH_done (by kernel_rfl) ?_ _
            obtain ⟨k0, k1, k2, kb⟩ := hHeld
            have HBR := Lib.hid (below_of HBA.out kb HBA.out.size)
            clear kb
            go_wp2
            go_ret
            exact ⟨ret_bool HF.out.symm, HBR.out⟩
        · obtain rfl : k = n := by omega
          have HF := Lib.hid (HE.out (fun i hi => HA.out i (by have := HN.out; omega)))
          have HT2 := Lib.hid (show heights (rs.take k) = heights rs by rw [List.take_of_length_le (by have := HN.out; omega)])
          generalize heights (rs.take k) = y9 at *
          clear c0 c1
          go_wp2
          go_ret
          exact ⟨ret_bool (by rw [HF.out, HT2.out]), HBW.out⟩
    · have HF := Lib.hid (prof_no2 (s := s) (rs := rs) (by rw [HN.out]; exact h2))
      have HW := Lib.hid (show inB (n : Int) 1 32 = false from by rcases Bool.eq_false_or_eq_true (inB (n : Int) 1 32) with h | h; (exfalso; have := inB_iff.1 h; omega); exact h)
      have HT := Lib.hid h1
      rw [HF.out]
      clear h1 h2
      go_enter Tryz.func111, Tryz.ntmps111
      go_wp2_with fail
      refine (implIsName_any s _ hs).mono ?_
      rintro e w1 ⟨rfl, hb⟩
      rw [HT.out]
      have c0 : w1.cell? ⟨w.heap.size, 0, none⟩ = some (.string s) := by rw [below_cell hb _ _ (by simp)]; go_simp
      have c1 : w1.cell? ⟨w.heap.size, 1, none⟩ = some (.slice a n c) := by rw [below_cell hb _ _ (by simp)]; go_simp
      have hz1 : w.heap.size < w1.heap.size := by have := hb.size; simp at this; omega
      have HB := Lib.hid (below_of ((Below.refl _ _).alloc (Nat.le_refl _) _) hb (by simp))
      clear hb
      go_wp2_with fail
      refine (within_int _ _ [(n : Int)] _ 0 1 1 _ rfl (by omega) (cell_int _ _ _ _ rfl)).mono ?_
      rintro e w2 ⟨rfl, rfl⟩
      rw [all_one, HW.out]
      go_wp2
      go_ret
      exact ⟨rfl, HB.out.alloc (by omega) _⟩
  · have HF := Lib.hid (prof_no1 (rs := rs) h1)
    have HT := Lib.hid h1
    rw [HF.out]
    clear h1
    go_enter Tryz.func111, Tryz.ntmps111
    go_wp2_with fail
    refine (implIsName_any s _ hs).mono ?_
    rintro e w1 ⟨rfl, hb⟩
    rw [HT.out]
    have HB := Lib.hid (below_of ((Below.refl _ _).alloc (Nat.le_refl _) _) hb (by simp))
    clear hb
    go_wp2
    go_ret
    exact ⟨rfl, HB.out⟩
end Go.Proofs.YtpjopfhkgegahaaGreat
