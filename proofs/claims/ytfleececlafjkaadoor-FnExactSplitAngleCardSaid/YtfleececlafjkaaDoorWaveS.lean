/- What spots do to a partial: the sums, and the reference model's l12Sums, l12Split, SplitOf. -/
import Derived.Test.YtfleececlafjkaaDoorSpotV
import Derived.Test.YtfleececlafjkaaDoorSineT
import Derived.Test.YtfleececlafjkaaDoorDiv
import Derived.Test.YtfleececlafjkaaDoorRootSpec
set_option linter.unusedVariables false
namespace Go.Proofs.YtfleececlafjkaaDoor
open Go.ChangeShapes Go.WideShapes Go.ChangeAt Go.RowKit

/-- The sums over the first k spots. -/
def wsC (n : Int) (rs : List Qt) : Nat → Int
  | 0 => 0
  | k + 1 => wsC n rs k + (rs.getD k zQ).2 * cosV (2 * n * (rs.getD k zQ).1)
def wsS (n : Int) (rs : List Qt) : Nat → Int
  | 0 => 0
  | k + 1 => wsS n rs k + (rs.getD k zQ).2 * sinV (2 * n * (rs.getD k zQ).1)
theorem prod_bd {y c : Int} (hy : -1000 ≤ y ∧ y ≤ 1000) (hc : -1000000 ≤ c ∧ c ≤ 1000000) : -1000000000 ≤ y * c ∧ y * c ≤ 1000000000 := by
  have h1 : (y * c).natAbs ≤ 1000 * 1000000 := by rw [Int.natAbs_mul]; exact Nat.mul_le_mul (by omega) (by omega)
  omega
theorem ok_wgt {rs : List Qt} (h : spotsB rs = true) (k : Nat) (hk : k < rs.length) : (0 ≤ (rs.getD k zQ).1 ∧ (rs.getD k zQ).1 ≤ 359) ∧ -1000 ≤ (rs.getD k zQ).2 ∧ (rs.getD k zQ).2 ≤ 1000 := by
  have := spot_iff.1 (okQ_yes ((spots_iff.1 h).2 k hk))
  exact ⟨this.1, this.2.2⟩
theorem wsC_bd {rs : List Qt} (n : Int) (h : spotsB rs = true) (k : Nat) (hk : k ≤ rs.length) : -(1000000000 * (k : Int)) ≤ wsC n rs k ∧ wsC n rs k ≤ 1000000000 * k := by
  induction k with
  | zero => simp [wsC]
  | succ k ih =>
    have i1 := ih (by omega)
    have i2 := prod_bd (ok_wgt h k (by omega)).2 (sinV_bd (2 * n * (rs.getD k zQ).1 + 90))
    show _ ≤ wsC n rs k + (rs.getD k zQ).2 * sinV (2 * n * (rs.getD k zQ).1 + 90) ∧ wsC n rs k + (rs.getD k zQ).2 * sinV (2 * n * (rs.getD k zQ).1 + 90) ≤ _
    omega
theorem wsS_bd {rs : List Qt} (n : Int) (h : spotsB rs = true) (k : Nat) (hk : k ≤ rs.length) : -(1000000000 * (k : Int)) ≤ wsS n rs k ∧ wsS n rs k ≤ 1000000000 * k := by
  induction k with
  | zero => simp [wsS]
  | succ k ih =>
    have i1 := ih (by omega)
    have i2 := prod_bd (ok_wgt h k (by omega)).2 (sinV_bd (2 * n * (rs.getD k zQ).1))
    show _ ≤ wsS n rs k + (rs.getD k zQ).2 * sinV (2 * n * (rs.getD k zQ).1) ∧ wsS n rs k + (rs.getD k zQ).2 * sinV (2 * n * (rs.getD k zQ).1) ≤ _
    omega
/-- The sums in thousandths. -/
def rdC (n : Int) (rs : List Qt) : Int := nq (wsC n rs rs.length) 1000
def rdS (n : Int) (rs : List Qt) : Int := nq (wsS n rs rs.length) 1000
theorem nq_th {a : Int} (h : -16000000000 ≤ a ∧ a ≤ 16000000000) : -16000001 ≤ nq a 1000 ∧ nq a 1000 ≤ 16000001 := by
  rcases Int.lt_or_le a 0 with h1 | h1
  · rw [nq_np a 1000 h1 (by omega)]; omega
  · rw [nq_pp a 1000 h1 (by omega)]; omega
theorem rdC_bd {rs : List Qt} (n : Int) (h : spotsB rs = true) : (-16000000000 ≤ wsC n rs rs.length ∧ wsC n rs rs.length ≤ 16000000000) ∧ -16000001 ≤ rdC n rs ∧ rdC n rs ≤ 16000001 := by
  have h1 := wsC_bd n h rs.length (Nat.le_refl _)
  have h2 := (spots_iff.1 h).1
  exact ⟨by omega, nq_th (by omega)⟩
theorem rdS_bd {rs : List Qt} (n : Int) (h : spotsB rs = true) : (-16000000000 ≤ wsS n rs rs.length ∧ wsS n rs rs.length ≤ 16000000000) ∧ -16000001 ≤ rdS n rs ∧ rdS n rs ≤ 16000001 := by
  have h1 := wsS_bd n h rs.length (Nat.le_refl _)
  have h2 := (spots_iff.1 h).1
  exact ⟨by omega, nq_th (by omega)⟩
theorem sq_bd {c : Int} (h : -16000001 ≤ c ∧ c ≤ 16000001) : 0 ≤ c * c ∧ c * c ≤ 256000032000001 := by
  have h1 : (c * c).natAbs ≤ 16000001 * 16000001 := by rw [Int.natAbs_mul]; exact Nat.mul_le_mul (by omega) (by omega)
  have h2 : 0 ≤ c * c := by
    rcases Int.le_total 0 c with h3 | h3
    · exact Int.mul_nonneg h3 h3
    · exact Int.mul_nonneg_of_nonpos_of_nonpos h3 h3
  omega
/-- The root, rounded down. -/
noncomputable def rootV (n : Int) : Int := open Classical in if h : ∃ r, IsRoot n r then h.choose else 0
theorem root_eq {n r : Int} (h : IsRoot n r) : rootV n = r := by
  unfold rootV
  rw [dif_pos ⟨r, h⟩]
  exact root_unique (Exists.choose_spec (⟨r, h⟩ : ∃ r, IsRoot n r)) h
noncomputable def spV (n : Int) (rs : List Qt) : Int := rootV (rdC n rs * rdC n rs + rdS n rs * rdS n rs)
def wavB (n : Int) : Bool := inB n 2 6
def spC (n : Int) (rs : List Qt) : Int := if spotsB rs = true then (if wavB n = true then 0 else 2) else 1
noncomputable def spR (n : Int) (rs : List Qt) : Int := if spC n rs = 0 then spV n rs else 0
theorem spC_yes {n : Int} {rs : List Qt} (h : spotsB rs = true) (h2 : wavB n = true) : spC n rs = 0 := by unfold spC; rw [if_pos h, if_pos h2]
theorem spC_no {n : Int} {rs : List Qt} (h : spotsB rs = true) (h2 : wavB n = false) : spC n rs = 2 := by unfold spC; rw [if_pos h, if_neg (by rw [h2]; simp)]
theorem spC_bad {n : Int} {rs : List Qt} (h : spotsB rs = false) : spC n rs = 1 := by unfold spC; rw [if_neg (by rw [h]; simp)]
theorem tab_drew {w : World} {n : Nat} {v : Value} (h : TabAt w v) : TabAt (w.drewN n) v := h
theorem retS_two {a b c d : Int} (h : a = b) (k : c = d) : Ending.returned (.tuple #[.int .i64 a, .int .i64 c]) = .returned (.tuple #[.int .i64 b, .int .i64 d]) := by rw [h, k]
theorem spots_cellsW {w : World} {a : Option Addr} {c n : Nat} {zs : List Qt} (hn : zs.length = n) (h : SpotsAt w (.slice a n c) zs) : ∀ j, j < n → ∃ bb off, a = some ⟨bb, off, none⟩ ∧ bb < w.heap.size ∧ QIn w bb (off + j * 2) (zs.getD j zQ) := by
  intro j hj
  obtain ⟨_, ⟨a', c', e, rfl⟩ | ⟨bb, off, cap, e, hb, hc⟩⟩ := h
  · simp at hn; omega
  · simp only [Value.slice.injEq] at e
    exact ⟨bb, off, e.1, hb, spots_in hc j (by omega)⟩
set_option maxRecDepth 20000 in
set_option maxHeartbeats 4000000 in
theorem l12Sums_any (n : Int) (rs : List Qt) (v u : Value) (w : World) (hv : TabAt w v) (hu : SpotsAt w u rs) (hB : spotsB rs = true) (hn : 2 ≤ n ∧ n ≤ 6) :
    Calls Tryd.prog 26 #[v, u, .int .i64 n] w fun e w' => e = .returned (.tuple #[.int .i64 (rdC n rs), .int .i64 (rdS n rs)]) ∧ ∃ m, w' = w.drewN m := by
  have HT := Lib.hid hv
  have HB := Lib.hid hB
  obtain ⟨a, c, rfl⟩ := spots_form hu
  obtain ⟨len, hl⟩ : ∃ len, rs.length = len := ⟨_, rfl⟩
  have HL := Lib.hid hl
  rw [hl] at hu ⊢
  have HC := Lib.hid (spots_cellsW HL.out hu)
  have h16 : len ≤ 16 := by rw [← hl]; exact (spots_iff.1 hB).1
  clear hv
  clear hu hB hl
  go_enter Tryd.func26, Tryd.ntmps26
  go_wp2
  go_loopw [8, 9, 10] (fun x y i wr => ∃ k m : Nat, k ≤ len ∧ i = .int .i64 k ∧ x = .int .i64 (wsC n rs k) ∧ y = .int .i64 (wsS n rs k) ∧ wr = w.drewN m) (fun _ _ i _ => len - (intOf i).toNat)
  case atStart => exact ⟨0, 0, by omega, rfl, rfl, rfl, rfl⟩
  case round =>
    obtain ⟨k, m, hk, rfl, rfl, rfl, rfl⟩ := hrel
    by_cases hlt : k < len
    · obtain ⟨b1, o1, rfl, hbl, hc1⟩ := HC.out k hlt
      obtain ⟨⟨x, y⟩, hxy⟩ : ∃ r, rs.getD k zQ = r := ⟨_, rfl⟩
      have hok : (0 ≤ x ∧ x ≤ 359) ∧ -1000 ≤ y ∧ y ≤ 1000 := by
        have hh := ok_wgt HB.out k (by rw [HL.out]; exact hlt)
        rw [hxy] at hh; exact hh
      have c1 := wsC_bd n HB.out k (by rw [HL.out]; omega)
      have c2 := wsS_bd n HB.out k (by rw [HL.out]; omega)
      have HSC := Lib.hid (show wsC n rs (k + 1) = wsC n rs k + y * cosV (2 * n * x) by
        show wsC n rs k + (rs.getD k zQ).2 * cosV (2 * n * (rs.getD k zQ).1) = _
        rw [hxy])
      have HSS := Lib.hid (show wsS n rs (k + 1) = wsS n rs k + y * sinV (2 * n * x) by
        show wsS n rs k + (rs.getD k zQ).2 * sinV (2 * n * (rs.getD k zQ).1) = _
        rw [hxy])
      generalize wsC n rs k = A at *
      generalize wsS n rs k = B at *
      rw [hxy] at hc1
      clear hxy
      have d0 : w.cell? ⟨b1, o1 + k * 2, none⟩ = some (.int .i64 x) := hc1.c0
      have d1 : w.cell? ⟨b1, o1 + k * 2 + 1, none⟩ = some (.int .i64 y) := hc1.c1
      have hlt1 : (k : Int) < (len : Int) := by omega
      have hk0 : (0 : Int) ≤ (k : Int) := by omega
      have hnx : 0 ≤ 2 * n * x ∧ 2 * n * x ≤ 12 * 359 := by
        have e1 := Int.mul_le_mul (show 2 * n ≤ 12 by omega) hok.1.2 hok.1.1 (by omega : (0 : Int) ≤ 12)
        have e2 := Int.mul_nonneg (show 0 ≤ 2 * n by omega) hok.1.1
        omega
      obtain ⟨t, ht⟩ : ∃ t, 2 * n * x = t := ⟨_, rfl⟩
      have hok2 := hok.2
      rw [ht] at hnx HSC HSS
      have p1 := prod_bd hok2 (sinV_bd (t + 90))
      have p2 := prod_bd hok2 (sinV_bd t)
      have HC9 := Lib.hid (fun w h => l12Sine_any v (t + 90) w h)
      have HS9 := Lib.hid (fun w h => l12Sine_any v t w h)
      have HCV := Lib.hid (show cosV t = sinV (t + 90) from rfl)
      rw [HCV.out] at HSC
      generalize sinV (t + 90) = cc at *
      generalize sinV t = ss at *
      have hw0 : IntKind.i64.wrap (2 * n) = 2 * n := IntWalk.i64_in _ (by omega)
      have hw1 : IntKind.i64.wrap (2 * n * x) = t := by rw [ht]; exact IntWalk.i64_in _ (by omega)
      have hw2 : IntKind.i64.wrap (t + 90) = t + 90 := IntWalk.i64_in _ (by omega)
      have hw3 : IntKind.i64.wrap (y * cc) = y * cc := IntWalk.i64_in _ (by omega)
      have hw4 : IntKind.i64.wrap (y * ss) = y * ss := IntWalk.i64_in _ (by omega)
      have hw5 : IntKind.i64.wrap (A + y * cc) = A + y * cc := IntWalk.i64_in _ (by omega)
      have hw6 : IntKind.i64.wrap (B + y * ss) = B + y * ss := IntWalk.i64_in _ (by omega)
      clear hc1 hok hok2 HCV
      go_wp2
      go_quiet ((go_at_call 15; exact quiet_moreQ rfl ((HC9.out _ (tab_drew HT.out)).mono (fun _ _ h => ⟨h.1, 0, h.2.symm⟩))))
      go_wp2
      go_quiet ((go_at_call 15; exact quiet_moreQ rfl ((HS9.out _ (tab_drew HT.out)).mono (fun _ _ h => ⟨h.1, 0, h.2.symm⟩))))
      go_wp2
      go_roundw
      case rel => exact ⟨k + 1, _, by omega, by go_num, by rw [HSC.out], by rw [HSS.out], rfl⟩
      case measure => simp [intOf]; omega
    · obtain rfl : k = len := by omega
      have HRC := Lib.hid (show rdC n rs = nq (wsC n rs k) 1000 by unfold rdC; rw [HL.out])
      have HRS := Lib.hid (show rdS n rs = nq (wsS n rs k) 1000 by unfold rdS; rw [HL.out])
      have c1 := wsC_bd n HB.out k (by rw [HL.out]; omega)
      have c2 := wsS_bd n HB.out k (by rw [HL.out]; omega)
      generalize wsC n rs k = A at *
      generalize wsS n rs k = B at *
      go_wp2_with fail
      refine (specDiv_any A 1000 _ (by omega) (by omega) (by omega)).mono ?_
      rintro e w2 ⟨rfl, rfl⟩
      go_wp2_with fail
      refine (specDiv_any B 1000 _ (by omega) (by omega) (by omega)).mono ?_
      rintro e w2 ⟨rfl, rfl⟩
      generalize nq A 1000 = ra at *
      generalize nq B 1000 = rb at *
      go_wp2
      go_ret2
      exact ⟨retS_two HRC.out.symm HRS.out.symm, _, rfl⟩
set_option maxHeartbeats 1000000 in
theorem l12Split_any (n : Int) (rs : List Qt) (v u : Value) (w : World) (hv : TabAt w v) (hu : SpotsAt w u rs) (hB : spotsB rs = true) (hn : 2 ≤ n ∧ n ≤ 6) :
    Calls Tryd.prog 21 #[v, u, .int .i64 n] w fun e w' => e = .returned (.int .i64 (spV n rs)) ∧ ∃ m, w' = w.drewN m := by
  have HS := Lib.hid (l12Sums_any n rs v u w hv hu hB hn)
  have HV := Lib.hid (show spV n rs = rootV (rdC n rs * rdC n rs + rdS n rs * rdS n rs) from rfl)
  have c1 := (rdC_bd n hB).2
  have c2 := (rdS_bd n hB).2
  generalize spV n rs = r at *
  generalize rdC n rs = C at *
  generalize rdS n rs = S at *
  have q1 := sq_bd c1
  have q2 := sq_bd c2
  have hw1 : IntKind.i64.wrap (C * C) = C * C := IntWalk.i64_in _ (by omega)
  have hw2 : IntKind.i64.wrap (S * S) = S * S := IntWalk.i64_in _ (by omega)
  have hw3 : IntKind.i64.wrap (C * C + S * S) = C * C + S * S := IntWalk.i64_in _ (by omega)
  clear hv hu hB c1 c2
  go_enter Tryd.func21, Tryd.ntmps21
  go_wp2_with fail
  refine HS.out.mono ?_
  rintro e w2 ⟨rfl, m, rfl⟩
  go_wp2_with fail
  refine (specRoot_any (C * C + S * S) _ (by omega) (by omega)).mono ?_
  rintro e w3 ⟨q, hq, rfl, rfl⟩
  have HQ := Lib.hid (show q = r by rw [HV.out, root_eq hq])
  clear hq
  go_wp2
  go_ret
  exact ⟨retS_i HQ.out, _, rfl⟩
theorem l12Waves_any (n : Int) (w : World) :
    Calls Tryd.prog 20 #[.int .i64 n] w fun e w' => e = .returned (.bool (wavB n)) ∧ w = w' := by
  go_enter Tryd.func20, Tryd.ntmps20
  go_wp2_with fail
  refine (l00In_any _ _ _ _).mono ?_
  rintro e w2 ⟨rfl, rfl⟩
  have H := Lib.hid (show inB n 2 6 = wavB n from rfl)
  rw [H.out]
  go_wp2
  go_ret
  exact ⟨rfl, rfl⟩
set_option maxHeartbeats 1000000 in
theorem specSO_any (n : Int) (rs : List Qt) (u : Value) (w : World) (hu : SpotsAt w u rs) :
    Calls Tryd.prog 9 #[u, .int .i64 n] w fun e w' => e = .returned (.tuple #[.int .i64 (spR n rs), .int .i64 (spC n rs)]) ∧ Below w.heap.size w w' := by
  have HU := Lib.hid hu
  have HK := Lib.hid (l12Ok_any rs u w hu)
  clear hu
  rcases Bool.eq_false_or_eq_true (spotsB rs) with h1 | h1
  · have H1 := Lib.hid h1
    rcases Bool.eq_false_or_eq_true (wavB n) with h2 | h2
    · have H2 := Lib.hid h2
      have HC := Lib.hid (spC_yes h1 h2)
      have HR := Lib.hid (show spR n rs = spV n rs by unfold spR; rw [if_pos HC.out])
      have HN := Lib.hid (inB_iff.1 h2)
      rw [HC.out, HR.out]
      clear h1 h2
      go_enter Tryd.func9, Tryd.ntmps9
      go_wp2_with fail
      refine HK.out.mono ?_
      rintro e w2 ⟨rfl, hb⟩
      have HB2 := Lib.hid hb
      clear hb
      rw [H1.out]
      go_wp2_with fail
      refine (l12Waves_any n _).mono ?_
      rintro e w3 ⟨rfl, rfl⟩
      rw [H2.out]
      go_wp2_with fail
      refine (l12Table_any _).mono ?_
      rintro e w3 ⟨v, rfl, hv, hb⟩
      have HV := Lib.hid hv
      have HB3 := Lib.hid (below_of HB2.out hb HB2.out.size)
      clear hb hv
      go_wp2_with fail
      refine (l12Split_any n rs v u _ HV.out (spots_kept HB3.out HU.out) H1.out HN.out).mono ?_
      rintro e w4 ⟨rfl, m, rfl⟩
      have HB4 := Lib.hid (below_of HB3.out (below_drewN _ m) HB3.out.size)
      go_wp2
      go_ret2
      exact ⟨rfl, HB4.out⟩
    · have H2 := Lib.hid h2
      have HC := Lib.hid (spC_no h1 h2)
      have HR := Lib.hid (show spR n rs = 0 by unfold spR; rw [HC.out]; rfl)
      rw [HC.out, HR.out]
      clear h1 h2
      go_enter Tryd.func9, Tryd.ntmps9
      go_wp2_with fail
      refine HK.out.mono ?_
      rintro e w2 ⟨rfl, hb⟩
      have HB2 := Lib.hid hb
      clear hb
      rw [H1.out]
      go_wp2_with fail
      refine (l12Waves_any n _).mono ?_
      rintro e w3 ⟨rfl, rfl⟩
      rw [H2.out]
      go_wp2
      go_ret2
      exact ⟨rfl, HB2.out⟩
  · have H1 := Lib.hid h1
    have HC := Lib.hid (spC_bad (n := n) h1)
    have HR := Lib.hid (show spR n rs = 0 by unfold spR; rw [HC.out]; rfl)
    rw [HC.out, HR.out]
    clear h1
    go_enter Tryd.func9, Tryd.ntmps9
    go_wp2_with fail
    refine HK.out.mono ?_
    rintro e w2 ⟨rfl, hb⟩
    have HB2 := Lib.hid hb
    clear hb
    rw [H1.out]
    go_wp2
    go_ret2
    exact ⟨rfl, HB2.out⟩
end Go.Proofs.YtfleececlafjkaaDoor
