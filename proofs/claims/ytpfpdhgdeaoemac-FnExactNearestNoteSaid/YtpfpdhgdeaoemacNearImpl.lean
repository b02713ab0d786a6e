/- NearestNote: the program's answer. -/
import Derived.Test.YtpfpdhgdeaoemacNearSpec
namespace Go.Proofs.Ytpfpdhgdeaoemac
open Go.ChangeShapes Go.WideShapes Go.ChangeAt Go.RowKit

theorem info48 : (Try.prog.info? 48).map (·.size) = some 12 := by kernel_rfl
theorem under48 : Try.prog.underlying 48 = some (.array 12 2) := by kernel_rfl
theorem range_below {w W : World} {b o : Nat} {cs : List Value} (h : w.rangeAt b o cs) (hb : Below w.heap.size w W) (hlt : b < w.heap.size) : W.rangeAt b o cs := fun j v hv => by
  rw [below_cell hb _ _ hlt]
  exact h j v hv
theorem held2 {w W W2 : World} {b1 b2 : Nat} {x : Value} {cs : List Value} (h1 : w.cell? ⟨b1, 0, none⟩ = some x) (h2 : w.rangeAt b2 0 cs) (hz : b1 < w.heap.size ∧ b2 < w.heap.size) (hW : Below w.heap.size w W) (hb : Below W.heap.size W W2) :
    W2.cell? ⟨b1, 0, none⟩ = some x ∧ W2.rangeAt b2 0 cs ∧ Below w.heap.size w W2 := by
  have h := below_of hW hb hW.size
  exact ⟨by rw [below_cell h _ _ hz.1]; exact h1, range_below h2 h hz.2, h⟩

set_option maxRecDepth 100000 in
set_option maxHeartbeats 2000000 in
theorem dist_any (x0 x1 x2 x3 x4 x5 x6 x7 x8 x9 x10 x11 pl : Int) (n b1 b2 : Nat) (w : World) (hn : n ≤ 127) (hin : ∀ j, j < 12 → -500 ≤ [x0, x1, x2, x3, x4, x5, x6, x7, x8, x9, x10, x11].getD j 0 ∧ [x0, x1, x2, x3, x4, x5, x6, x7, x8, x9, x10, x11].getD j 0 ≤ 500) (h0 : -480000 ≤ pl ∧ pl ≤ 480000) (h1 : w.cell? ⟨b1, 0, none⟩ = some (.int .i64 pl)) (h2 : w.rangeAt b2 0 [Value.int .i64 x0, Value.int .i64 x1, Value.int .i64 x2, Value.int .i64 x3, Value.int .i64 x4, Value.int .i64 x5, Value.int .i64 x6, Value.int .i64 x7, Value.int .i64 x8, Value.int .i64 x9, Value.int .i64 x10, Value.int .i64 x11]) (hz : b1 < w.heap.size ∧ b2 < w.heap.size) :
    Calls Try.prog 27 #[.int .i64 n, .pointer (some ⟨b1, 0, none⟩), .pointer (some ⟨b2, 0, none⟩)] w fun e w' => e = .returned (.int .i64 (aptV pl (ivN [x0, x1, x2, x3, x4, x5, x6, x7, x8, x9, x10, x11] 69 n))) ∧ Below w.heap.size w w' := by
  have HIN := Lib.hid hin
  have HBI := Lib.hid (show -200000 ≤ ivN [x0, x1, x2, x3, x4, x5, x6, x7, x8, x9, x10, x11] 69 n ∧ ivN [x0, x1, x2, x3, x4, x5, x6, x7, x8, x9, x10, x11] 69 n ≤ 200000 from by
    have a := hin (n % 12) (by omega)
    have b := hin (69 % 12) (by omega)
    unfold ivN
    omega)
  have H2 := Lib.hid h2
  have H1 := Lib.hid h1
  have hu := under48
  have hi := info48
  have hlen : [Value.int .i64 x0, Value.int .i64 x1, Value.int .i64 x2, Value.int .i64 x3, Value.int .i64 x4, Value.int .i64 x5, Value.int .i64 x6, Value.int .i64 x7, Value.int .i64 x8, Value.int .i64 x9, Value.int .i64 x10, Value.int .i64 x11].length = 12 := rfl
  have hone : ∀ v ∈ [Value.int .i64 x0, Value.int .i64 x1, Value.int .i64 x2, Value.int .i64 x3, Value.int .i64 x4, Value.int .i64 x5, Value.int .i64 x6, Value.int .i64 x7, Value.int .i64 x8, Value.int .i64 x9, Value.int .i64 x10, Value.int .i64 x11], v.oneCell' = true := by simp [Value.oneCell']
  clear hin
  go_enter Try.func27, Try.ntmps27
  go_wp2
  go_region_held3 (fun w' => w'.cell? ⟨b1, 0, none⟩ = some (.int .i64 pl) ∧ w'.rangeAt b2 0 [Value.int .i64 x0, Value.int .i64 x1, Value.int .i64 x2, Value.int .i64 x3, Value.int .i64 x4, Value.int .i64 x5, Value.int .i64 x6, Value.int .i64 x7, Value.int .i64 x8, Value.int .i64 x9, Value.int .i64 x10, Value.int .i64 x11] ∧ Below w.heap.size w w')
    (first | exact ⟨H1.out, range_below (w := w) (W := w.drew) H2.out ⟨rfl, rfl, rfl, Nat.le_refl _, fun _ _ => rfl⟩ hz.2, ⟨rfl, rfl, rfl, Nat.le_refl _, fun _ _ => rfl⟩⟩ | exact held2 (W := w.drew) H1.out H2.out hz ⟨rfl, rfl, rfl, Nat.le_refl _, fun _ _ => rfl⟩ hb6 | exact held2 (W := w6) H1.out H2.out hz (below_of (w1 := w.drew) ⟨rfl, rfl, rfl, Nat.le_refl _, fun _ _ => rfl⟩ hb6 (Nat.le_refl _)) hb7 | assumption)
    (first
      | (go_at_call 29; refine (interval_any x0 x1 x2 x3 x4 x5 x6 x7 x8 x9 x10 x11 69 n w.drew (by omega) hn HIN.out).mono ?_; rintro e w6 ⟨rfl, hb6⟩)
      | (go_at_call 28; refine (apart_any pl (ivN [x0, x1, x2, x3, x4, x5, x6, x7, x8, x9, x10, x11] 69 n) w6 (by omega) (by have := HBI.out; omega)).mono ?_; rintro e w7 ⟨rfl, hb7⟩))
  have h56 : Below w.heap.size w w6 := below_of (w1 := w.drew) ⟨rfl, rfl, rfl, Nat.le_refl _, fun _ _ => rfl⟩ hb6 (Nat.le_refl _)
  have HB7 := Lib.hid (below_of h56 hb7 h56.size)
  clear hb6 hb7 h56
  go_wp2
  go_ret
  exact ⟨rfl, HB7.out⟩

set_option maxRecDepth 100000 in
set_option maxHeartbeats 2000000 in
theorem implNN_any (s : ByteArray) (v : Value) (zs : List Int) (p f : Int) (w : World) (h : IntsAt w v zs) (hs : s.size ≤ 9223372036854775807) :
    Calls Try.prog 9 #[.agg #[.string s, v], .int .i64 p, .int .i64 f] w fun e w' => e = .returned (.tuple #[.int .i64 (nnR s zs p f), .int .i64 (nnC s zs p f)]) ∧ Below w.heap.size w w' := by
  have HI := Lib.hid h
  obtain ⟨av, cv, rfl⟩ := ints_form h
  clear h
  rcases t_cases (tempB s zs) with h0 | h0
  · rcases t_cases (ok2 p f) with h1 | h1
    · have R := Lib.hid (nn_2 h0 h1)
      have HCR := Lib.hid (show centsR p f = logV f - logV p by unfold centsR; rw [if_pos h1])
      have HCC := Lib.hid (show codeOf (ok2 p f) = 0 by rw [h1]; rfl)
      obtain ⟨⟨p0, p1⟩, f0, f1⟩ := ok2_iff.1 h1
      obtain ⟨hl, hin⟩ := temp_parts h0
      obtain ⟨bb, off, cap, hv, hbb, hc⟩ := temp_some hl HI.out
      have HIN := Lib.hid (offs_in hin hl)
      obtain ⟨x0, x1, x2, x3, x4, x5, x6, x7, x8, x9, x10, x11, rfl⟩ := list12 hl
      rw [hv] at HI ⊢
      have HC := Lib.hid hc
      have b1 := log_bd (show 0 < p by omega) (by omega)
      have b2 := log_bd (show 0 < f by omega) (by omega)
      have HND := Lib.hid (show ∀ n, aptV (logV f - logV p) (ivN [x0, x1, x2, x3, x4, x5, x6, x7, x8, x9, x10, x11] 69 n) = ndV [x0, x1, x2, x3, x4, x5, x6, x7, x8, x9, x10, x11] p f n from fun _ => rfl)
      have HS0 := Lib.hid (show ∀ k, amin (ndV [x0, x1, x2, x3, x4, x5, x6, x7, x8, x9, x10, x11] p f) (k + 1) = if ndV [x0, x1, x2, x3, x4, x5, x6, x7, x8, x9, x10, x11] p f k < ndV [x0, x1, x2, x3, x4, x5, x6, x7, x8, x9, x10, x11] p f (amin (ndV [x0, x1, x2, x3, x4, x5, x6, x7, x8, x9, x10, x11] p f) k) then k else amin (ndV [x0, x1, x2, x3, x4, x5, x6, x7, x8, x9, x10, x11] p f) k from fun _ => rfl)
      have HM0 := Lib.hid (amin_127 (ndV [x0, x1, x2, x3, x4, x5, x6, x7, x8, x9, x10, x11] p f))
      generalize ndV [x0, x1, x2, x3, x4, x5, x6, x7, x8, x9, x10, x11] p f = d at *
      clear hl hin hc h1 hv
      go_enter Try.func9, Try.ntmps9
      go_wp2_with fail
      refine (implValid_any s _ _ _ (ints_kept ((Below.refl _ _).alloc (Nat.le_refl _) _) HI.out) hs).mono ?_
      rintro e w1 ⟨rfl, hb⟩
      rw [h0]
      have c0 : w1.cell? ⟨w.heap.size, 0, none⟩ = some (.string s) := by rw [below_cell hb _ _ (by simp)]; go_simp
      have c1 : w1.cell? ⟨w.heap.size, 1, none⟩ = some (.slice (some ⟨bb, off, none⟩) 12 cap) := by rw [below_cell hb _ _ (by simp)]; go_simp
      have HB1 := Lib.hid (below_of ((Below.refl _ _).alloc (Nat.le_refl _) _) hb (by simp))
      have hz1 : w.heap.size + 1 ≤ w1.heap.size := by have := hb.size; simp at this; omega
      clear hb h0
      go_wp2_with fail
      refine (implCentsBetween_any p f _).mono ?_
      rintro e w2 ⟨rfl, hb⟩
      rw [HCR.out, HCC.out]
      have hz2 : w.heap.size + 1 ≤ w2.heap.size := by have := hb.size; omega
      have d0 : (w2.alloc (.cells #[.int .i64 (logV f - logV p)] 2)).cell? ⟨w.heap.size, 0, none⟩ = some (.string s) := by rw [below_cell ((Below.refl _ _).alloc (Nat.le_refl _) _) _ _ (by omega), below_cell hb _ _ hz1]; exact c0
      have d1 : (w2.alloc (.cells #[.int .i64 (logV f - logV p)] 2)).cell? ⟨w.heap.size, 1, none⟩ = some (.slice (some ⟨bb, off, none⟩) 12 cap) := by rw [below_cell ((Below.refl _ _).alloc (Nat.le_refl _) _) _ _ (by omega), below_cell hb _ _ hz1]; exact c1
      have HB2 := Lib.hid ((below_of HB1.out hb HB1.out.size).alloc (below_of HB1.out hb HB1.out.size).size (.cells #[.int .i64 (logV f - logV p)] 2))
      clear hb c0 c1
      have hpl : -480000 ≤ logV f - logV p ∧ logV f - logV p ≤ 480000 := by omega
      generalize logV f - logV p = pl at *
      go_wp2_with fail
      refine (offsetsOf_any s bb off cap x0 x1 x2 x3 x4 x5 x6 x7 x8 x9 x10 x11 _ (by have := HB2.out.size; omega) (fun j hj => by rw [below_cell HB2.out _ _ hbb]; exact HC.out j hj)).mono ?_
      rintro e w3 ⟨rfl, hb⟩
      have hz3 : w2.heap.size < w3.heap.size := by have := hb.size; simp at this; omega
      have P1 := Lib.hid (show (w3.alloc (.cells #[.int .i64 x0, .int .i64 x1, .int .i64 x2, .int .i64 x3, .int .i64 x4, .int .i64 x5, .int .i64 x6, .int .i64 x7, .int .i64 x8, .int .i64 x9, .int .i64 x10, .int .i64 x11] 48)).cell? ⟨w2.heap.size, 0, none⟩ = some (.int .i64 pl) by
        rw [below_cell ((Below.refl _ _).alloc (Nat.le_refl _) _) _ _ hz3, below_cell hb _ _ (by simp)]; go_simp)
      have P2 := Lib.hid (show (w3.alloc (.cells #[.int .i64 x0, .int .i64 x1, .int .i64 x2, .int .i64 x3, .int .i64 x4, .int .i64 x5, .int .i64 x6, .int .i64 x7, .int .i64 x8, .int .i64 x9, .int .i64 x10, .int .i64 x11] 48)).rangeAt w3.heap.size 0 [Value.int .i64 x0, Value.int .i64 x1, Value.int .i64 x2, Value.int .i64 x3, Value.int .i64 x4, Value.int .i64 x5, Value.int .i64 x6, Value.int .i64 x7, Value.int .i64 x8, Value.int .i64 x9, Value.int .i64 x10, Value.int .i64 x11] from fun j v hv => by
        rw [World.cell?_alloc_new, Nat.zero_add]; simpa using hv)
      have HB3 := Lib.hid ((below_of HB2.out hb HB2.out.size).alloc (below_of HB2.out hb HB2.out.size).size (.cells #[.int .i64 x0, .int .i64 x1, .int .i64 x2, .int .i64 x3, .int .i64 x4, .int .i64 x5, .int .i64 x6, .int .i64 x7, .int .i64 x8, .int .i64 x9, .int .i64 x10, .int .i64 x11] 48))
      have HZ3 := Lib.hid (show w2.heap.size < (w3.alloc (.cells #[.int .i64 x0, .int .i64 x1, .int .i64 x2, .int .i64 x3, .int .i64 x4, .int .i64 x5, .int .i64 x6, .int .i64 x7, .int .i64 x8, .int .i64 x9, .int .i64 x10, .int .i64 x11] 48)).heap.size ∧ w3.heap.size < (w3.alloc (.cells #[.int .i64 x0, .int .i64 x1, .int .i64 x2, .int .i64 x3, .int .i64 x4, .int .i64 x5, .int .i64 x6, .int .i64 x7, .int .i64 x8, .int .i64 x9, .int .i64 x10, .int .i64 x11] 48)).heap.size by simp; omega)
      clear hb d0 d1
      go_wp2
      generalize hW : w3.alloc (.cells #[.int .i64 x0, .int .i64 x1, .int .i64 x2, .int .i64 x3, .int .i64 x4, .int .i64 x5, .int .i64 x6, .int .i64 x7, .int .i64 x8, .int .i64 x9, .int .i64 x10, .int .i64 x11] 48) = W0 at *
      clear hW
      go_loopw [12, 29] (fun b n wr => ∃ k : Nat, k ≤ 128 ∧ n = .int .i64 k ∧ b = .int .i64 (amin d k : Nat) ∧ Hid (Below W0.heap.size W0 wr)) (fun _ n _ => 128 - (intOf n).toNat)
      case atStart => exact ⟨0, by omega, rfl, rfl, Lib.hid (Below.refl _ _)⟩
      case round =>
        obtain ⟨k, hk, rfl, rfl, HW⟩ := hrel
        by_cases hlt : k < 128
        · have HS := Lib.hid (HS0.out k)
          have HM := Lib.hid (HM0.out k hk)
          obtain ⟨m, hm⟩ : ∃ m, amin d k = m := ⟨_, rfl⟩
          rw [hm] at HS HM ⊢
          have HMM := Lib.hid hm
          clear hm
          have bm := HM.out
          go_wp2_with fail
          refine (dist_any x0 x1 x2 x3 x4 x5 x6 x7 x8 x9 x10 x11 pl k w2.heap.size w3.heap.size _ (by omega) HIN.out hpl (by rw [below_cell HW.out _ _ HZ3.out.1]; exact P1.out) (range_below P2.out HW.out HZ3.out.2) ⟨Nat.lt_of_lt_of_le HZ3.out.1 HW.out.size, Nat.lt_of_lt_of_le HZ3.out.2 HW.out.size⟩).mono ?_
          rintro e w5 ⟨rfl, hb⟩
          have HW5 := Lib.hid (below_of HW.out hb HW.out.size)
          clear hb
          go_wp2_with fail
          refine (dist_any x0 x1 x2 x3 x4 x5 x6 x7 x8 x9 x10 x11 pl m w2.heap.size w3.heap.size _ (by omega) HIN.out hpl (by rw [below_cell HW5.out _ _ HZ3.out.1]; exact P1.out) (range_below P2.out HW5.out HZ3.out.2) ⟨Nat.lt_of_lt_of_le HZ3.out.1 HW5.out.size, Nat.lt_of_lt_of_le HZ3.out.2 HW5.out.size⟩).mono ?_
          rintro e w6 ⟨rfl, hb⟩
          have HW6 := Lib.hid (below_of HW5.out hb HW5.out.size)
          clear hb
          rw [HND.out k, HND.out m]
          by_cases hc : d k < d m
          · have HN1 := Lib.hid (show amin d (k + 1) = k by rw [HS.out, if_pos hc])
            generalize d k = x at *
            generalize d m = y at *
            go_wp2
            go_roundw
            case rel => exact ⟨k + 1, by omega, by go_num, by rw [HN1.out], HW6⟩
            case measure => simp [intOf]; omega
          · have HN1 := Lib.hid (show amin d (k + 1) = m by rw [HS.out, if_neg hc])
            generalize d k = x at *
            generalize d m = y at *
            go_wp2
            go_roundw
            case rel => exact ⟨k + 1, by omega, by go_num, by rw [HN1.out], HW6⟩
            case measure => simp [intOf]; omega
        · obtain rfl : k = 128 := by omega
          generalize amin d 128 = m at *
          have HF := Lib.hid (below_of HB3.out HW.out HB3.out.size)
          go_wp2
          go_ret2
          exact ⟨ret_pair2 R.out.1.symm R.out.2.symm, HF.out⟩
    · have R := Lib.hid (nn_1 h0 h1)
      have HCR := Lib.hid (show centsR p f = 0 by unfold centsR; rw [h1]; rfl)
      have HCC := Lib.hid (show codeOf (ok2 p f) = 2 by rw [h1]; rfl)
      go_enter Try.func9, Try.ntmps9
      go_wp2_with fail
      refine (implValid_any s _ _ _ (ints_kept ((Below.refl _ _).alloc (Nat.le_refl _) _) HI.out) hs).mono ?_
      rintro e w1 ⟨rfl, hb⟩
      rw [h0]
      have HB1 := Lib.hid (below_of ((Below.refl _ _).alloc (Nat.le_refl _) _) hb (by simp))
      clear hb h0
      go_wp2_with fail
      refine (implCentsBetween_any p f _).mono ?_
      rintro e w2 ⟨rfl, hb⟩
      rw [HCR.out, HCC.out]
      have HB2 := Lib.hid (below_of HB1.out hb HB1.out.size)
      clear hb
      go_wp2
      go_ret2
      exact ⟨ret_pair2 R.out.1.symm R.out.2.symm, HB2.out.alloc HB2.out.size _⟩
  · have R := Lib.hid (nn_0 (p := p) (f := f) h0)
    go_enter Try.func9, Try.ntmps9
    go_wp2_with fail
    refine (implValid_any s _ _ _ (ints_kept ((Below.refl _ _).alloc (Nat.le_refl _) _) HI.out) hs).mono ?_
    rintro e w1 ⟨rfl, hb⟩
    rw [h0]
    have HB1 := Lib.hid (below_of ((Below.refl _ _).alloc (Nat.le_refl _) _) hb (by simp))
    clear hb
    go_wp2
    go_ret2
    exact ⟨ret_pair2 R.out.1.symm R.out.2.symm, HB1.out⟩
end Go.Proofs.Ytpfpdhgdeaoemac
