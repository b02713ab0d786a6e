/- The wave of some spots, and SplitOf: the program's. -/
import Derived.Test.YtfleececlafjkaaDoorWaveI
import Derived.Laws.ResultCell
set_option linter.unusedVariables false
namespace Go.Proofs.YtfleececlafjkaaDoor
open Go.ChangeShapes Go.WideShapes Go.ChangeAt Go.RowKit

/-- Block b holds two numbers, and may be written. -/
structure WBox (w : World) (b : Nat) (c s : Int) : Prop where
  c0 : w.cell? ⟨b, 0, none⟩ = some (.int .i64 c)
  c1 : w.cell? ⟨b, 1, none⟩ = some (.int .i64 s)
  f0 : w.frozen? ⟨b, 0, none⟩ = false
  f1 : w.frozen? ⟨b, 1, none⟩ = false
theorem wbox_kept {w w' : World} {b : Nat} {c s : Int} (hb : Below w.heap.size w w') (hl : b < w.heap.size) (h : WBox w b c s) : WBox w' b c s :=
  ⟨(below_cell hb _ _ hl).trans h.c0, (below_cell hb _ _ hl).trans h.c1, (below_frozen hb _ _ hl).trans h.f0, (below_frozen hb _ _ hl).trans h.f1⟩
theorem wbox_new (w : World) (c s : Int) (T : TypeId) : WBox (w.alloc (.cells #[.int .i64 c, .int .i64 s] T)) w.heap.size c s := ⟨by go_simp, by go_simp, by go_simp, by go_simp⟩
set_option maxHeartbeats 1000000 in
theorem split_any (c s : Int) (w : World) (hc : -16000000000 ≤ c ∧ c ≤ 16000000000) (hs : -16000000000 ≤ s ∧ s ≤ 16000000000) :
    Calls Tryd.prog 24 #[.agg #[.int .i64 c, .int .i64 s]] w fun e w' => e = .returned (.int .i64 (rootV (nq c 1000 * nq c 1000 + nq s 1000 * nq s 1000))) ∧ Below w.heap.size w w' := by
  have q1 := sq_bd (nq_th hc)
  have q2 := sq_bd (nq_th hs)
  have HR := Lib.hid (fun w => rounded_any c s w hc hs)
  generalize nq c 1000 = C at *
  generalize nq s 1000 = S at *
  have hw1 : IntKind.i64.wrap (C * C) = C * C := IntWalk.i64_in _ (by omega)
  have hw2 : IntKind.i64.wrap (S * S) = S * S := IntWalk.i64_in _ (by omega)
  have hw3 : IntKind.i64.wrap (C * C + S * S) = C * C + S * S := IntWalk.i64_in _ (by omega)
  go_enter Tryd.func24, Tryd.ntmps24
  go_wp2_with fail
  refine (HR.out _).mono ?_
  rintro e w2 ⟨rfl, hb⟩
  have HB2 := Lib.hid (below_of ((Below.refl w.heap.size w).alloc (Nat.le_refl _) _) hb (by simp))
  clear hb
  go_wp2_with fail
  refine (implRoot_any len64_any (C * C + S * S) _ (by omega) (by omega)).mono ?_
  rintro e w3 ⟨q, hq, rfl, rfl⟩
  have HQ := Lib.hid (root_eq hq)
  clear hq
  go_wp2
  go_ret
  exact ⟨retS_i HQ.out.symm, HB2.out.alloc HB2.out.size _⟩
set_option maxRecDepth 20000 in
set_option maxHeartbeats 4000000 in
theorem waveOf_any (n : Int) (rs : List Qt) (u : Value) (w : World) (hT : SinOk w) (hu : SpotsAt w u rs) (hB : spotsB rs = true) (hn : 2 ≤ n ∧ n ≤ 6) :
    Calls Tryd.prog 36 #[u, .int .i64 n] w fun e w' => e = .returned (.agg #[.int .i64 (wsC n rs rs.length), .int .i64 (wsS n rs rs.length)]) ∧ Below w.heap.size w w' := by
  have HT := Lib.hid hT
  have HB := Lib.hid hB
  obtain ⟨a, c, rfl⟩ := spots_form hu
  obtain ⟨len, hl⟩ : ∃ len, rs.length = len := ⟨_, rfl⟩
  have HL := Lib.hid hl
  rw [hl] at hu ⊢
  have HC := Lib.hid (spots_cellsW HL.out hu)
  have h16 : len ≤ 16 := by rw [← hl]; exact (spots_iff.1 hB).1
  clear hu hB hl hT
  have HX := Lib.hid (wbox_new w 0 0 42)
  have HX2 := Lib.hid (wbox_kept ((Below.refl _ (w.alloc (.cells #[.int .i64 0, .int .i64 0] 42))).alloc (Nat.le_refl _) (.cells #[.int .i64 0, .int .i64 0] 42)) (by simp) HX.out)
  have HY := Lib.hid (wbox_new (w.alloc (.cells #[.int .i64 0, .int .i64 0] 42)) 0 0 42)
  have HBA := Lib.hid (((Below.refl w.heap.size w).alloc (Nat.le_refl _) (.cells #[.int .i64 0, .int .i64 0] 42)).alloc (by simp) (.cells #[.int .i64 0, .int .i64 0] 42))
  go_enter Tryd.func36, Tryd.ntmps36
  go_wp2
  go_loopw [10] (fun i wr => ∃ k : Nat, k ≤ len ∧ i = .int .i64 k ∧ Below w.heap.size w wr ∧ WBox wr w.heap.size 0 0 ∧ WBox wr (w.heap.size + 1) (wsC n rs k) (wsS n rs k) ∧ w.heap.size + 1 < wr.heap.size) (fun i _ => len - (intOf i).toNat)
  case atStart => exact ⟨0, by omega, rfl, HBA.out, HX2.out, by have h := HY.out; rw [World.size_alloc] at h; exact h, by simp <;> omega⟩
  case round =>
    obtain ⟨k, hk, rfl, hbw, hx, hy, hz⟩ := hrel
    have HBW := Lib.hid hbw
    have HBX := Lib.hid hx
    have HBY := Lib.hid hy
    clear hbw hx hy
    by_cases hlt : k < len
    · obtain ⟨b1, o1, rfl, hbl, hc1⟩ := HC.out k hlt
      obtain ⟨⟨x, y⟩, hxy⟩ : ∃ r, rs.getD k zQ = r := ⟨_, rfl⟩
      have hok : (0 ≤ x ∧ x ≤ 359) ∧ -1000 ≤ y ∧ y ≤ 1000 := by
        have hh := ok_wgt HB.out k (by rw [HL.out]; exact hlt)
        rw [hxy] at hh; exact hh
      have c1 := wsC_bd n HB.out k (by rw [HL.out]; omega)
      have c2 := wsS_bd n HB.out k (by rw [HL.out]; omega)
      have HSC := Lib.hid (show wsC n rs (k + 1) = wsC n rs k + y * cosV (2 * n * x) by
        show wsC n rs k + (rs.getD k zQ).2 * cosV (2 * n * (rs.getD k zQ).1) = _
        rw [hxy])
      have HSS := Lib.hid (show wsS n rs (k + 1) = wsS n rs k + y * sinV (2 * n * x) by
        show wsS n rs k + (rs.getD k zQ).2 * sinV (2 * n * (rs.getD k zQ).1) = _
        rw [hxy])
      generalize wsC n rs k = A at *
      generalize wsS n rs k = B at *
      rw [hxy] at hc1
      clear hxy
      have d0 : wr.cell? ⟨b1, o1 + k * 2, none⟩ = some (.int .i64 x) := (below_cell HBW.out _ _ hbl).trans hc1.c0
      have d1 : wr.cell? ⟨b1, o1 + k * 2 + 1, none⟩ = some (.int .i64 y) := (below_cell HBW.out _ _ hbl).trans hc1.c1
      have hlt1 : (k : Int) < (len : Int) := by omega
      have hk0 : (0 : Int) ≤ (k : Int) := by omega
      have HW := Lib.hid (fun w (h : SinOk w) => with_any A B x y n w h (by omega) (by omega) hok.1 hok.2 hn)
      generalize A + y * cosV (2 * n * x) = A2 at *
      generalize B + y * sinV (2 * n * x) = B2 at *
      obtain ⟨y0, y1, y2, y3⟩ := HBY.out
      have hbA := (Below.refl wr.heap.size wr).alloc (Nat.le_refl _) (.cells #[.int .i64 x, .int .i64 y] 38)
      have HSA := Lib.hid (below_of HBW.out hbA HBW.out.size)
      have HXA := Lib.hid (wbox_kept hbA (by omega) HBX.out)
      have HYA := Lib.hid (wbox_kept hbA hz HBY.out)
      have hzz : w.heap.size + 1 < (wr.alloc (.cells #[.int .i64 x, .int .i64 y] 38)).heap.size := by simp; omega
      clear hc1 hok hbA c1 c2
      go_wp2_with fail
      refine (HW.out _ (sin_kept HSA.out HT.out)).mono ?_
      rintro e w2 ⟨rfl, hb⟩
      obtain ⟨p0, p1, p2, p3⟩ := wbox_kept hb hzz HYA.out
      have HX3 := Lib.hid (wbox_kept hb (by omega) HXA.out)
      have HB3 := Lib.hid (below_of HSA.out hb HSA.out.size)
      have hz3 : w.heap.size + 1 < w2.heap.size := Nat.lt_of_lt_of_le hzz hb.size
      clear hb y0 y1 y2 y3 d0 d1
      go_wp2
      go_roundw
      case rel => exact ⟨k + 1, by omega, by go_num, (HB3.out.setCell (by simp) _).setCell (by simp) _, ⟨(World.cell?_setCell_far _ _ _ _ (by simp only; omega)).trans ((World.cell?_setCell_far _ _ _ _ (by simp only; omega)).trans HX3.out.c0), (World.cell?_setCell_far _ _ _ _ (by simp only; omega)).trans ((World.cell?_setCell_far _ _ _ _ (by simp only; omega)).trans HX3.out.c1), by rw [World.frozen?_setCell, World.frozen?_setCell]; exact HX3.out.f0, by rw [World.frozen?_setCell, World.frozen?_setCell]; exact HX3.out.f1⟩, by rw [HSC.out, HSS.out]; exact ⟨by go_simp, by go_simp, by rw [World.frozen?_setCell, World.frozen?_setCell]; exact p2, by rw [World.frozen?_setCell, World.frozen?_setCell]; exact p3⟩, by simp; omega⟩
      case measure => simp [intOf]; omega
    · obtain rfl : k = len := by omega
      obtain ⟨x0, x1, x2, x3⟩ := HBX.out
      obtain ⟨y0, y1, y2, y3⟩ := HBY.out
      go_wp2
      try simp only [Exit.inBlock, Exit.then]
      refine bodyPost_ret_by (v := .agg #[.int .i64 (wsC n rs k), .int .i64 (wsS n rs k)]) (by rw [results_cellW rfl]; go_simp) rfl ⟨rfl, ?_⟩
      exact ((HBW.out.setCell (by simp) _).setCell (by simp) _)
def cwC (n : Int) (rs : List Qt) : Int := if spC n rs = 0 then wsC n rs rs.length else 0
def cwS (n : Int) (rs : List Qt) : Int := if spC n rs = 0 then wsS n rs rs.length else 0
set_option maxHeartbeats 2000000 in
theorem checked_any (n : Int) (rs : List Qt) (u : Value) (w : World) (hT : SinOk w) (hu : SpotsAt w u rs) :
    Calls Tryd.prog 23 #[u, .int .i64 n] w fun e w' => e = .returned (.tuple #[.agg #[.int .i64 (cwC n rs), .int .i64 (cwS n rs)], .int .i64 (spC n rs)]) ∧ Below w.heap.size w w' := by
  have HT := Lib.hid hT
  have HU := Lib.hid hu
  have HV := Lib.hid (fun w h => implVS_any rs u w h)
  have HA := Lib.hid ((Below.refl w.heap.size w).alloc (Nat.le_refl _) (.cells #[.int .i64 0, .int .i64 0] 42))
  have HX := Lib.hid (wbox_new w 0 0 42)
  clear hT hu
  rcases Bool.eq_false_or_eq_true (spotsB rs) with h1 | h1
  · have H1 := Lib.hid h1
    rcases Bool.eq_false_or_eq_true (wavB n) with h2 | h2
    · have H2 := Lib.hid h2
      have HC := Lib.hid (spC_yes h1 h2)
      have HR := Lib.hid (show cwC n rs = wsC n rs rs.length by unfold cwC; rw [if_pos HC.out])
      have HR2 := Lib.hid (show cwS n rs = wsS n rs rs.length by unfold cwS; rw [if_pos HC.out])
      have HN := Lib.hid (inB_iff.1 h2)
      rw [HC.out, HR.out, HR2.out]
      clear h1 h2
      go_enter Tryd.func23, Tryd.ntmps23
      go_wp2_with fail
      refine (HV.out _ (spots_kept HA.out HU.out)).mono ?_
      rintro e w2 ⟨rfl, hb⟩
      have HB2 := Lib.hid (below_of HA.out hb HA.out.size)
      have HX2 := Lib.hid (wbox_kept hb (by simp) HX.out)
      have hz2 : w.heap.size < w2.heap.size := by have := hb.size; simp at this; omega
      clear hb
      rw [H1.out]
      go_wp2_with fail
      refine (isWaves_any n _).mono ?_
      rintro e w3 ⟨rfl, hb⟩
      have HB3 := Lib.hid (below_of HB2.out hb HB2.out.size)
      have HX3 := Lib.hid (wbox_kept hb hz2 HX2.out)
      have hz3 := Nat.lt_of_lt_of_le hz2 hb.size
      clear hb
      rw [H2.out]
      go_wp2_with fail
      refine (waveOf_any n rs u _ (sin_kept HB3.out HT.out) (spots_kept HB3.out HU.out) H1.out HN.out).mono ?_
      rintro e w4 ⟨rfl, hb⟩
      have HB4 := Lib.hid (below_of HB3.out hb HB3.out.size)
      obtain ⟨x0, x1, x2, x3⟩ := wbox_kept hb hz3 HX3.out
      clear hb
      go_wp2
      try simp only [Exit.inBlock, Exit.then]
      refine bodyPost_ret_by (v := .tuple #[.agg #[.int .i64 (wsC n rs rs.length), .int .i64 (wsS n rs rs.length)], .int .i64 0]) (by rw [results_cell_tmp rfl]; go_simp) rfl ⟨rfl, ?_⟩
      exact ((HB4.out.setCell (by simp) _).setCell (by simp) _)
    · have H2 := Lib.hid h2
      have HC := Lib.hid (spC_no h1 h2)
      have HR := Lib.hid (show cwC n rs = 0 by unfold cwC; rw [HC.out]; rfl)
      have HR2 := Lib.hid (show cwS n rs = 0 by unfold cwS; rw [HC.out]; rfl)
      rw [HC.out, HR.out, HR2.out]
      clear h1 h2
      go_enter Tryd.func23, Tryd.ntmps23
      go_wp2_with fail
      refine (HV.out _ (spots_kept HA.out HU.out)).mono ?_
      rintro e w2 ⟨rfl, hb⟩
      have HB2 := Lib.hid (below_of HA.out hb HA.out.size)
      have HX2 := Lib.hid (wbox_kept hb (by simp) HX.out)
      have hz2 : w.heap.size < w2.heap.size := by have := hb.size; simp at this; omega
      clear hb
      rw [H1.out]
      go_wp2_with fail
      refine (isWaves_any n _).mono ?_
      rintro e w3 ⟨rfl, hb⟩
      have HB3 := Lib.hid (below_of HB2.out hb HB2.out.size)
      obtain ⟨x0, x1, x2, x3⟩ := wbox_kept hb hz2 HX2.out
      clear hb
      rw [H2.out]
      go_wp2
      try simp only [Exit.inBlock, Exit.then]
      refine bodyPost_ret_by (v := .tuple #[.agg #[.int .i64 0, .int .i64 0], .int .i64 2]) (by rw [results_cell_tmp rfl]; go_simp) rfl ⟨rfl, ?_⟩
      exact ((HB3.out.setCell (by simp) _).setCell (by simp) _)
  · have H1 := Lib.hid h1
    have HC := Lib.hid (spC_bad (n := n) h1)
    have HR := Lib.hid (show cwC n rs = 0 by unfold cwC; rw [HC.out]; rfl)
    have HR2 := Lib.hid (show cwS n rs = 0 by unfold cwS; rw [HC.out]; rfl)
    rw [HC.out, HR.out, HR2.out]
    clear h1
    go_enter Tryd.func23, Tryd.ntmps23
    go_wp2_with fail
    refine (HV.out _ (spots_kept HA.out HU.out)).mono ?_
    rintro e w2 ⟨rfl, hb⟩
    have HB2 := Lib.hid (below_of HA.out hb HA.out.size)
    obtain ⟨x0, x1, x2, x3⟩ := wbox_kept hb (by simp) HX.out
    clear hb
    rw [H1.out]
    go_wp2
    try simp only [Exit.inBlock, Exit.then]
    refine bodyPost_ret_by (v := .tuple #[.agg #[.int .i64 0, .int .i64 0], .int .i64 1]) (by rw [results_cell_tmp rfl]; go_simp) rfl ⟨rfl, ?_⟩
    exact ((HB2.out.setCell (by simp) _).setCell (by simp) _)
set_option maxHeartbeats 1000000 in
theorem implSO_any (n : Int) (rs : List Qt) (u : Value) (w : World) (hT : SinOk w) (hu : SpotsAt w u rs) :
    Calls Tryd.prog 11 #[u, .int .i64 n] w fun e w' => e = .returned (.tuple #[.int .i64 (spR n rs), .int .i64 (spC n rs)]) ∧ Below w.heap.size w w' := by
  have HK := Lib.hid (checked_any n rs u w hT hu)
  clear hT hu
  by_cases h0 : spC n rs = 0
  · have HR := Lib.hid (show spR n rs = spV n rs by unfold spR; rw [if_pos h0])
    have h1 : spotsB rs = true := by
      rcases Bool.eq_false_or_eq_true (spotsB rs) with h | h
      · exact h
      · rw [spC_bad h] at h0; cases h0
    have HW := Lib.hid (show cwC n rs = wsC n rs rs.length by unfold cwC; rw [if_pos h0])
    have HW2 := Lib.hid (show cwS n rs = wsS n rs rs.length by unfold cwS; rw [if_pos h0])
    have HS := Lib.hid (fun w => split_any (wsC n rs rs.length) (wsS n rs rs.length) w (rdC_bd n h1).1 (rdS_bd n h1).1)
    have HV := Lib.hid (show rootV (nq (wsC n rs rs.length) 1000 * nq (wsC n rs rs.length) 1000 + nq (wsS n rs rs.length) 1000 * nq (wsS n rs rs.length) 1000) = spV n rs from rfl)
    rw [HV.out] at HS
    rw [h0, HW.out, HW2.out] at HK
    rw [h0, HR.out]
    generalize wsC n rs rs.length = A at *
    generalize wsS n rs rs.length = B at *
    generalize spV n rs = r at *
    clear h0 h1
    go_enter Tryd.func11, Tryd.ntmps11
    go_wp2_with fail
    refine HK.out.mono ?_
    rintro e w2 ⟨rfl, hb⟩
    have HB2 := Lib.hid hb
    clear hb
    go_wp2_with fail
    refine (HS.out _).mono ?_
    rintro e w3 ⟨rfl, hb⟩
    have HB3 := Lib.hid (below_of (HB2.out.alloc HB2.out.size _) hb (by have := HB2.out.size; simp; omega))
    clear hb
    go_wp2
    go_ret2
    exact ⟨rfl, HB3.out⟩
  · have HR := Lib.hid (show spR n rs = 0 by unfold spR; rw [if_neg h0])
    rw [HR.out]
    generalize cwC n rs = A at *
    generalize cwS n rs = B at *
    generalize spC n rs = r at *
    have hne : (r != 0) = true := by simpa using h0
    clear h0
    go_enter Tryd.func11, Tryd.ntmps11
    go_wp2_with fail
    refine HK.out.mono ?_
    rintro e w2 ⟨rfl, hb⟩
    have HB2 := Lib.hid hb
    clear hb
    go_wp2
    go_ret2
    exact ⟨rfl, HB2.out.alloc HB2.out.size _⟩
end Go.Proofs.YtfleececlafjkaaDoor
