/- MixOf and FitsDemand: both programs. -/
import Derived.Test.YtikoehjalcljnaaChF
import Derived.BigRegion
set_option linter.unusedVariables false
namespace Go.Proofs.Ytikoehjalcljnaa
open Go.ChangeShapes Go.WideShapes Go.ChangeAt Go.RowKit

theorem results_cell_tt {P : Program} {fn : Func} {p u v : Tmp} {ty : TypeId} (h : fn.results = #[.cell p ty, .tmp u, .tmp v]) (tmps : Array Value) (w : World) :
    (results fn tmps).run P w = ((asAddr (tmps.getD p undef)).run P w).andThen fun a w1 => ((loadVar ty a).run P w1).andThen fun x w2 => .ok (.tuple #[x, tmps.getD u undef, tmps.getD v undef]) w2 := by
  simp only [results, h]
  simp [Sem.run_bind, Result.andThen]
def mxC (rs : List Gt) (zs : List Int) : Int := if ingsB rs = true then (if chB rs.length zs = true then (if zs = [] then 6 else 0) else 2) else 1
def mxM (rs : List Gt) (zs : List Int) : Int := if mxC rs zs = 0 then sumG fM rs zs zs.length else 0
def mxV (rs : List Gt) (zs : List Int) : Value := if mxC rs zs = 0 then alV (sumG fM rs zs zs.length) (sumG fT rs zs zs.length) (sumG fO rs zs zs.length) else .agg #[.int .i64 0, .int .i64 0, .int .i64 0]
theorem mx_form (rs : List Gt) (zs : List Int) : ∃ x y z, mxV rs zs = .agg #[.int .i64 x, .int .i64 y, .int .i64 z] := by
  unfold mxV
  split
  · exact ⟨_, _, _, rfl⟩
  · exact ⟨_, _, _, rfl⟩
theorem mx_bad {rs : List Gt} {zs : List Int} {k : Int} (h : mxC rs zs = k) (hk : k ≠ 0) : mxV rs zs = .agg #[.int .i64 0, .int .i64 0, .int .i64 0] ∧ mxM rs zs = 0 := by
  unfold mxV mxM
  rw [if_neg (by rw [h]; exact hk), if_neg (by rw [h]; exact hk)]
  exact ⟨rfl, rfl⟩
theorem ret_mx {a b : Value} {m m2 c c2 : Int} (h : a = b) (k : m = m2) (l : c = c2) : Ending.returned (.tuple #[a, .int .i64 m, .int .i64 c]) = .returned (.tuple #[b, .int .i64 m2, .int .i64 c2]) := by rw [h, k, l]
theorem mx_fit {rs : List Gt} {zs : List Int} (hv : ingsB rs = true) (hr : RiseTo rs.length zs zs.length) (h0 : zs ≠ []) : (1 ≤ sumG fM rs zs zs.length ∧ sumG fM rs zs zs.length ≤ 320000000) ∧ (0 ≤ sumG fT rs zs zs.length ∧ sumG fT rs zs zs.length ≤ 320000000000000) ∧ (0 ≤ sumG fO rs zs zs.length ∧ sumG fO rs zs zs.length ≤ 320000000000000) := by
  obtain ⟨h1, h2, h3⟩ := sum_bd hv zs.length hr
  have h4 := rise_len hr
  have h5 := (ings_iff.1 hv).1
  have h6 : 1 ≤ zs.length := by cases zs with | nil => exact absurd rfl h0 | cons a l => simp
  omega
set_option maxRecDepth 20000 in
set_option maxHeartbeats 4000000 in
theorem specMix_any (rs : List Gt) (v : Value) (zs : List Int) (vz : Value) (w : World) (h : IngsAt w v rs) (hz : SzOkG rs) (hi : IntsAt w vz zs) :
    Calls Try.prog 34 #[v, vz] w fun en w' => en = .returned (.tuple #[mxV rs zs, .int .i64 (mxM rs zs), .int .i64 (mxC rs zs)]) ∧ Below w.heap.size w w' := by
  have hba := below_alG w (.cells #[.int .i64 0, .int .i64 0, .int .i64 0] 38)
  have HBA := Lib.hid hba
  have HX0 := Lib.hid (met_alloc w 0 0 0 38)
  have hl0 := alloc_ltG w (.cells #[.int .i64 0, .int .i64 0, .int .i64 0] 38)
  have HI0 := Lib.hid (ings_kept hba h)
  have HJ0 := Lib.hid (ints_kept hba hi)
  obtain ⟨sa, sc, rfl⟩ := ings_form h
  obtain ⟨ia, ic, rfl⟩ := ints_form hi
  clear h hi hba
  rcases Bool.eq_false_or_eq_true (ingsB rs) with h1 | h1
  · have H1 := Lib.hid h1
    have hL := (ings_iff.1 h1).1
    rcases Bool.eq_false_or_eq_true (chB rs.length zs) with h2 | h2
    · have H2 := Lib.hid h2
      by_cases h3 : zs = []
      · have HC := Lib.hid (show mxC rs zs = 6 by unfold mxC; rw [if_pos h1, if_pos h2, if_pos h3])
        have HBD := Lib.hid (mx_bad HC.out (by omega))
        have HLN := Lib.hid (show zs.length = 0 by rw [h3]; rfl)
        clear h1 h2 h3
        go_enter Try.func34, Try.ntmps34
        go_wp2_with fail
        generalize w.alloc (.cells #[.int .i64 0, .int .i64 0, .int .i64 0] 38) = wA at *
        refine (l13Ok_any rs _ _ HI0.out hz).mono ?_
        rintro en w1 ⟨rfl, hb⟩
        rw [H1.out]
        have HX1 := Lib.hid (met_kept hb hl0 HX0.out)
        have hl1 := Nat.lt_of_lt_of_le hl0 hb.size
        have HI1 := Lib.hid (ings_kept hb HI0.out)
        have HJ1 := Lib.hid (ints_kept hb HJ0.out)
        have HB1 := Lib.hid (below_of HBA.out hb HBA.out.size)
        clear hb
        go_wp2_with fail
        refine (l13Chosen_any sa rs.length sc zs _ _ hL HJ1.out).mono ?_
        rintro en w2 ⟨rfl, hb⟩
        rw [H2.out]
        have HX2 := Lib.hid (met_kept hb hl1 HX1.out)
        have hl2 := Nat.lt_of_lt_of_le hl1 hb.size
        have HI2 := Lib.hid (ings_kept hb HI1.out)
        have HJ2 := Lib.hid (ints_kept hb HJ1.out)
        have HB2 := Lib.hid (below_of HB1.out hb HB1.out.size)
        clear hb
        rw [HLN.out]
        obtain ⟨a0, a1, a2, b0, b1, b2⟩ := HX2.out
        go_wp2
        try simp only [Exit.inBlock, Exit.then]
        refine bodyPost_ret_by (v := .tuple #[.agg #[.int .i64 0, .int .i64 0, .int .i64 0], .int .i64 0, .int .i64 6]) (by rw [results_cell_tt rfl]; go_simp) rfl ?_
        refine ⟨ret_mx HBD.out.1.symm HBD.out.2.symm HC.out.symm, ?_⟩
        repeat (first | with_reducible exact HB2.out | refine Below.setCell ?_ (by simp) _)
      · have HC := Lib.hid (show mxC rs zs = 0 by unfold mxC; rw [if_pos h1, if_pos h2, if_neg h3])
        have HR := Lib.hid (rise_of h2)
        have hfit := mx_fit h1 (rise_of h2) h3
        have HSUM := Lib.hid (show mxV rs zs = alV (sumG fM rs zs zs.length) (sumG fT rs zs zs.length) (sumG fO rs zs zs.length) ∧ mxM rs zs = sumG fM rs zs zs.length by unfold mxV mxM; rw [if_pos HC.out, if_pos HC.out]; exact ⟨rfl, rfl⟩)
        have HNE := Lib.hid (show zs.length ≠ 0 from fun e => h3 (List.length_eq_zero_iff.1 e))
        clear h1 h2 h3
        go_enter Try.func34, Try.ntmps34
        go_wp2_with fail
        generalize w.alloc (.cells #[.int .i64 0, .int .i64 0, .int .i64 0] 38) = wA at *
        refine (l13Ok_any rs _ _ HI0.out hz).mono ?_
        rintro en w1 ⟨rfl, hb⟩
        rw [H1.out]
        have HX1 := Lib.hid (met_kept hb hl0 HX0.out)
        have hl1 := Nat.lt_of_lt_of_le hl0 hb.size
        have HI1 := Lib.hid (ings_kept hb HI0.out)
        have HJ1 := Lib.hid (ints_kept hb HJ0.out)
        have HB1 := Lib.hid (below_of HBA.out hb HBA.out.size)
        clear hb
        go_wp2_with fail
        refine (l13Chosen_any sa rs.length sc zs _ _ hL HJ1.out).mono ?_
        rintro en w2 ⟨rfl, hb⟩
        rw [H2.out]
        have HX2 := Lib.hid (met_kept hb hl1 HX1.out)
        have hl2 := Nat.lt_of_lt_of_le hl1 hb.size
        have HI2 := Lib.hid (ings_kept hb HI1.out)
        have HJ2 := Lib.hid (ints_kept hb HJ1.out)
        have HB2 := Lib.hid (below_of HB1.out hb HB1.out.size)
        clear hb
        have hne : ((zs.length : Int) == 0) = false := by have := HNE.out; exact beq_eq_false_iff_ne.2 (by omega)
        have HS := Lib.hid (fun W (hI : IngsAt W _ rs) (hJ : IntsAt W _ zs) => l13Sum_any rs (.slice sa rs.length sc) zs (.slice ia zs.length ic) W H1.out hI HR.out hJ)
        obtain ⟨m, hm⟩ : ∃ m, sumG fM rs zs zs.length = m := ⟨_, rfl⟩
        obtain ⟨t, ht⟩ : ∃ t, sumG fT rs zs zs.length = t := ⟨_, rfl⟩
        obtain ⟨o, ho⟩ : ∃ o, sumG fO rs zs zs.length = o := ⟨_, rfl⟩
        rw [hm, ht, ho] at HSUM hfit HS
        clear hm ht ho
        obtain ⟨⟨m0, m1⟩, ⟨t0, t1⟩, o0, o1⟩ := hfit
        go_wp2_with fail
        refine (HS.out _ HI2.out HJ2.out).mono ?_
        rintro en w3 ⟨rfl, hb⟩
        have HX3 := Lib.hid (met_kept hb hl2 HX2.out)
        have hl3 := Nat.lt_of_lt_of_le hl2 hb.size
        have HB3 := Lib.hid (below_of HB2.out hb HB2.out.size)
        clear hb
        obtain ⟨td0, td1⟩ := tdiv_bdM t0 m0
        obtain ⟨od0, od1⟩ := tdiv_bdM o0 m0
        obtain ⟨q, hq⟩ : ∃ q, t.tdiv m = q := ⟨_, rfl⟩
        obtain ⟨r, hr⟩ : ∃ r, o.tdiv m = r := ⟨_, rfl⟩
        unfold alV at HSUM
        rw [hq, hr] at HSUM
        rw [hq] at td0 td1
        rw [hr] at od0 od1
        have hm0 : (m == 0) = false := by simp; omega
        have hw1 : wrap64 (t.tdiv m) = q := by rw [hq]; exact IntWalk.wrap64_in _ (by omega)
        have hw2 : wrap64 (o.tdiv m) = r := by rw [hr]; exact IntWalk.wrap64_in _ (by omega)
        have hw3 : wrap64 (1000000 - q) = 1000000 - q := IntWalk.wrap64_in _ (by omega)
        have hw4 : wrap64 (1000000 - q - r) = 1000000 - q - r := IntWalk.wrap64_in _ (by omega)
        have hbd : Below w3.heap.size w3 (w3.alloc (.cells #[.int .i64 0, .int .i64 q, .int .i64 r] 38)).drew := (let h := below_alG w3 (.cells #[.int .i64 0, .int .i64 q, .int .i64 r] 38); ⟨h.os, h.tape, h.output, h.size, h.block⟩)
        have HX4 := Lib.hid (met_kept hbd hl3 HX3.out)
        have HM4 := Lib.hid (show Met (w3.alloc (.cells #[.int .i64 0, .int .i64 q, .int .i64 r] 38)).drew w3.heap.size 0 q r from (let h := met_alloc w3 0 q r 38; ⟨h.c0, h.c1, h.c2, h.f0, h.f1, h.f2⟩))
        have HB4 := Lib.hid (below_of HB3.out hbd HB3.out.size)
        clear hbd
        go_wp2
        go_region
        generalize (w3.alloc (.cells #[.int .i64 0, .int .i64 q, .int .i64 r] 38)).drew = w4 at *
        obtain ⟨x0, x1, x2, y0, y1, y2⟩ := HX4.out
        obtain ⟨u0, u1, u2, v0, v1, v2⟩ := HM4.out
        go_wp2
        try simp only [Exit.inBlock, Exit.then]
        refine bodyPost_ret_by (v := .tuple #[.agg #[.int .i64 (1000000 - q - r), .int .i64 q, .int .i64 r], .int .i64 m, .int .i64 0]) (by rw [results_cell_tt rfl]; go_simp) rfl ?_
        refine ⟨ret_mx HSUM.out.1.symm HSUM.out.2.symm HC.out.symm, ?_⟩
        have hle3 : w.heap.size ≤ w3.heap.size := Nat.le_of_lt hl3
        repeat (first | with_reducible exact HB4.out | refine Below.setCell ?_ (by first | exact Nat.le_refl _ | exact hle3) _)
    · have H2 := Lib.hid h2
      have HC := Lib.hid (show mxC rs zs = 2 by unfold mxC; rw [if_pos h1, if_neg (by rw [h2]; simp)])
      have HBD := Lib.hid (mx_bad HC.out (by omega))
      clear h1 h2
      go_enter Try.func34, Try.ntmps34
      go_wp2_with fail
      generalize w.alloc (.cells #[.int .i64 0, .int .i64 0, .int .i64 0] 38) = wA at *
      refine (l13Ok_any rs _ _ HI0.out hz).mono ?_
      rintro en w1 ⟨rfl, hb⟩
      rw [H1.out]
      have HX1 := Lib.hid (met_kept hb hl0 HX0.out)
      have hl1 := Nat.lt_of_lt_of_le hl0 hb.size
      have HI1 := Lib.hid (ings_kept hb HI0.out)
      have HJ1 := Lib.hid (ints_kept hb HJ0.out)
      have HB1 := Lib.hid (below_of HBA.out hb HBA.out.size)
      clear hb
      go_wp2_with fail
      refine (l13Chosen_any sa rs.length sc zs _ _ hL HJ1.out).mono ?_
      rintro en w2 ⟨rfl, hb⟩
      rw [H2.out]
      have HX2 := Lib.hid (met_kept hb hl1 HX1.out)
      have hl2 := Nat.lt_of_lt_of_le hl1 hb.size
      have HI2 := Lib.hid (ings_kept hb HI1.out)
      have HJ2 := Lib.hid (ints_kept hb HJ1.out)
      have HB2 := Lib.hid (below_of HB1.out hb HB1.out.size)
      clear hb
      obtain ⟨a0, a1, a2, b0, b1, b2⟩ := HX2.out
      skip
      go_wp2
      try simp only [Exit.inBlock, Exit.then]
      refine bodyPost_ret_by (v := .tuple #[.agg #[.int .i64 0, .int .i64 0, .int .i64 0], .int .i64 0, .int .i64 2]) (by rw [results_cell_tt rfl]; go_simp) rfl ?_
      refine ⟨ret_mx HBD.out.1.symm HBD.out.2.symm HC.out.symm, ?_⟩
      repeat (first | with_reducible exact HB2.out | refine Below.setCell ?_ (by simp) _)
  · have H1 := Lib.hid h1
    have HC := Lib.hid (show mxC rs zs = 1 by unfold mxC; rw [if_neg (by rw [h1]; simp)])
    have HBD := Lib.hid (mx_bad HC.out (by omega))
    clear h1
    go_enter Try.func34, Try.ntmps34
    go_wp2_with fail
    generalize w.alloc (.cells #[.int .i64 0, .int .i64 0, .int .i64 0] 38) = wA at *
    refine (l13Ok_any rs _ _ HI0.out hz).mono ?_
    rintro en w1 ⟨rfl, hb⟩
    rw [H1.out]
    have HX1 := Lib.hid (met_kept hb hl0 HX0.out)
    have hl1 := Nat.lt_of_lt_of_le hl0 hb.size
    have HI1 := Lib.hid (ings_kept hb HI0.out)
    have HJ1 := Lib.hid (ints_kept hb HJ0.out)
    have HB1 := Lib.hid (below_of HBA.out hb HBA.out.size)
    clear hb
    obtain ⟨a0, a1, a2, b0, b1, b2⟩ := HX1.out
    skip
    go_wp2
    try simp only [Exit.inBlock, Exit.then]
    refine bodyPost_ret_by (v := .tuple #[.agg #[.int .i64 0, .int .i64 0, .int .i64 0], .int .i64 0, .int .i64 1]) (by rw [results_cell_tt rfl]; go_simp) rfl ?_
    refine ⟨ret_mx HBD.out.1.symm HBD.out.2.symm HC.out.symm, ?_⟩
    repeat (first | with_reducible exact HB1.out | refine Below.setCell ?_ (by simp) _)
set_option maxRecDepth 20000 in
set_option maxHeartbeats 4000000 in
theorem implMix_any (rs : List Gt) (v : Value) (zs : List Int) (vz : Value) (w : World) (h : IngsAt w v rs) (hz : SzOkG rs) (hi : IntsAt w vz zs) :
    Calls Try.prog 36 #[v, vz] w fun en w' => en = .returned (.tuple #[mxV rs zs, .int .i64 (mxM rs zs), .int .i64 (mxC rs zs)]) ∧ Below w.heap.size w w' := by
  have hba := below_alG w (.cells #[.int .i64 0, .int .i64 0, .int .i64 0] 38)
  have HBA := Lib.hid hba
  have HX0 := Lib.hid (met_alloc w 0 0 0 38)
  have hl0 := alloc_ltG w (.cells #[.int .i64 0, .int .i64 0, .int .i64 0] 38)
  have HI0 := Lib.hid (ings_kept hba h)
  have HJ0 := Lib.hid (ints_kept hba hi)
  obtain ⟨sa, sc, rfl⟩ := ings_form h
  obtain ⟨ia, ic, rfl⟩ := ints_form hi
  clear h hi hba
  rcases Bool.eq_false_or_eq_true (ingsB rs) with h1 | h1
  · have H1 := Lib.hid h1
    have hL := (ings_iff.1 h1).1
    rcases Bool.eq_false_or_eq_true (chB rs.length zs) with h2 | h2
    · have H2 := Lib.hid h2
      by_cases h3 : zs = []
      · have HC := Lib.hid (show mxC rs zs = 6 by unfold mxC; rw [if_pos h1, if_pos h2, if_pos h3])
        have HBD := Lib.hid (mx_bad HC.out (by omega))
        have HLN := Lib.hid (show zs.length = 0 by rw [h3]; rfl)
        have HCC := Lib.hid (show chC rs.length zs = 0 by unfold chC; rw [h2, h3]; rfl)
        clear h1 h2 h3
        go_enter Try.func36, Try.ntmps36
        go_wp2_with fail
        generalize w.alloc (.cells #[.int .i64 0, .int .i64 0, .int .i64 0] 38) = wA at *
        refine (implVI_any rs _ _ HI0.out hz).mono ?_
        rintro en w1 ⟨rfl, hb⟩
        rw [H1.out]
        have HX1 := Lib.hid (met_kept hb hl0 HX0.out)
        have hl1 := Nat.lt_of_lt_of_le hl0 hb.size
        have HI1 := Lib.hid (ings_kept hb HI0.out)
        have HJ1 := Lib.hid (ints_kept hb HJ0.out)
        have HB1 := Lib.hid (below_of HBA.out hb HBA.out.size)
        clear hb
        go_wp2_with fail
        refine (choiceOf_any sa rs.length sc zs _ _ hL HJ1.out).mono ?_
        rintro en w2 ⟨rfl, hb⟩
        rw [H2.out]
        have HX2 := Lib.hid (met_kept hb hl1 HX1.out)
        have hl2 := Nat.lt_of_lt_of_le hl1 hb.size
        have HI2 := Lib.hid (ings_kept hb HI1.out)
        have HJ2 := Lib.hid (ints_kept hb HJ1.out)
        have HB2 := Lib.hid (below_of HB1.out hb HB1.out.size)
        clear hb
        rw [HCC.out]
        obtain ⟨a0, a1, a2, b0, b1, b2⟩ := HX2.out
        skip
        go_wp2
        try simp only [Exit.inBlock, Exit.then]
        refine bodyPost_ret_by (v := .tuple #[.agg #[.int .i64 0, .int .i64 0, .int .i64 0], .int .i64 0, .int .i64 6]) (by rw [results_cell_tt rfl]; go_simp) rfl ?_
        refine ⟨ret_mx HBD.out.1.symm HBD.out.2.symm HC.out.symm, ?_⟩
        repeat (first | with_reducible exact HB2.out | refine Below.setCell ?_ (by simp) _)
      · have HC := Lib.hid (show mxC rs zs = 0 by unfold mxC; rw [if_pos h1, if_pos h2, if_neg h3])
        have HR := Lib.hid (rise_of h2)
        have hfit := mx_fit h1 (rise_of h2) h3
        have HSUM := Lib.hid (show mxV rs zs = alV (sumG fM rs zs zs.length) (sumG fT rs zs zs.length) (sumG fO rs zs zs.length) ∧ mxM rs zs = sumG fM rs zs zs.length by unfold mxV mxM; rw [if_pos HC.out, if_pos HC.out]; exact ⟨rfl, rfl⟩)
        have HNE := Lib.hid (show zs.length ≠ 0 from fun e => h3 (List.length_eq_zero_iff.1 e))
        have HCC := Lib.hid (show chC rs.length zs = bitsTo zs zs.length by unfold chC; rw [if_pos h2])
        have hcb := bitsTo_lt hL (rise_of h2)
        have hcn : bitsTo zs zs.length ≠ 0 := fun e => HNE.out ((bits_zero (rise_of h2)).1 e)
        have HIX := Lib.hid (idxs_all hL rfl (rise_of h2))
        clear h1 h2 h3
        go_enter Try.func36, Try.ntmps36
        go_wp2_with fail
        generalize w.alloc (.cells #[.int .i64 0, .int .i64 0, .int .i64 0] 38) = wA at *
        refine (implVI_any rs _ _ HI0.out hz).mono ?_
        rintro en w1 ⟨rfl, hb⟩
        rw [H1.out]
        have HX1 := Lib.hid (met_kept hb hl0 HX0.out)
        have hl1 := Nat.lt_of_lt_of_le hl0 hb.size
        have HI1 := Lib.hid (ings_kept hb HI0.out)
        have HJ1 := Lib.hid (ints_kept hb HJ0.out)
        have HB1 := Lib.hid (below_of HBA.out hb HBA.out.size)
        clear hb
        go_wp2_with fail
        refine (choiceOf_any sa rs.length sc zs _ _ hL HJ1.out).mono ?_
        rintro en w2 ⟨rfl, hb⟩
        rw [H2.out]
        have HX2 := Lib.hid (met_kept hb hl1 HX1.out)
        have hl2 := Nat.lt_of_lt_of_le hl1 hb.size
        have HI2 := Lib.hid (ings_kept hb HI1.out)
        have HJ2 := Lib.hid (ints_kept hb HJ1.out)
        have HB2 := Lib.hid (below_of HB1.out hb HB1.out.size)
        clear hb
        rw [HCC.out]
        have HS := Lib.hid (fun W (hI : IngsAt W _ rs) => metalIn_any rs (.slice sa rs.length sc) (bitsTo zs zs.length) zs W hcb HIX.out HR.out H1.out hI)
        have hne : (((bitsTo zs zs.length : Nat) : Int) == 0) = false := beq_eq_false_iff_ne.2 (by omega)
        unfold mtV at HS
        obtain ⟨m, hm⟩ : ∃ m, sumG fM rs zs zs.length = m := ⟨_, rfl⟩
        obtain ⟨t, ht⟩ : ∃ t, sumG fT rs zs zs.length = t := ⟨_, rfl⟩
        obtain ⟨o, ho⟩ : ∃ o, sumG fO rs zs zs.length = o := ⟨_, rfl⟩
        rw [hm, ht, ho] at HSUM hfit HS
        clear hm ht ho
        obtain ⟨⟨m0, m1⟩, ⟨t0, t1⟩, o0, o1⟩ := hfit
        go_wp2_with fail
        refine (HS.out _ HI2.out).mono ?_
        rintro en w3 ⟨rfl, hb⟩
        have HX3 := Lib.hid (met_kept hb hl2 HX2.out)
        have hl3 := Nat.lt_of_lt_of_le hl2 hb.size
        have HB3 := Lib.hid (below_of HB2.out hb HB2.out.size)
        clear hb
        have hM4 := met_alloc w3 m t o 97
        have HX4 := Lib.hid (met_kept (below_alG w3 (.cells #[.int .i64 m, .int .i64 t, .int .i64 o] 97)) hl3 HX3.out)
        have HB4 := Lib.hid (below_of HB3.out (below_alG w3 (.cells #[.int .i64 m, .int .i64 t, .int .i64 o] 97)) HB3.out.size)
        have hl4 := alloc_ltG w3 (.cells #[.int .i64 m, .int .i64 t, .int .i64 o] 97)
        have HA := Lib.hid (fun W => alloyM_any m t o W ⟨m0, m1⟩ ⟨t0, t1⟩ ⟨o0, o1⟩)
        unfold alV at HA HSUM
        have HKB := Lib.hid (fun w2 (hb5 : Below (w3.alloc (.cells #[.int .i64 m, .int .i64 t, .int .i64 o] 97)).drew.heap.size (w3.alloc (.cells #[.int .i64 m, .int .i64 t, .int .i64 o] 97)).drew w2) => show Met w2 w3.heap.size m t o ∧ Met w2 w.heap.size 0 0 0 ∧ Below w.heap.size w w2 from (let hb6 : Below (w3.alloc (.cells #[.int .i64 m, .int .i64 t, .int .i64 o] 97)).heap.size (w3.alloc (.cells #[.int .i64 m, .int .i64 t, .int .i64 o] 97)) w2 := ⟨hb5.os, hb5.tape, hb5.output, hb5.size, hb5.block⟩; ⟨met_kept hb6 hl4 hM4, met_kept hb6 (Nat.lt_of_lt_of_le hl3 (Nat.le_of_lt hl4)) HX4.out, below_of HB4.out hb6 HB4.out.size⟩))
        obtain ⟨mm0, mm1, mm2, -, -, -⟩ := hM4
        obtain ⟨x0, x1, x2, y0, y1, y2⟩ := HX4.out
        go_wp2
        generalize w3.alloc (.cells #[.int .i64 m, .int .i64 t, .int .i64 o] 97) = w4 at *
        go_region_with (go_at_call 64; refine (HA.out _).mono ?_; rintro en w5 ⟨rfl, hb5⟩; have hk5 := HKB.out _ hb5; obtain ⟨⟨j0, j1, j2, i0, i1, i2⟩, ⟨k0, k1, k2, n0, n1, n2⟩, hk9⟩ := hk5)
        all_goals
          have HB5 := Lib.hid (HKB.out _ hb5).2.2
          clear hb5
          go_wp2
          try simp only [Exit.inBlock, Exit.then]
          refine bodyPost_ret_by (v := .tuple #[.agg #[.int .i64 (1000000 - t.tdiv m - o.tdiv m), .int .i64 (t.tdiv m), .int .i64 (o.tdiv m)], .int .i64 m, .int .i64 0]) (by rw [results_cell_tt rfl]; go_simp) rfl ?_
          refine ⟨ret_mx HSUM.out.1.symm HSUM.out.2.symm HC.out.symm, ?_⟩
          repeat (first | with_reducible exact HB5.out | refine Below.setCell ?_ (by simp) _)
    · have H2 := Lib.hid h2
      have HC := Lib.hid (show mxC rs zs = 2 by unfold mxC; rw [if_pos h1, if_neg (by rw [h2]; simp)])
      have HBD := Lib.hid (mx_bad HC.out (by omega))
      clear h1 h2
      go_enter Try.func36, Try.ntmps36
      go_wp2_with fail
      generalize w.alloc (.cells #[.int .i64 0, .int .i64 0, .int .i64 0] 38) = wA at *
      refine (implVI_any rs _ _ HI0.out hz).mono ?_
      rintro en w1 ⟨rfl, hb⟩
      rw [H1.out]
      have HX1 := Lib.hid (met_kept hb hl0 HX0.out)
      have hl1 := Nat.lt_of_lt_of_le hl0 hb.size
      have HI1 := Lib.hid (ings_kept hb HI0.out)
      have HJ1 := Lib.hid (ints_kept hb HJ0.out)
      have HB1 := Lib.hid (below_of HBA.out hb HBA.out.size)
      clear hb
      go_wp2_with fail
      refine (choiceOf_any sa rs.length sc zs _ _ hL HJ1.out).mono ?_
      rintro en w2 ⟨rfl, hb⟩
      rw [H2.out]
      have HX2 := Lib.hid (met_kept hb hl1 HX1.out)
      have hl2 := Nat.lt_of_lt_of_le hl1 hb.size
      have HI2 := Lib.hid (ings_kept hb HI1.out)
      have HJ2 := Lib.hid (ints_kept hb HJ1.out)
      have HB2 := Lib.hid (below_of HB1.out hb HB1.out.size)
      clear hb
      generalize chC rs.length zs = cc at *
      obtain ⟨a0, a1, a2, b0, b1, b2⟩ := HX2.out
      skip
      go_wp2
      try simp only [Exit.inBlock, Exit.then]
      refine bodyPost_ret_by (v := .tuple #[.agg #[.int .i64 0, .int .i64 0, .int .i64 0], .int .i64 0, .int .i64 2]) (by rw [results_cell_tt rfl]; go_simp) rfl ?_
      refine ⟨ret_mx HBD.out.1.symm HBD.out.2.symm HC.out.symm, ?_⟩
      repeat (first | with_reducible exact HB2.out | refine Below.setCell ?_ (by simp) _)
  · have H1 := Lib.hid h1
    have HC := Lib.hid (show mxC rs zs = 1 by unfold mxC; rw [if_neg (by rw [h1]; simp)])
    have HBD := Lib.hid (mx_bad HC.out (by omega))
    clear h1
    go_enter Try.func36, Try.ntmps36
    go_wp2_with fail
    generalize w.alloc (.cells #[.int .i64 0, .int .i64 0, .int .i64 0] 38) = wA at *
    refine (implVI_any rs _ _ HI0.out hz).mono ?_
    rintro en w1 ⟨rfl, hb⟩
    rw [H1.out]
    have HX1 := Lib.hid (met_kept hb hl0 HX0.out)
    have hl1 := Nat.lt_of_lt_of_le hl0 hb.size
    have HI1 := Lib.hid (ings_kept hb HI0.out)
    have HJ1 := Lib.hid (ints_kept hb HJ0.out)
    have HB1 := Lib.hid (below_of HBA.out hb HBA.out.size)
    clear hb
    obtain ⟨a0, a1, a2, b0, b1, b2⟩ := HX1.out
    skip
    go_wp2
    try simp only [Exit.inBlock, Exit.then]
    refine bodyPost_ret_by (v := .tuple #[.agg #[.int .i64 0, .int .i64 0, .int .i64 0], .int .i64 0, .int .i64 1]) (by rw [results_cell_tt rfl]; go_simp) rfl ?_
    refine ⟨ret_mx HBD.out.1.symm HBD.out.2.symm HC.out.symm, ?_⟩
    repeat (first | with_reducible exact HB1.out | refine Below.setCell ?_ (by simp) _)
end Go.Proofs.Ytikoehjalcljnaa
