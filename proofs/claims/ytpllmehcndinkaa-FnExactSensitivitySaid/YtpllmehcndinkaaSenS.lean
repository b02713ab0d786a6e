/- Sensitivity: the reference model's answer. -/
import Derived.Test.YtpllmehcndinkaaSenSpec
import Derived.Deep.RegionLaw
set_option linter.unusedVariables false
namespace Go.Proofs.Ytpllmehcndinkaa
open Go.ChangeShapes Go.WideShapes Go.ChangeAt Go.RowKit

theorem raw_get (zs : List Int) (ws : List (List Int)) (bs : List Int) (rs : List Rg) (k : Nat) (h : k < 5) : (rawL zs ws bs rs).getD k 0 = rawK zs ws bs rs k := by simp [rawL, List.getD, h]
theorem rawK_bd {zs : List Int} {ws : List (List Int)} {bs : List Int} {s : ByteArray} {rs : List Rg} (hM : modB zs ws bs = true) (hP : profB s rs = true) (hF : fitB rs.length zs = true) (k : Nat) (hk : k < 5) : 0 ≤ rawK zs ws bs rs k ∧ rawK zs ws bs rs k ≤ 1200000000000000000 := by
  obtain ⟨hz, ⟨hw5, hb5⟩, hrows, hbase⟩ := mod_iff.1 hM
  obtain ⟨-, ⟨n1, n2⟩, -, -⟩ := prof_iff.1 hP
  have hzl := zones_len hz
  have hrow := row_iff.1 (allRows_at hrows k (by omega))
  have hm := momN_bd (ws.getD k []) (zWalls rs zs) zs.length (fun j hj => allIn_at hrow.2.1 j (by rw [hrow.1]; exact hj)) (fun j hj => by rw [zWalls_get rs zs j hj]; exact zWall_bd (fun i hi => prof_ring hP i hi) hF j hj)
  have hb := allIn_at hbase k (by omega)
  have ha := area_bd (prof_ring hP 0 (by omega))
  unfold rawK
  generalize momN (ws.getD k []) (zWalls rs zs) zs.length = t at *
  generalize bs.getD k 0 = x at *
  generalize areaV (rs.getD 0 zR) = A at *
  have ht : t ≤ 1200000000 := by omega
  have h1 : 0 ≤ x * t := Int.mul_nonneg (by omega) hm.1
  have h2 : x * t ≤ 1000000000 * 1200000000 := Int.mul_le_mul hb.2 ht hm.1 (by omega)
  exact nq_pos h1 (by omega) (by omega) (by omega)
theorem cut1_ok {z : Int} {n : Nat} (h : inB z 0 ((n : Int) - 1) = true) (hn : n ≤ 8) : cutsB [(z, 1)] = true ∧ inZ [(z, 1)] n = true ∧ fitsC [(z, 1)] = true := by
  have hz : 0 ≤ z ∧ z ≤ (n : Int) - 1 := by unfold inB at h; simpa using h
  refine ⟨cutsB_iff.2 ⟨by simp, allC_true (fun i hi => ?_)⟩, inZ_true (fun i hi => ?_), fitsC_iff.2 (fun y _ => ?_)⟩
  · have : i = 0 := by simpa using hi
    subst this
    show cutB (z, 1) = true
    unfold cutB inB
    simp; omega
  · have : i = 0 := by simpa using hi
    subst this
    show z < (n : Int)
    omega
  · show (if z = (y : Int) then (1 : Int) else 0) + 0 ≤ 20
    split <;> omega
/-- Cuts of one entry, in a row of the call's own. -/
theorem cut1_at (w : World) (z y : Int) (T : TypeId) (hz : z = z) : CutsAt (w.alloc (.cells #[.int .i64 z, .int .i64 y] T)) (.slice (some ⟨w.heap.size, 0, none⟩) 1 1) [(z, y)] := by
  refine ⟨by simp, .inr ⟨w.heap.size, 0, 1, rfl, alloc_lt2 _ _, fun j hj => ?_⟩⟩
  have hj2 : j < 2 := by simpa using hj
  match j, hj2 with
  | 0, _ => go_simp; rfl
  | 1, _ => go_simp; rfl
set_option maxRecDepth 20000 in
set_option maxHeartbeats 4000000 in
theorem specSen_any (v0 v1 v2 v : Value) (zs : List Int) (ws : List (List Int)) (bs : List Int) (s : ByteArray) (rs : List Rg) (z : Int) (w : World) (h0 : IntsAt w v0 zs) (h1 : RowsAt w v1 ws) (h2 : IntsAt w v2 bs) (hv : RingsAt w v rs) (hs : s.size ≤ maxLen) (hzb : -9223372036854775808 ≤ z ∧ z ≤ 9223372036854775807) :
    Calls Try.prog 30 #[.agg #[v0, v1, v2], .agg #[.string s, v], .int .i64 z] w (IntU (senL zs ws bs s rs z) (senC zs ws bs s rs z) w) := by
  obtain ⟨i0, hi, hz0, hz1, hz2⟩ := info_parts infoI64
  have hba : Below w.heap.size w ((w.alloc (.cells #[v0, v1, v2] 25)).alloc (.cells #[.string s, v] 45)) := (below_al _ _).alloc (by simp) _
  have hm : ModIn ((w.alloc (.cells #[v0, v1, v2] 25)).alloc (.cells #[.string s, v] 45)) w.heap.size v0 v1 v2 := ⟨by go_simp, by go_simp, by go_simp⟩
  have hp : ProfIn ((w.alloc (.cells #[v0, v1, v2] 25)).alloc (.cells #[.string s, v] 45)) (w.heap.size + 1) s v := ⟨by go_simp, by go_simp⟩
  have hml : w.heap.size < ((w.alloc (.cells #[v0, v1, v2] 25)).alloc (.cells #[.string s, v] 45)).heap.size := by simp; omega
  have hpl : w.heap.size + 1 < ((w.alloc (.cells #[v0, v1, v2] 25)).alloc (.cells #[.string s, v] 45)).heap.size := by simp
  have HAK := Lib.hid (l08Ask_any w.heap.size (w.heap.size + 1) v0 v1 v2 v zs ws bs s rs _ hml hpl hm (ints_kept hba h0) (mrows_kept hba h1) (ints_kept hba h2) hp (rings_kept hba hv) hs)
  have HBA := Lib.hid hba
  by_cases h : askM zs ws bs s rs = 0
  · obtain ⟨q1, q2, q3⟩ := askM_ok h
    have hzl := zones_len (mod_iff.1 q1).1
    have HQ := Lib.hid h
    have HMI := Lib.hid (fun W (hW : Below ((w.alloc (.cells #[v0, v1, v2] 25)).alloc (.cells #[.string s, v] 45)).heap.size ((w.alloc (.cells #[v0, v1, v2] 25)).alloc (.cells #[.string s, v] 45)) W) => modIn_keep hW hml hm)
    have HPI := Lib.hid (fun W (hW : Below ((w.alloc (.cells #[v0, v1, v2] 25)).alloc (.cells #[.string s, v] 45)).heap.size ((w.alloc (.cells #[v0, v1, v2] 25)).alloc (.cells #[.string s, v] 45)) W) => prof_keep hW hpl hp)
    have H0 := Lib.hid (ints_kept hba h0)
    have H1 := Lib.hid (mrows_kept hba h1)
    have H2 := Lib.hid (ints_kept hba h2)
    have HV := Lib.hid (rings_kept hba hv)
    have hb0 := hm.c0
    obtain ⟨a0, k0, hv0⟩ := ints_form h0
    subst hv0
    rcases Bool.eq_false_or_eq_true (inB z 0 ((zs.length : Int) - 1)) with hz | hz
    · have hcut := sen_cut (rs := rs) ⟨by omega, by omega⟩ hz
      obtain ⟨c1, c2, c3⟩ := cut1_ok hz hzl.2
      have HAC := Lib.hid ((apC_ok (apA_0 (lath_iff.2 ⟨q2, q3⟩) c1 c2 c3)).trans (by rw [hcut]))
      have HCT := Lib.hid hcut
      have hwr : IntKind.i64.wrap ((zs.length : Int) - 1) = (zs.length : Int) - 1 := IntWalk.i64_in _ (by omega)
      have HZ := Lib.hid hz
      have HZL := Lib.hid hzl
      have HTL := Lib.hid (senT_len rs zs z)
      clear hba hm hp h0 h1 h2 hv h c1 c2 c3 hcut hz hzl
      rcases Bool.eq_false_or_eq_true (profB s (senT rs zs z)) with h5 | h5
      · have hrc : resC s (senT rs zs z) = 0 := by unfold resC; rw [if_pos h5]
        have HR := Lib.hid (sen_ok HQ.out HZ.out h5)
        rw [hrc] at HAC
        have hfl : fitB (senT rs zs z).length zs = true := by rw [HTL.out]; exact q3
        have HRW := Lib.hid (fun (m p : Nat) (vx : Value) (l : List Rg) (hl : profB s l = true) (hfl : fitB l.length zs = true) W (hml : m < W.heap.size) (hpl : p < W.heap.size) (hm : ModIn W m (.slice a0 zs.length k0) v1 v2) (g0 : IntsAt W (.slice a0 zs.length k0) zs) (g1 : RowsAt W v1 ws) (g2 : IntsAt W v2 bs) (hp : ProfIn W p s vx) (hv : RingsAt W vx l) => l08Raw_any m p (.slice a0 zs.length k0) v1 v2 vx zs ws bs s l W hml hpl hm g0 g1 g2 hp hv hs q1 hl hfl)
        have HBD := Lib.hid (fun k (hk : k < 5) => And.intro (rawK_bd q1 q2 q3 k hk) (rawK_bd q1 h5 hfl k hk))
        have HSN := Lib.hid (fun k (hk : k < 5) => senA_next zs ws bs rs z k hk)
        have HSL := Lib.hid (senA_len zs ws bs rs z)
        have HSK := Lib.hid (fun k => show senK zs ws bs rs z k = rawK zs ws bs rs k - rawK zs ws bs (senT rs zs z) k from rfl)
        have HG1 := Lib.hid (fun k (hk : k < 5) => raw_get zs ws bs rs k hk)
        have HG2 := Lib.hid (fun k (hk : k < 5) => raw_get zs ws bs (senT rs zs z) k hk)
        have HLN := Lib.hid (raw_len zs ws bs)
        have H5 := Lib.hid h5
        have HQ2 := Lib.hid q2
        have HQ3 := Lib.hid q3
        have HFL := Lib.hid hfl
        clear hrc hfl h5 q1 q2 q3
        go_enter Try.func30, Try.ntmps30
        go_wp2_with fail
        generalize (w.alloc (.cells #[.slice a0 zs.length k0, v1, v2] 25)).alloc (.cells #[.string s, v] 45) = wA at *
        refine HAK.out.mono ?_
        rintro e w1 ⟨rfl, hb⟩
        rw [HQ.out]
        have b0 := (below_cell hb _ _ hml).trans hb0
        have HB1 := Lib.hid hb
        clear hb hb0
        go_wp2_with fail
        refine (l00In_any z 0 ((zs.length : Int) - 1) _).mono ?_
        rintro e w2 ⟨rfl, rfl⟩
        rw [HZ.out]
        have HX := Lib.hid (below_of HB1.out (below_al w1 (.cells #[.int .i64 z, .int .i64 1] 104)) HB1.out.size)
        go_wp2_with fail
        refine (l09Apply_any (w.heap.size + 1) s v (.slice a0 zs.length k0) (.slice (some ⟨w1.heap.size, 0, none⟩) 1 1) rs zs [(z, 1)] _ (Nat.lt_of_lt_of_le hpl HX.out.size) (HPI.out _ HX.out) (rings_kept HX.out HV.out) hs (ints_kept HX.out H0.out) (cut1_at w1 z 1 _ rfl)).mono ?_
        rintro e w2 ⟨vn, rfl, hrv, hb⟩
        rw [HAC.out, HCT.out] at hrv
        rw [HAC.out]
        have hrv2 : Rv w2 (w1.alloc (.cells #[.int .i64 z, .int .i64 1] 104)).heap.size vn (senT rs zs z) := hrv
        obtain ⟨an, cn, rfl⟩ := rv_form hrv2
        rw [show resS s 0 = s from rfl]
        have HB2 := Lib.hid (below_of HX.out hb HX.out.size)
        have HRN := Lib.hid (rv_rings (by rw [HTL.out]; exact HV.out.1) hrv2)
        clear hb hrv hrv2 b0
        generalize hll : (senT rs zs z).length = ln at *
        have HY := Lib.hid (below_of HB2.out (below_al w2 (.cells #[.string s, .slice an ln cn] 45)) HB2.out.size)
        have hpn : ProfIn (w2.alloc (.cells #[.string s, .slice an ln cn] 45)) w2.heap.size s (.slice an ln cn) := ⟨by go_simp, by go_simp⟩
        have HRB := Lib.hid (rings_kept (below_al w2 (.cells #[.string s, .slice an ln cn] 45)) HRN.out)
        have hl3 := alloc_lt2 w2 (.cells #[.string s, .slice an ln cn] 45)
        have hAY : w.heap.size < w2.heap.size ∧ w.heap.size + 1 < w2.heap.size := ⟨Nat.lt_of_lt_of_le hml HB2.out.size, Nat.lt_of_lt_of_le hpl HB2.out.size⟩
        clear HRN HX
        go_wp2_with fail
        generalize w2.alloc (.cells #[.string s, .slice an ln cn] 45) = w3 at *
        refine (HRW.out w.heap.size (w.heap.size + 1) v rs HQ2.out HQ3.out _ (by omega) (by omega) (HMI.out _ HY.out) (ints_kept HY.out H0.out) (mrows_kept HY.out H1.out) (ints_kept HY.out H2.out) (HPI.out _ HY.out) (rings_kept HY.out HV.out)).mono ?_
        rintro e w4 ⟨⟨va, rfl, ha⟩, hb⟩
        have HA := Lib.hid ha
        have HB4 := Lib.hid (below_of HY.out hb HY.out.size)
        have hpn4 := prof_keep hb hl3 hpn
        have HRB4 := Lib.hid (rings_kept hb HRB.out)
        have hl4 := Nat.lt_of_lt_of_le hl3 hb.size
        clear hb hpn ha HRB
        go_wp2_with fail
        refine (HRW.out w.heap.size w2.heap.size (.slice an ln cn) (senT rs zs z) H5.out (by rw [hll]; exact HFL.out) _ (by omega) hl4 (HMI.out _ HB4.out) (ints_kept HB4.out H0.out) (mrows_kept HB4.out H1.out) (ints_kept HB4.out H2.out) hpn4 HRB4.out).mono ?_
        rintro e w5 ⟨⟨vb, rfl, hbv⟩, hb⟩
        obtain ⟨ba, oa, ca, rfl, hla, hca⟩ := ints_cells (iv_ints (by rw [HLN.out]; omega) (iv_kept hb HA.out)) (by rw [HLN.out]; omega)
        obtain ⟨bb, ob, cb, rfl, hlb, hcb⟩ := ints_cells (iv_ints (by rw [HLN.out]; omega) hbv) (by rw [HLN.out]; omega)
        rw [HLN.out] at hca hcb
        rw [HLN.out, HLN.out]
        have HCA := Lib.hid hca
        have HCB := Lib.hid hcb
        have HB5 := Lib.hid (below_of HBA.out (below_of HB4.out hb HB4.out.size) HBA.out.size)
        have HA0 := Lib.hid (show (w5.alloc (.cells #[] 2)).ownsRow w5.heap.size 2 1 (.slice (some ⟨w5.heap.size, 0, none⟩) 0 0) 0 [] from World.ownsRow_made w5 #[] 0 (Nat.le_refl _) (by simp) (by simp))
        clear hb hbv hca hcb HA hpn4 HRB4 hl4 hl3 hAY HY HB4 HB2 HB1 HRW
        go_wp2
        go_loopw [13, 14] (fun v i wr => ∃ k : Nat, k ≤ 5 ∧ i = .int .i64 k ∧ wr.ownsRow w5.heap.size 2 1 v k (i64s ((senA zs ws bs rs z).take k)) ∧ Below w5.heap.size w5 wr) (fun _ i _ => 5 - (intOf i).toNat)
        case atStart => exact ⟨0, by omega, rfl, by simpa [i64s] using HA0.out, below_al _ _⟩
        case round =>
          obtain ⟨k, hk, rfl, hown, hbw⟩ := hrel
          have HO := Lib.hid hown
          have HBW := Lib.hid hbw
          clear hown hbw
          by_cases hlt : k < 5
          · have y0 := HCA.out k hlt
            have y1 := HCB.out k hlt
            rw [HG1.out k hlt] at y0
            rw [HG2.out k hlt] at y1
            obtain ⟨⟨x0, x1⟩, z0, z1⟩ := HBD.out k hlt
            have HNX := Lib.hid (HSN.out k hlt)
            have HKK := Lib.hid (HSK.out k)
            generalize rawK zs ws bs rs k = x at *
            generalize rawK zs ws bs (senT rs zs z) k = y at *
            have hw : IntKind.i64.wrap (x - y) = x - y := IntWalk.i64_in _ (by omega)
            have hk0 : (0 : Int) ≤ (k : Int) := by omega
            have hk1 : (k : Int) < 5 := by omega
            have HSS := Lib.hid (fun W (hW : Below w5.heap.size w5 W) => show W.cell? ⟨ba, oa + k, none⟩ = some (.int .i64 x) ∧ W.cell? ⟨bb, ob + k, none⟩ = some (.int .i64 y) ∧ Below w5.heap.size w5 W from ⟨(below_cell hW _ _ hla).trans y0, (below_cell hW _ _ hlb).trans y1, hW⟩)
            have hbd : Below w5.heap.size w5 wr.drew := HBW.out.trans ⟨rfl, rfl, rfl, Nat.le_refl _, fun _ _ => rfl⟩
            have HO6 := Lib.hid (show (wr.alloc (.cells #[.int .i64 (x - y)] 2)).drew.ownsRow w5.heap.size 2 1 _ k (i64s ((senA zs ws bs rs z).take k)) from HO.out.alloc (.cells #[.int .i64 (x - y)] 2))
            have hbw6 : Below w5.heap.size w5 (wr.alloc (.cells #[.int .i64 (x - y)] 2)).drew := HBW.out.trans ⟨rfl, rfl, rfl, by simp, fun j hj => heap_alloc_old wr _ (Nat.lt_of_lt_of_le hj HBW.out.size)⟩
            have hsz6 : w5.heap.size ≤ (wr.alloc (.cells #[.int .i64 (x - y)] 2)).drew.heap.size := hbw6.size
            clear y0 y1 x0 x1 z0 z1
            go_wp2
            go_region_held3 (fun W => W.cell? ⟨ba, oa + k, none⟩ = some (.int .i64 x) ∧ W.cell? ⟨bb, ob + k, none⟩ = some (.int .i64 y) ∧ Below w5.heap.size w5 W)
              (first | exact HSS.out _ hbd | exact HSS.out _ hbw6 | exact HSS.out _ hbw7 | assumption)
              (first | (refine step_append_lies _ rfl (.tmp 48) (.tmp 58) 22 rfl w5.heap.size 2 i0 (.int .i64 0) 1 8 Try.underlying22 hi hz0 hz1 hz2 rfl (by decide) _ k (i64s ((senA zs ws bs rs z).take k)) (by simp [Act.eval]) HO6.out ⟨wr.heap.size, 0, none⟩ 1 1 [.int .i64 (x - y)] (by simp [Act.eval]) rfl newsR (by intro u hu; simp at hu; subst hu; rfl) (by decide) (by unfold maxLen; omega) (by omega) hsz6 _ rfl ?_; intro g4 cap4 w4 hown4 hgrow4 hat4 hlt4; have hbw7 := hbw6.grown hgrow4 hsz6 (fun j hj => (HO6.out.lt j hj).1)))
            have HO4 := Lib.hid (show w4.ownsRow w5.heap.size 2 1 (.slice (some ⟨g4, 0, none⟩) (k + 1) cap4) (k + 1) (i64s ((senA zs ws bs rs z).take (k + 1))) from by rw [HNX.out, HKK.out]; exact hown4)
            have HB4 := Lib.hid hbw7
            clear hown4 hgrow4 hat4 hlt4 hbw7
            go_wp2
            go_roundw
            case rel => exact ⟨k + 1, by omega, by go_num, HO4.out, HB4.out⟩
            case measure => simp [intOf]; omega
          · obtain rfl : k = 5 := by omega
            have hown := HO.out
            rw [List.take_of_length_le (by rw [HSL.out]; exact Nat.le_refl _)] at hown
            obtain ⟨g5, cap5, rfl, -, -⟩ := hown.form (by omega)
            have hg5 := (hown.lt _ rfl).1
            have HOF := Lib.hid hown
            have HBF := Lib.hid (below_of HB5.out HBW.out HB5.out.size)
            have hws := HB5.out.size
            clear hown
            go_wp2
            go_ret2
            exact ⟨.slice (some ⟨g5, 0, none⟩) 5 cap5, ret_iv HR.out.1.symm, by rw [HR.out.2]; exact iv_base (iv_of_row HSL.out HOF.out) hws, HBF.out⟩
      · have hrc : resC s (senT rs zs z) = 6 := by unfold resC; rw [h5]; rfl
        have HR := Lib.hid (senC_6 HQ.out HZ.out h5)
        have HL := Lib.hid (sen_no HR.out (by decide))
        rw [hrc] at HAC
        clear hrc h5 q1 q2 q3
        go_enter Try.func30, Try.ntmps30
        go_wp2_with fail
        generalize (w.alloc (.cells #[.slice a0 zs.length k0, v1, v2] 25)).alloc (.cells #[.string s, v] 45) = wA at *
        refine HAK.out.mono ?_
        rintro e w1 ⟨rfl, hb⟩
        rw [HQ.out]
        have b0 := (below_cell hb _ _ hml).trans hb0
        have HB1 := Lib.hid hb
        clear hb hb0
        go_wp2_with fail
        refine (l00In_any z 0 ((zs.length : Int) - 1) _).mono ?_
        rintro e w2 ⟨rfl, rfl⟩
        rw [HZ.out]
        have HX := Lib.hid (below_of HB1.out (below_al w1 (.cells #[.int .i64 z, .int .i64 1] 104)) HB1.out.size)
        go_wp2_with fail
        refine (l09Apply_any (w.heap.size + 1) s v (.slice a0 zs.length k0) (.slice (some ⟨w1.heap.size, 0, none⟩) 1 1) rs zs [(z, 1)] _ (Nat.lt_of_lt_of_le hpl HX.out.size) (HPI.out _ HX.out) (rings_kept HX.out HV.out) hs (ints_kept HX.out H0.out) (cut1_at w1 z 1 _ rfl)).mono ?_
        rintro e w2 ⟨vn, rfl, hrv, hb⟩
        rw [HAC.out] at hrv
        rw [HAC.out]
        obtain ⟨an, cn, rfl⟩ := rv_form hrv
        have HB2 := Lib.hid (below_of HBA.out (below_of (below_of HX.out hb HX.out.size) (below_al w2 (.cells #[.string (resS s 6), .slice an (resL (cutT rs zs [(z, 1)]) 6).length cn] 45)) (below_of HX.out hb HX.out.size).size) HBA.out.size)
        clear hb hrv b0
        generalize (resL (cutT rs zs [(z, 1)]) 6).length = ln at *
        generalize resS s 6 = s6 at *
        go_wp2
        go_ret2
        exact ⟨_, ret_iv HR.out.symm, by rw [HL.out]; exact .inl ⟨rfl, rfl⟩, HB2.out⟩
    · have HR := Lib.hid (senC_2 h hz)
      have HL := Lib.hid (sen_no HR.out (by decide))
      have hwr : IntKind.i64.wrap ((zs.length : Int) - 1) = (zs.length : Int) - 1 := IntWalk.i64_in _ (by omega)
      have HZ := Lib.hid hz
      clear hba hm hp h0 h1 h2 hv h q1 q2 q3 hz
      go_enter Try.func30, Try.ntmps30
      go_wp2_with fail
      generalize (w.alloc (.cells #[.slice a0 zs.length k0, v1, v2] 25)).alloc (.cells #[.string s, v] 45) = wA at *
      refine HAK.out.mono ?_
      rintro e w1 ⟨rfl, hb⟩
      rw [HQ.out]
      have b0 := (below_cell hb _ _ hml).trans hb0
      have HB1 := Lib.hid (below_of HBA.out hb HBA.out.size)
      clear hb hb0
      go_wp2_with fail
      refine (l00In_any z 0 ((zs.length : Int) - 1) _).mono ?_
      rintro e w2 ⟨rfl, rfl⟩
      rw [HZ.out]
      go_wp2
      go_ret2
      exact ⟨_, ret_iv HR.out.symm, by rw [HL.out]; exact .inl ⟨rfl, rfl⟩, HB1.out⟩
  · have HR := Lib.hid (senC_n (z := z) h)
    have HL := Lib.hid (sen_no HR.out h)
    obtain ⟨c, hc⟩ : ∃ c, askM zs ws bs s rs = c := ⟨_, rfl⟩
    rw [hc] at h HR HAK
    have hne : (c != 0) = true := bne_iff_ne.2 h
    have heq : (c == 0) = false := by simpa using h
    clear hba hm hp hml hpl h0 h1 h2 hv h hc
    go_enter Try.func30, Try.ntmps30
    go_wp2_with fail
    generalize (w.alloc (.cells #[v0, v1, v2] 25)).alloc (.cells #[.string s, v] 45) = wA at *
    refine HAK.out.mono ?_
    rintro e w1 ⟨rfl, hb⟩
    have HB1 := Lib.hid (below_of HBA.out hb HBA.out.size)
    clear hb
    go_wp2
    go_ret2
    exact ⟨_, ret_iv HR.out.symm, by rw [HL.out]; exact .inl ⟨rfl, rfl⟩, HB1.out⟩
end Go.Proofs.Ytpllmehcndinkaa
