/- A profile after cuts: the reference model's. -/
import Derived.Test.YtpjopfhkgegahaaGreatG3
set_option linter.unusedVariables false
namespace Go.Proofs.YtpjopfhkgegahaaGreat
open Go.ChangeShapes Go.WideShapes Go.ChangeAt Go.RowKit

def inZ (cs : List Ct) (nz : Nat) : Bool := cs.all fun c => decide (c.1 < (nz : Int))
theorem inZ_true {cs : List Ct} {nz : Nat} (h : ∀ i, i < cs.length → (cs.getD i zC).1 < (nz : Int)) : inZ cs nz = true := by
  unfold inZ
  rw [List.all_eq_true]
  intro x hx
  obtain ⟨i, hi, rfl⟩ := List.mem_iff_getElem.1 hx
  have := h i hi
  rw [List.getD_eq_getElem?_getD, List.getElem?_eq_getElem hi] at this
  simpa using this
theorem inZ_false {cs : List Ct} {nz i : Nat} (hi : i < cs.length) (h : ¬ (cs.getD i zC).1 < (nz : Int)) : inZ cs nz = false := by
  unfold inZ
  rw [List.all_eq_false]
  refine ⟨cs.getD i zC, ?_, by simpa using h⟩
  rw [List.getD_eq_getElem?_getD, List.getElem?_eq_getElem hi]
  exact List.getElem_mem hi
def apA (s : ByteArray) (rs : List Rg) (zs : List Int) (cs : List Ct) : Int := if lathB s rs zs = true then if cutsB cs = true then if inZ cs zs.length = true then if fitsC cs = true then 0 else 5 else 2 else 1 else 1
theorem apA_1 {s : ByteArray} {rs : List Rg} {zs : List Int} {cs : List Ct} (h : lathB s rs zs = false) : apA s rs zs cs = 1 := by unfold apA; rw [h]; rfl
theorem apA_1c {s : ByteArray} {rs : List Rg} {zs : List Int} {cs : List Ct} (h : lathB s rs zs = true) (h2 : cutsB cs = false) : apA s rs zs cs = 1 := by unfold apA; rw [h, h2]; rfl
theorem apA_2 {s : ByteArray} {rs : List Rg} {zs : List Int} {cs : List Ct} (h : lathB s rs zs = true) (h2 : cutsB cs = true) (h3 : inZ cs zs.length = false) : apA s rs zs cs = 2 := by unfold apA; rw [h, h2, h3]; rfl
theorem apA_5 {s : ByteArray} {rs : List Rg} {zs : List Int} {cs : List Ct} (h : lathB s rs zs = true) (h2 : cutsB cs = true) (h3 : inZ cs zs.length = true) (h4 : fitsC cs = false) : apA s rs zs cs = 5 := by unfold apA; rw [h, h2, h3, h4]; rfl
theorem apA_0 {s : ByteArray} {rs : List Rg} {zs : List Int} {cs : List Ct} (h : lathB s rs zs = true) (h2 : cutsB cs = true) (h3 : inZ cs zs.length = true) (h4 : fitsC cs = true) : apA s rs zs cs = 0 := by unfold apA; rw [h, h2, h3, h4]; rfl
theorem apA_ok {s : ByteArray} {rs : List Rg} {zs : List Int} {cs : List Ct} (h : apA s rs zs cs = 0) : lathB s rs zs = true ∧ cutsB cs = true ∧ inZ cs zs.length = true ∧ fitsC cs = true := by
  unfold apA at h
  rcases Bool.eq_false_or_eq_true (lathB s rs zs) with h1 | h1 <;> rw [h1] at h
  · rcases Bool.eq_false_or_eq_true (cutsB cs) with h2 | h2 <;> rw [h2] at h
    · rcases Bool.eq_false_or_eq_true (inZ cs zs.length) with h3 | h3 <;> rw [h3] at h
      · rcases Bool.eq_false_or_eq_true (fitsC cs) with h4 | h4 <;> rw [h4] at h
        · exact ⟨h1, h2, h3, h4⟩
        · simp at h
      · simp at h
    · simp at h
  · simp at h
/-- The rings with the cuts made. -/
def cutT (rs : List Rg) (zs : List Int) (cs : List Ct) : List Rg := turnL (stepF zs (sumsL cs)) rs rs.length
def apC (s : ByteArray) (rs : List Rg) (zs : List Int) (cs : List Ct) : Int := if apA s rs zs cs = 0 then resC s (cutT rs zs cs) else apA s rs zs cs
theorem cutT_len (rs : List Rg) (zs : List Int) (cs : List Ct) : (cutT rs zs cs).length = rs.length := turnL_len _ _ _
theorem apC_ok {s : ByteArray} {rs : List Rg} {zs : List Int} {cs : List Ct} (h : apA s rs zs cs = 0) : apC s rs zs cs = resC s (cutT rs zs cs) := by unfold apC; rw [if_pos h]
theorem apC_no {s : ByteArray} {rs : List Rg} {zs : List Int} {cs : List Ct} (h : apA s rs zs cs ≠ 0) : apC s rs zs cs = apA s rs zs cs := by unfold apC; rw [if_neg h]
theorem resSL_no {s : ByteArray} {l : List Rg} {c : Int} (h : c ≠ 0) : resS s c = ⟨#[]⟩ ∧ resL l c = [] := by unfold resS resL; rw [if_neg h, if_neg h]; exact ⟨rfl, rfl⟩
theorem res_rv {w : World} {B : Nat} {v : Value} {l : List Rg} {s : ByteArray} (h : Rv w B v l) : Rv w B (if profB s l = true then v else .slice none 0 0) (resL l (resC s l)) := by
  by_cases hp : profB s l = true
  · rw [if_pos hp]
    unfold resL resC
    rw [if_pos hp, if_pos rfl]; exact h
  · rw [if_neg hp]
    unfold resL resC
    rw [if_neg hp, if_neg (by omega)]; exact .inl ⟨rfl, rfl⟩
theorem ap_len (s : ByteArray) (rs : List Rg) (zs : List Int) (cs : List Ct) : (resL (cutT rs zs cs) (apC s rs zs cs)).length ≤ 64 := by
  by_cases h : apA s rs zs cs = 0
  · refine resL_len _ _ ?_
    rw [cutT_len]
    have := (prof_iff.1 (lath_iff.1 (apA_ok h).1).1).2.1
    omega
  · rw [apC_no h, (resSL_no (s := s) h).2]; simp
theorem ret_ap {s s2 : ByteArray} {v : Value} {a b : Int} (h1 : s = s2) (h : a = b) : Ending.returned (.tuple #[.agg #[.string s, v], .int .i64 a]) = .returned (.tuple #[.agg #[.string s2, v], .int .i64 b]) := by rw [h1, h]
set_option maxRecDepth 20000 in
set_option maxHeartbeats 4000000 in
theorem l09Ask_any (p : Nat) (s : ByteArray) (v vz vc : Value) (rs : List Rg) (zs : List Int) (cs : List Ct) (w : World) (hpl : p < w.heap.size) (hp : ProfIn w p s v) (h : RingsAt w v rs) (hs : s.size ≤ maxLen) (hz : IntsAt w vz zs) (hc : CutsAt w vc cs) :
    Calls Tryz.prog 75 #[.pointer (some ⟨p, 0, none⟩), vz, vc] w fun e w' => e = .returned (.int .i64 (apA s rs zs cs)) ∧ Below w.heap.size w w' := by
  have HZ := Lib.hid (l09Zones_any p s v vz rs zs w hpl hp h hs hz)
  have HLB := Lib.hid (show (profB s rs && fitB rs.length zs) = lathB s rs zs from rfl)
  rw [HLB.out] at HZ
  have HC := Lib.hid (fun W (hW : Below w.heap.size w W) => l09Cuts_any cs vc W (cuts_kept hW hc))
  obtain ⟨az, cz, rfl⟩ := ints_form hz
  rcases Bool.eq_false_or_eq_true (lathB s rs zs) with q1 | q1
  · have Q1 := Lib.hid q1
    rcases Bool.eq_false_or_eq_true (cutsB cs) with q2 | q2
    · have Q2 := Lib.hid q2
      obtain ⟨h64, hall⟩ := cutsB_iff.1 q2
      have HSU := Lib.hid (fun W (hW : Below w.heap.size w W) => l09Sums_any cs vc W (cuts_kept hW hc) q2)
      obtain ⟨A, b, off, cap, hv, hA, hci⟩ : ∃ A b off cap, vc = .slice A cs.length cap ∧ (0 < cs.length → A = some ⟨b, off, none⟩) ∧ ∀ W, Below w.heap.size w W → ∀ i, i < cs.length → CIn W b (off + i * 2) (cs.getD i zC) := by
        by_cases h0 : cs.length = 0
        · obtain ⟨a, c, rfl⟩ := cuts_form hc
          exact ⟨a, 0, 0, c, rfl, fun h => by omega, fun W _ i hi => by omega⟩
        · obtain ⟨b, off, cap, rfl, hb, hcc⟩ := cuts_cells hc (by omega)
          exact ⟨_, b, off, cap, rfl, fun _ => rfl, fun W hW i hi => cuts_keep hW hb (hcc i hi)⟩
      subst hv
      have HA := Lib.hid hA
      have HCI := Lib.hid hci
      have HE2 := Lib.hid (fun h3 => apA_2 (s := s) (rs := rs) q1 q2 h3)
      have HE5 := Lib.hid (fun h3 h4 => apA_5 (s := s) (rs := rs) (zs := zs) q1 q2 h3 h4)
      have HE0 := Lib.hid (fun h3 h4 => apA_0 (s := s) (rs := rs) (zs := zs) q1 q2 h3 h4)
      have HIT := Lib.hid (fun h => inZ_true (cs := cs) (nz := zs.length) h)
      have HIF := Lib.hid (fun i hi h => inZ_false (cs := cs) (nz := zs.length) (i := i) hi h)
      clear q1 q2 hA hci hp h hz hc hall HLB
      obtain ⟨n, hn⟩ : ∃ n, cs.length = n := ⟨_, rfl⟩
      rw [hn] at HC HSU HA HCI HIT HIF h64 ⊢
      clear hn
      generalize zs.length = nz at *
      go_enter Tryz.func75, Tryz.ntmps75
      go_wp2_with fail
      refine HZ.out.mono ?_
      rintro e w1 ⟨rfl, hb⟩
      rw [Q1.out]
      have HB1 := Lib.hid hb
      clear hb
      go_wp2_with fail
      refine (HC.out _ HB1.out).mono ?_
      rintro e w2 ⟨rfl, hb⟩
      rw [Q2.out]
      have HB2 := Lib.hid (below_of HB1.out hb HB1.out.size)
      clear hb
      go_wp2
      go_loop [7] (fun i => ∃ k : Nat, k ≤ n ∧ i = .int .i64 k ∧ ∀ j, j < k → (cs.getD j zC).1 < (nz : Int)) (fun i => n - (intOf i).toNat)
      case atStart => exact ⟨0, by omega, rfl, fun j hj => by omega⟩
      case round =>
        obtain ⟨k, hk, rfl, hA2⟩ := hrel
        have HAL := Lib.hid hA2
        clear hA2
        by_cases hlt : k < n
        · have hAe := HA.out (by omega)
          subst hAe
          have hr := (HCI.out w2 HB2.out k hlt).c0
          have hk0 : (0 : Int) ≤ (k : Int) := by omega
          have hlt1 : (k : Int) < (n : Int) := by omega
          by_cases hx : (cs.getD k zC).1 < (nz : Int)
          · have HT := Lib.hid (show ∀ j, j < k + 1 → (cs.getD j zC).1 < (nz : Int) from fun j hj => by
              by_cases e : j = k
              · subst e; exact hx
              · exact HAL.out j (by omega))
            generalize (cs.getD k zC).1 = x at *
            have hx2 : ¬ (nz : Int) ≤ x := by omega
            clear hx
            go_wp2
            go_round
            case rel => exact ⟨k + 1, by omega, by go_num, HT.out⟩
            case measure => simp [intOf]; omega
          · have HF := Lib.hid (HE2.out (HIF.out k hlt (by omega)))
            generalize (cs.getD k zC).1 = x at *
            have hx2 : (nz : Int) ≤ x := by omega
            clear hx
            go_wp2
            go_ret
            exact ⟨ret_i64 HF.out.symm, HB2.out⟩
        · obtain rfl : k = n := by omega
          have H3 := HIT.out HAL.out
          have HF0 := Lib.hid (HE0.out H3)
          have HF5 := Lib.hid (HE5.out H3)
          clear H3
          go_wp2_with fail
          refine (HSU.out _ HB2.out).mono ?_
          rintro e w3 ⟨vs, rfl, ho, hb⟩
          have HV := Lib.hid (own_ints (by rw [sumsL_len]; omega) ho)
          have HB3 := Lib.hid (below_of HB2.out hb HB2.out.size)
          clear ho hb
          go_wp2_with fail
          refine (l09Fits_any cs vs _ HV.out).mono ?_
          rintro e w4 ⟨rfl, rfl⟩
          rcases Bool.eq_false_or_eq_true (fitsC cs) with q4 | q4
          · have HF := Lib.hid (HF0.out q4)
            rw [q4]
            clear q4
            go_wp2
            go_ret
            exact ⟨ret_i64 HF.out.symm, HB3.out⟩
          · have HF := Lib.hid (HF5.out q4)
            rw [q4]
            clear q4
            go_wp2
            go_ret
            exact ⟨ret_i64 HF.out.symm, HB3.out⟩
    · have HF := Lib.hid (apA_1c q1 q2)
      have Q2 := Lib.hid q2
      obtain ⟨a, c, rfl⟩ := cuts_form hc
      clear q1 q2 hp h hz hc HLB
      generalize cs.length = n at *
      generalize zs.length = nz at *
      go_enter Tryz.func75, Tryz.ntmps75
      go_wp2_with fail
      refine HZ.out.mono ?_
      rintro e w1 ⟨rfl, hb⟩
      rw [Q1.out]
      have HB1 := Lib.hid hb
      clear hb
      go_wp2_with fail
      refine (HC.out _ HB1.out).mono ?_
      rintro e w2 ⟨rfl, hb⟩
      rw [Q2.out]
      have HB2 := Lib.hid (below_of HB1.out hb HB1.out.size)
      clear hb
      go_wp2
      go_ret
      exact ⟨ret_i64 HF.out.symm, HB2.out⟩
  · have HF := Lib.hid (apA_1 (cs := cs) q1)
    have Q1 := Lib.hid q1
    obtain ⟨a, c, rfl⟩ := cuts_form hc
    clear q1 hp h hz hc HC HLB
    generalize cs.length = n at *
    generalize zs.length = nz at *
    go_enter Tryz.func75, Tryz.ntmps75
    go_wp2_with fail
    refine HZ.out.mono ?_
    rintro e w1 ⟨rfl, hb⟩
    rw [Q1.out]
    have HB1 := Lib.hid hb
    clear hb
    go_wp2
    go_ret
    exact ⟨ret_i64 HF.out.symm, HB1.out⟩
set_option maxRecDepth 20000 in
set_option maxHeartbeats 4000000 in
theorem l09Apply_any (p : Nat) (s : ByteArray) (v vz vc : Value) (rs : List Rg) (zs : List Int) (cs : List Ct) (w : World) (hpl : p < w.heap.size) (hp : ProfIn w p s v) (h : RingsAt w v rs) (hs : s.size ≤ maxLen) (hz : IntsAt w vz zs) (hc : CutsAt w vc cs) :
    Calls Tryz.prog 47 #[.pointer (some ⟨p, 0, none⟩), vz, vc] w (ProfU (resS s (apC s rs zs cs)) (resL (cutT rs zs cs) (apC s rs zs cs)) (apC s rs zs cs) w) := by
  have hba := below_al w (.cells #[.string ⟨#[]⟩, .slice none 0 0] 42)
  have hl := alloc_lt2 w (.cells #[.string ⟨#[]⟩, .slice none 0 0] 42)
  have HBL := Lib.hid (blankP_alloc w 42)
  have HK := Lib.hid (l09Ask_any p s v vz vc rs zs cs _ (Nat.lt_trans hpl hl) (prof_keep hba hpl hp) (rings_kept hba h) hs (ints_kept hba hz) (cuts_kept hba hc))
  have HBA := Lib.hid hba
  by_cases h0 : apA s rs zs cs = 0
  · obtain ⟨q1, q2, q3, q4⟩ := apA_ok h0
    obtain ⟨hprof, hfit⟩ := lath_iff.1 q1
    have HSU := Lib.hid (fun W (hW : Below w.heap.size w W) => l09Sums_any cs vc W (cuts_kept hW hc) q2)
    have hff := (fit_facts hfit).1
    have hall := (cutsB_iff.1 q2).2
    have HTU := Lib.hid (fun vL W (hW : Below w.heap.size w W) (hL : IntsAt W vL (sumsL cs)) => l09Turned_any p s v vz vL rs zs (sumsL cs) W (Nat.lt_of_lt_of_le hpl hW.size) (prof_keep hW hpl hp) (rings_kept hW h) (ints_kept hW hz) hL (prof_iff.1 hprof).2.1 (fun i hi => prof_ring hprof i hi) (by omega) (by rw [sumsL_len]; omega) (fun j hj => by
      rw [sumsL_len] at hj
      rw [sumsL_get cs j hj]
      have := fitsC_iff.1 q4 j hj
      have := sumAt_nonneg (j : Int) hall
      omega))
    have HCT := Lib.hid (show turnL (stepF zs (sumsL cs)) rs rs.length = cutT rs zs cs from rfl)
    rw [HCT.out] at HTU
    have HCL := Lib.hid (show (cutT rs zs cs).length ≤ 1048576 by rw [cutT_len]; have := (prof_iff.1 hprof).2.1; omega)
    have HAC := Lib.hid (apC_ok h0)
    have H0 := Lib.hid h0
    obtain ⟨az, cz, rfl⟩ := ints_form hz
    obtain ⟨a, c, rfl⟩ := cuts_form hc
    clear h0 q1 q2 q3 q4 hprof hfit hff hall hp h hz hc hba HCT
    generalize cs.length = n at *
    generalize zs.length = nz at *
    generalize cutT rs zs cs = l at *
    go_enter Tryz.func47, Tryz.ntmps47
    go_wp2_with fail
    generalize (w.alloc (.cells #[.string ⟨#[]⟩, .slice none 0 0] 42)) = wA at *
    refine HK.out.mono ?_
    rintro e w1 ⟨rfl, hb⟩
    rw [H0.out]
    have HBL1 := Lib.hid (blankP_kept hb hl HBL.out)
    have HB1 := Lib.hid (below_of HBA.out hb HBA.out.size)
    have hl1 := Nat.lt_of_lt_of_le hl hb.size
    clear hb
    go_wp2_with fail
    refine (HSU.out _ HB1.out).mono ?_
    rintro e w2 ⟨vs, rfl, ho, hb⟩
    have HV := Lib.hid (own_ints (by rw [sumsL_len]; omega) ho)
    have HBL2 := Lib.hid (blankP_kept hb hl1 HBL1.out)
    have HB2 := Lib.hid (below_of HB1.out hb HB1.out.size)
    have hl2 := Nat.lt_of_lt_of_le hl1 hb.size
    clear ho hb
    go_wp2_with fail
    refine (HTU.out vs _ HB2.out HV.out).mono ?_
    rintro e w3 ⟨⟨vt, rfl, hrv⟩, hb⟩
    have HRV := Lib.hid hrv
    have HBL3 := Lib.hid (blankP_kept hb hl2 HBL2.out)
    have HB3 := Lib.hid (below_of HB2.out hb HB2.out.size)
    have hl3 := Nat.lt_of_lt_of_le hl2 hb.size
    clear hrv hb
    go_wp2_with fail
    refine (l07Done_any s vt l _ (rv_rings HCL.out HRV.out) hs).mono ?_
    rintro e w4 ⟨rfl, hb⟩
    have HRV4 := Lib.hid (res_rv (s := s) (rv_kept hb HRV.out))
    have HB4 := Lib.hid (below_of HB3.out hb HB3.out.size)
    obtain ⟨⟨b0, b1⟩, f0, f1⟩ := blankP_kept hb hl3 HBL3.out
    have hrin := rv_in HRV4.out
    have HSL := Lib.hid (show w.heap.size < w2.heap.size from hl2)
    clear hb
    rw [HAC.out]
    generalize (if profB s l = true then vt else Value.slice none 0 0) = vf at *
    obtain ⟨af, cf, rfl⟩ := rv_form HRV4.out
    generalize resC s l = cc at *
    obtain ⟨ss, hss⟩ : ∃ ss, resS s cc = ss := ⟨_, rfl⟩
    obtain ⟨rl, hrl⟩ : ∃ rl, resL l cc = rl := ⟨_, rfl⟩
    rw [hss]
    rw [hrl] at HRV4 hrin ⊢
    have HSS := Lib.hid hss
    have HRLd := Lib.hid hrl
    clear hss hrl
    go_wp2
    try simp only [Exit.inBlock, Exit.then]
    refine bodyPost_ret_by (v := .tuple #[.agg #[.string ss, .slice af rl.length cf], .int .i64 cc]) (by rw [results_cellP rfl]; go_simp) rfl ?_
    refine ⟨_, ret_ap (by rw [HAC.out, HSS.out]) HAC.out.symm, ?_, (HB4.out.setCell (by show _ ≤ w.heap.size; omega) _).setCell (by show _ ≤ w.heap.size; omega) _⟩
    rw [HAC.out, HRLd.out]
    exact rv_grown (gb_set _ _ (gb_set _ _ (gb_refl _ (some w.heap.size)))) (rv_base HRV4.out (Nat.le_of_lt HSL.out)) (apart_of hrin (fun k hk => by cases hk; exact ⟨Nat.le_refl _, Nat.lt_succ_self _⟩) (by have := HSL.out; omega))
  · have HAC := Lib.hid (apC_no h0)
    obtain ⟨r1, r2⟩ := resSL_no (s := s) (l := cutT rs zs cs) h0
    have HR1 := Lib.hid r1
    have HR2 := Lib.hid r2
    have hne : (apA s rs zs cs == 0) = false := beq_eq_false_iff_ne.2 h0
    have hne2 : (apA s rs zs cs != 0) = true := by simpa using h0
    obtain ⟨az, cz, rfl⟩ := ints_form hz
    obtain ⟨a, c, rfl⟩ := cuts_form hc
    rw [HAC.out]
    clear h0 r1 r2 hp h hz hc hba
    generalize cs.length = n at *
    generalize zs.length = nz at *
    generalize apA s rs zs cs = q at *
    go_enter Tryz.func47, Tryz.ntmps47
    go_wp2_with fail
    generalize (w.alloc (.cells #[.string ⟨#[]⟩, .slice none 0 0] 42)) = wA at *
    refine HK.out.mono ?_
    rintro e w1 ⟨rfl, hb⟩
    obtain ⟨⟨b0, b1⟩, f0, f1⟩ := blankP_kept hb hl HBL.out
    have HB1 := Lib.hid (below_of HBA.out hb HBA.out.size)
    clear hb
    go_wp2
    try simp only [Exit.inBlock, Exit.then]
    refine bodyPost_ret_by (v := .tuple #[.agg #[.string ⟨#[]⟩, .slice none 0 0], .int .i64 q]) (by rw [results_cellP rfl]; go_simp) rfl ?_
    exact ⟨.slice none 0 0, ret_ap HR1.out.symm rfl, by rw [HR2.out]; exact .inl ⟨rfl, rfl⟩, (HB1.out.setCell (by show _ ≤ w.heap.size; omega) _).setCell (by show _ ≤ w.heap.size; omega) _⟩
end Go.Proofs.YtpjopfhkgegahaaGreat
