/- A profile after cuts: the program's. -/
import Derived.Test.YtpjopfhkgegahaaGreatCutI
import Derived.Test.YtpjopfhkgegahaaGreatG3
import Derived.Test.YtpjopfhkgegahaaGreatApSpec
set_option linter.unusedVariables false
namespace Go.Proofs.YtpjopfhkgegahaaGreat
open Go.ChangeShapes Go.WideShapes Go.ChangeAt Go.RowKit Go.Maps

set_option maxHeartbeats 1000000 in
theorem has_any (x : Int) (a : Option Addr) (n c : Nat) (w : World) (hn : n ≤ 1048576) :
    Calls Tryz.prog 91 #[.slice a n c, .int .i64 x] w fun e w' => e = .returned (.bool (inB x 0 ((n : Int) - 1))) ∧ Below w.heap.size w w' := by
  have HR := Lib.hid (show allIn 0 ((n : Int) - 1) [x] = inB x 0 ((n : Int) - 1) by simp [allIn])
  go_enter Tryz.func91, Tryz.ntmps91
  go_wp2_with fail
  refine (within_i64 _ _ [x] _ 0 1 1 _ rfl (by omega) (cell_int _ _ _ _ (by simp))).mono ?_
  rintro e w2 ⟨rfl, rfl⟩
  rw [HR.out]
  obtain ⟨r, hr⟩ : ∃ r, inB x 0 ((n : Int) - 1) = r := ⟨_, rfl⟩
  rw [hr]
  have HRR := Lib.hid hr
  clear hr
  go_wp2
  go_ret
  exact ⟨ret_bool HRR.out.symm, below_al _ _⟩
theorem notHas_any (x y : Int) (bz : Nat) (a : Option Addr) (n c : Nat) (w : World) (hn : n ≤ 1048576) (hb : bz < w.heap.size) (hz : w.cell? ⟨bz, 2, none⟩ = some (.slice a n c)) :
    Calls Tryz.prog 90 #[.agg #[.int .i64 x, .int .i64 y], .pointer (some ⟨bz, 0, none⟩)] w fun e w' => e = .returned (.bool (!inB x 0 ((n : Int) - 1))) ∧ Below w.heap.size w w' := by
  have hz2 := (below_cell (below_al w (.cells #[.int .i64 x, .int .i64 y] 69)) _ _ hb).trans hz
  have HC := Lib.hid (has_any x a n c (w.alloc (.cells #[.int .i64 x, .int .i64 y] 69)) hn)
  clear hz
  generalize inB x 0 ((n : Int) - 1) = r at *
  go_enter Tryz.func90, Tryz.ntmps90
  go_wp2_with fail
  refine HC.out.mono ?_
  rintro e w1 ⟨rfl, hb1⟩
  have HB := Lib.hid (below_of (below_al _ _) hb1 (by simp))
  clear hb1
  go_wp2
  go_ret
  exact ⟨rfl, HB.out⟩

set_option maxRecDepth 20000 in
set_option maxHeartbeats 2000000 in
theorem indexF_ap (p : Ct → Bool) (cs : List Ct) (b off cap n : Nat) (bz : Nat) (w : World) (hn : Hid (cs.length = n)) (hn1 : n ≤ 1048576) (hb : b < w.heap.size) (hc : ∀ i, i < n → CIn w b (off + i * 2) (cs.getD i zC))
    (hp : ∀ (x y : Int) (W : World), Below w.heap.size w W → Calls Tryz.prog 90 #[.agg #[.int .i64 x, .int .i64 y], .pointer (some ⟨bz, 0, none⟩)] W fun e W' => e = .returned (.bool (p (x, y))) ∧ Below W.heap.size W W') :
    Calls Tryz.prog 108 #[.slice (some ⟨b, off, none⟩) n cap, .func (.func 90) #[] #[.pointer (some ⟨bz, 0, none⟩)]] w (IdxPost (cs.any p) w) := by
  have HC := Lib.hid (fun W (hW : Below w.heap.size w W) i (hi : i < n) => cuts_keep hW hb (hc i hi))
  have HP := Lib.hid hp
  clear hc hp
  go_enter Tryz.func108, Tryz.ntmps108
  go_wp2
  go_loopw [8] (fun i wr => ∃ k : Nat, k ≤ n ∧ i = .int .i64 k ∧ Hid (∀ j, j < k → p (cs.getD j zC) = false) ∧ Below w.heap.size w wr) (fun i _ => n - (intOf i).toNat)
  case atStart => exact ⟨0, by omega, rfl, Lib.hid (fun j hj => by omega), Below.refl _ _⟩
  case round =>
    obtain ⟨k, hk, rfl, HA, hbw⟩ := hrel
    have HB := Lib.hid hbw
    by_cases hlt : k < n
    · obtain ⟨⟨x, y⟩, hxy⟩ : ∃ r, cs.getD k zC = r := ⟨_, rfl⟩
      have hr := HC.out wr hbw k hlt
      rw [hxy] at hr
      have d0 : wr.cell? ⟨b, off + k * 2, none⟩ = some (.int .i64 x) := hr.c0
      have d1 : wr.cell? ⟨b, off + k * 2 + 1, none⟩ = some (.int .i64 y) := hr.c1
      have HXY := Lib.hid hxy
      have hlt1 : (k : Int) < (n : Int) := by omega
      have hk0 : (0 : Int) ≤ (k : Int) := by omega
      clear hr hxy hbw
      have HPX := Lib.hid (HP.out x y)
      rcases Bool.eq_false_or_eq_true (p (x, y)) with h1 | h1
      · have HT := Lib.hid (show cs.any p = true by
          rw [List.any_eq_true]
          have hkl : k < cs.length := by rw [hn.out]; exact hlt
          refine ⟨cs.getD k zC, by rw [List.getD_eq_getElem?_getD, List.getElem?_eq_getElem hkl]; exact List.getElem_mem hkl, by rw [HXY.out, h1]⟩)
        rw [h1] at HPX
        clear h1
        go_wp2_with fail
        refine (HPX.out _ HB.out).mono ?_
        rintro e w2 ⟨rfl, hb2⟩
        have HB2 := Lib.hid (below_of HB.out hb2 HB.out.size)
        clear hb2
        go_wp2
        go_ret
        exact ⟨_, rfl, ⟨fun _ => by omega, (fun h => by rw [HT.out] at h; cases h)⟩, HB2.out⟩
      · have HT := Lib.hid (show ∀ j, j < k + 1 → p (cs.getD j zC) = false from fun j hj => by
          by_cases e : j = k
          · subst e; rw [HXY.out, h1]
          · exact HA.out j (by omega))
        rw [h1] at HPX
        clear h1
        go_wp2_with fail
        refine (HPX.out _ HB.out).mono ?_
        rintro e w2 ⟨rfl, hb2⟩
        have HB2 := Lib.hid (below_of HB.out hb2 HB.out.size)
        clear hb2
        go_wp2
        go_roundw
        case rel => exact ⟨k + 1, by omega, by go_num, HT, HB2.out⟩
        case measure => simp [intOf]; omega
    · obtain rfl : k = n := by omega
      have HT := Lib.hid (show cs.any p = false by
        rw [List.any_eq_false]
        intro q hq
        obtain ⟨i, hi, rfl⟩ := List.mem_iff_getElem.1 hq
        have := HA.out i (by rw [hn.out] at hi; exact hi)
        rw [List.getD_eq_getElem?_getD, List.getElem?_eq_getElem hi] at this
        simp only [Option.getD_some] at this
        rw [this]; simp)
      clear hbw
      go_wp2
      go_ret
      exact ⟨_, rfl, ⟨(fun h => by rw [HT.out] at h; cases h), fun _ => rfl⟩, HB.out⟩
theorem indexF0_ap (a : Option Addr) (c : Nat) (bz : Nat) (w : World) :
    Calls Tryz.prog 108 #[.slice a 0 c, .func (.func 90) #[] #[.pointer (some ⟨bz, 0, none⟩)]] w fun e w' => e = .returned (.int .i64 (-1)) ∧ w = w' := by
  go_enter Tryz.func108, Tryz.ntmps108
  go_wp2
  refine wp_loop_rounds 1 ?_
  rw [rounds_succ]
  go_wp2
  go_ret
  exact ⟨rfl, rfl⟩
set_option maxHeartbeats 1000000 in
theorem containsF_ap (p : Ct → Bool) (cs : List Ct) (v : Value) (bz : Nat) (w : World) (h : CutsAt w v cs)
    (hp : ∀ (x y : Int) (W : World), Below w.heap.size w W → Calls Tryz.prog 90 #[.agg #[.int .i64 x, .int .i64 y], .pointer (some ⟨bz, 0, none⟩)] W fun e W' => e = .returned (.bool (p (x, y))) ∧ Below W.heap.size W W') :
    Calls Tryz.prog 84 #[v, .func (.func 90) #[] #[.pointer (some ⟨bz, 0, none⟩)]] w fun e w' => e = .returned (.bool (cs.any p)) ∧ Below w.heap.size w w' := by
  by_cases h0 : cs.length = 0
  · obtain rfl : cs = [] := List.length_eq_zero_iff.1 h0
    obtain ⟨a, c, rfl⟩ := cuts_form h
    clear h hp h0
    go_enter Tryz.func84, Tryz.ntmps84
    go_wp2_with fail
    refine (indexF0_ap a c bz _).mono ?_
    rintro e w1 ⟨rfl, rfl⟩
    go_wp2
    go_ret
    exact ⟨rfl, Below.refl _ _⟩
  · have hl := h.1
    obtain ⟨b, off, cap, rfl, hb, hc⟩ := cuts_cells h (by omega)
    have HI := Lib.hid (indexF_ap p cs b off cap _ bz w (Lib.hid rfl) hl hb hc hp)
    clear h hp h0 hc hl
    generalize cs.length = n at *
    go_enter Tryz.func84, Tryz.ntmps84
    go_wp2_with fail
    refine HI.out.mono ?_
    rintro e w1 ⟨i, rfl, ⟨h1, h2⟩, hb1⟩
    have HB := Lib.hid hb1
    rcases Bool.eq_false_or_eq_true (cs.any p) with h3 | h3
    · have hi := h1 h3
      have H3 := Lib.hid h3
      clear h1 h2 h3 hb1
      go_wp2
      go_ret
      exact ⟨ret_bool H3.out.symm, HB.out⟩
    · have hi := h2 h3
      have H3 := Lib.hid h3
      subst hi
      clear h1 h2 h3 hb1
      go_wp2
      go_ret
      exact ⟨ret_bool H3.out.symm, HB.out⟩

theorem any_notHas {cs : List Ct} {nz : Nat} (h : allC cs = true) : cs.any (fun c => !inB c.1 0 ((nz : Int) - 1)) = !inZ cs nz := by
  unfold allC inZ at *
  induction cs with
  | nil => rfl
  | cons c cs ih =>
    rw [List.all_cons, Bool.and_eq_true] at h
    have h1 := (cut_iff.1 h.1).1
    have e : inB c.1 0 ((nz : Int) - 1) = decide (c.1 < (nz : Int)) := by
      by_cases hc : c.1 < (nz : Int)
      · rw [inB_true (by omega), decide_eq_true hc]
      · rw [inB_false (by omega), decide_eq_false hc]
    rw [List.any_cons, List.all_cons, ih h.2, e, Bool.not_and]
theorem mapStep_eq {cs : List Ct} {zs : List Int} (h : 0 < zs.length ∧ zs.length ≤ 8) (rs : List Rg) : turnL (mapStep (fun z => sumAt z cs) zs) rs rs.length = cutT rs zs cs := by
  unfold cutT
  congr 1
  funext i
  have := zoneN_lt zs (i : Int) zs.length h.1
  unfold mapStep stepF
  rw [sumsL_get cs _ (by omega)]
theorem apBlank (s : ByteArray) (rs : List Rg) (zs : List Int) (cs : List Ct) (c : Int) (h : apA s rs zs cs = c) (h0 : c ≠ 0) : apC s rs zs cs = c ∧ resS s (apC s rs zs cs) = ⟨#[]⟩ ∧ resL (cutT rs zs cs) (apC s rs zs cs) = [] := by
  have e : apC s rs zs cs = c := by rw [apC_no (by rw [h]; exact h0), h]
  rw [e]
  exact ⟨rfl, resSL_no h0⟩
set_option maxRecDepth 20000 in
set_option maxHeartbeats 4000000 in
theorem implAC_any (s : ByteArray) (v vz vc : Value) (rs : List Rg) (zs : List Int) (cs : List Ct) (w : World) (h : RingsAt w v rs) (hs : s.size ≤ maxLen) (hz : IntsAt w vz zs) (hc : CutsAt w vc cs) :
    Calls Tryz.prog 55 #[.agg #[.string s, v], vz, vc] w (ProfU (resS s (apC s rs zs cs)) (resL (cutT rs zs cs) (apC s rs zs cs)) (apC s rs zs cs) w) := by
  have hba := (below_al w (.cells #[.string s, v] 42)).alloc (by simp) (.cells #[.string ⟨#[]⟩, .slice none 0 0] 42)
  have hbl := blankP_alloc (w.alloc (.cells #[.string s, v] 42)) 42
  rw [World.size_alloc] at hbl
  have hl : w.heap.size + 1 < ((w.alloc (.cells #[.string s, v] 42)).alloc (.cells #[.string ⟨#[]⟩, .slice none 0 0] 42)).heap.size := by simp
  have HON := Lib.hid (onLathe_any s v vz rs zs _ (rings_kept hba h) hs (ints_kept hba hz))
  have HVC := Lib.hid (fun W (hW : Below w.heap.size w W) => implVC_any cs vc W (cuts_kept hW hc))
  have HBL := Lib.hid hbl
  have HBA := Lib.hid hba
  obtain ⟨av, cv, hvf⟩ := rings_form h
  obtain ⟨az, cz, hzf⟩ := ints_form hz
  obtain ⟨ac, cc, hcf⟩ := cuts_form hc
  rcases Bool.eq_false_or_eq_true (lathB s rs zs) with q1 | q1
  · have Q1 := Lib.hid q1
    have HV := Lib.hid (zb_yes (v := v) (vz := vz) q1)
    rw [HV.out, q1] at HON
    rcases Bool.eq_false_or_eq_true (cutsB cs) with q2 | q2
    · have Q2 := Lib.hid q2
      obtain ⟨h64, hall⟩ := cutsB_iff.1 q2
      obtain ⟨hprof, hfit⟩ := lath_iff.1 q1
      have hff := (fit_facts hfit).1
      have HCF := Lib.hid (fun (bz : Nat) W (hW : Below w.heap.size w W) (hb : bz < W.heap.size) (hz2 : W.cell? ⟨bz, 2, none⟩ = some vz) => containsF_ap (fun c => !inB c.1 0 ((zs.length : Int) - 1)) cs vc bz W (cuts_kept hW hc) (fun x y W2 hW2 => notHas_any x y bz az zs.length cz W2 (by omega) (Nat.lt_of_lt_of_le hb hW2.size) (by rw [← hzf]; exact (below_cell hW2 _ _ hb).trans hz2)))
      have HAN := Lib.hid (any_notHas (nz := zs.length) hall)
      rw [HAN.out] at HCF
      have HST := Lib.hid (fun W (hW : Below w.heap.size w W) => stepsOf_any cs vc W (cuts_kept hW hc) q2)
      have HE2 := Lib.hid (fun h3 => apBlank s rs zs cs 2 (apA_2 q1 q2 h3) (by omega))
      have HE5 := Lib.hid (fun h3 h4 => apBlank s rs zs cs 5 (apA_5 q1 q2 h3 h4) (by omega))
      have HE0 := Lib.hid (fun h3 h4 => apC_ok (apA_0 q1 q2 h3 h4))
      have HCU := Lib.hid (fun (bm m : Nat) W (hW : Below w.heap.size w W) (hM : MapF W bm m (fun z => sumAt z cs)) (hF : fitsC cs = true) => cutI_any s v vz bm m (fun z => sumAt z cs) rs zs W (rings_kept hW h) hs (ints_kept hW hz) hM q1 (fun z hz => ⟨sumAt_nonneg _ hall, by have := fitsC_iff.1 hF z (by omega); omega⟩))
      have HME := Lib.hid (mapStep_eq (cs := cs) hff rs)
      rw [HME.out] at HCU
      clear q1 q2 h hz hc hall hprof hfit hff h64 hba hbl HAN HME HV
      subst hvf hzf hcf
      generalize rs.length = n at *
      generalize zs.length = nz at *
      generalize cs.length = nc at *
      go_enter Tryz.func55, Tryz.ntmps55
      go_wp2_with fail
      generalize ((w.alloc (.cells #[.string s, .slice av n cv] 42)).alloc (.cells #[.string ⟨#[]⟩, .slice none 0 0] 42)) = wA at *
      refine HON.out.mono ?_
      rintro e w1 ⟨rfl, hb⟩
      have HBL1 := Lib.hid (blankP_kept hb hl HBL.out)
      have HB1 := Lib.hid (below_of HBA.out hb HBA.out.size)
      have hl1 := Nat.lt_of_lt_of_le hl hb.size
      have hbx := below_al w1 (.cells #[.string s, .slice av n cv, .slice az nz cz] 93)
      have x0 : (w1.alloc (.cells #[.string s, .slice av n cv, .slice az nz cz] 93)).cell? ⟨w1.heap.size, 0, none⟩ = some (.string s) := by go_simp
      have x1 : (w1.alloc (.cells #[.string s, .slice av n cv, .slice az nz cz] 93)).cell? ⟨w1.heap.size, 1, none⟩ = some (.slice av n cv) := by go_simp
      have x2 : (w1.alloc (.cells #[.string s, .slice av n cv, .slice az nz cz] 93)).cell? ⟨w1.heap.size, 2, none⟩ = some (.slice az nz cz) := by go_simp
      have HBLx := Lib.hid (blankP_kept hbx hl1 HBL1.out)
      have HBX := Lib.hid (below_of HB1.out hbx HB1.out.size)
      have hlx := alloc_lt2 w1 (.cells #[.string s, .slice av n cv, .slice az nz cz] 93)
      have hl2 := Nat.lt_of_lt_of_le hl1 hbx.size
      clear hb hbx
      go_wp2_with fail
      generalize (w1.alloc (.cells #[.string s, .slice av n cv, .slice az nz cz] 93)) = wx at *
      refine (HVC.out _ HBX.out).mono ?_
      rintro e w2 ⟨rfl, hb⟩
      rw [Q2.out]
      have y0 := (below_cell hb _ _ hlx).trans x0
      have y1 := (below_cell hb _ _ hlx).trans x1
      have y2 := (below_cell hb _ _ hlx).trans x2
      have HBL2 := Lib.hid (blankP_kept hb hl2 HBLx.out)
      have HB2 := Lib.hid (below_of HBX.out hb HBX.out.size)
      have hl3 := Nat.lt_of_lt_of_le hl2 hb.size
      have hl4 := Nat.lt_of_lt_of_le hlx hb.size
      clear hb x0 x1 x2
      go_wp2_with fail
      refine (HCF.out w1.heap.size _ HB2.out hl4 y2).mono ?_
      rintro e w3 ⟨rfl, hb⟩
      have z0 := (below_cell hb _ _ hl4).trans y0
      have z1 := (below_cell hb _ _ hl4).trans y1
      have z2 := (below_cell hb _ _ hl4).trans y2
      have HBL3 := Lib.hid (blankP_kept hb hl3 HBL2.out)
      have HB3 := Lib.hid (below_of HB2.out hb HB2.out.size)
      have hl5 := Nat.lt_of_lt_of_le hl3 hb.size
      have hl6 := Nat.lt_of_lt_of_le hl4 hb.size
      clear hb y0 y1 y2
      rcases Bool.eq_false_or_eq_true (inZ cs nz) with q3 | q3
      · have HE5 := Lib.hid (HE5.out q3)
        have HE0 := Lib.hid (HE0.out q3)
        rw [q3]
        clear q3
        go_wp2_with fail
        refine (HST.out _ HB3.out).mono ?_
        rintro e w4 ⟨⟨q4, bm, rfl, hM, hbl⟩ | ⟨q4, rfl⟩, hb⟩
        · have HM := Lib.hid hM
          have Q4 := Lib.hid q4
          have HAC := Lib.hid (HE0.out q4)
          have u0 := (below_cell hb _ _ hl6).trans z0
          have u1 := (below_cell hb _ _ hl6).trans z1
          have u2 := (below_cell hb _ _ hl6).trans z2
          have HBL4 := Lib.hid (blankP_kept hb hl5 HBL3.out)
          have HB4 := Lib.hid (below_of HB3.out hb HB3.out.size)
          have hl7 := Nat.lt_of_lt_of_le hl5 hb.size
          clear hb z0 z1 z2 hM q4
          go_wp2_with fail
          refine (HCU.out bm 64 _ HB4.out HM.out Q4.out).mono ?_
          rintro e w5 ⟨vr, rfl, hrv, hb⟩
          rw [HAC.out]
          obtain ⟨af, cf, rfl⟩ := rv_form hrv
          have HRV := Lib.hid hrv
          have hrin := rv_in hrv
          obtain ⟨⟨b0, b1⟩, f0, f1⟩ := blankP_kept hb hl7 HBL4.out
          have HB5 := Lib.hid (below_of HB4.out hb HB4.out.size)
          clear hrv hb u0 u1 u2
          obtain ⟨c5, hc5⟩ : ∃ c5, resC s (cutT rs zs cs) = c5 := ⟨_, rfl⟩
          obtain ⟨s5, hs5⟩ : ∃ s5, resS s c5 = s5 := ⟨_, rfl⟩
          obtain ⟨l5, hl5'⟩ : ∃ l5, resL (cutT rs zs cs) c5 = l5 := ⟨_, rfl⟩
          rw [hc5] at HRV hrin HAC ⊢
          rw [hs5]
          rw [hl5'] at HRV hrin ⊢
          have HS5 := Lib.hid hs5
          have HL5 := Lib.hid hl5'
          clear hc5 hs5 hl5'
          go_wp2
          try simp only [Exit.inBlock, Exit.then]
          refine bodyPost_ret_by (v := .tuple #[.agg #[.string s5, .slice af l5.length cf], .int .i64 c5]) (by rw [results_cellP rfl]; go_simp) rfl ?_
          refine ⟨_, ret_ap (by rw [HAC.out, HS5.out]) HAC.out.symm, ?_, (HB5.out.setCell (by show _ ≤ w.heap.size + 1; omega) _).setCell (by show _ ≤ w.heap.size + 1; omega) _⟩
          rw [HAC.out, HL5.out]
          exact rv_grown (gb_set _ _ (gb_set _ _ (gb_refl _ (some (w.heap.size + 1))))) (rv_base HRV.out HB4.out.size) (apart_of hrin (fun k hk => by cases hk; exact ⟨Nat.le_refl _, Nat.lt_succ_self _⟩) (by omega))
        · have HF := Lib.hid (HE5.out q4)
          obtain ⟨⟨b0, b1⟩, f0, f1⟩ := blankP_kept hb hl5 HBL3.out
          have HB4 := Lib.hid (below_of HB3.out hb HB3.out.size)
          clear hb z0 z1 z2 q4
          go_wp2
          try simp only [Exit.inBlock, Exit.then]
          refine bodyPost_ret_by (v := .tuple #[.agg #[.string ⟨#[]⟩, .slice none 0 0], .int .i64 5]) (by rw [results_cellP rfl]; go_simp) rfl ?_
          exact ⟨.slice none 0 0, ret_ap HF.out.2.1.symm HF.out.1.symm, by rw [HF.out.2.2]; exact .inl ⟨rfl, rfl⟩, (HB4.out.setCell (by show _ ≤ w.heap.size + 1; omega) _).setCell (by show _ ≤ w.heap.size + 1; omega) _⟩
      · have HF := Lib.hid (HE2.out q3)
        rw [q3]
        obtain ⟨⟨b0, b1⟩, f0, f1⟩ := HBL3.out
        clear q3 z0 z1 z2
        go_wp2
        try simp only [Exit.inBlock, Exit.then]
        refine bodyPost_ret_by (v := .tuple #[.agg #[.string ⟨#[]⟩, .slice none 0 0], .int .i64 2]) (by rw [results_cellP rfl]; go_simp) rfl ?_
        exact ⟨.slice none 0 0, ret_ap HF.out.2.1.symm HF.out.1.symm, by rw [HF.out.2.2]; exact .inl ⟨rfl, rfl⟩, (HB3.out.setCell (by show _ ≤ w.heap.size + 1; omega) _).setCell (by show _ ≤ w.heap.size + 1; omega) _⟩
    · have HF := Lib.hid (apBlank s rs zs cs 1 (apA_1c q1 q2) (by omega))
      have Q2 := Lib.hid q2
      clear q1 q2 h hz hc hba hbl HV
      subst hvf hzf hcf
      generalize rs.length = n at *
      generalize zs.length = nz at *
      generalize cs.length = nc at *
      go_enter Tryz.func55, Tryz.ntmps55
      go_wp2_with fail
      generalize ((w.alloc (.cells #[.string s, .slice av n cv] 42)).alloc (.cells #[.string ⟨#[]⟩, .slice none 0 0] 42)) = wA at *
      refine HON.out.mono ?_
      rintro e w1 ⟨rfl, hb⟩
      have HBL1 := Lib.hid (blankP_kept hb hl HBL.out)
      have HB1 := Lib.hid (below_of HBA.out hb HBA.out.size)
      have hl1 := Nat.lt_of_lt_of_le hl hb.size
      have hbx := below_al w1 (.cells #[.string s, .slice av n cv, .slice az nz cz] 93)
      have HBLx := Lib.hid (blankP_kept hbx hl1 HBL1.out)
      have HBX := Lib.hid (below_of HB1.out hbx HB1.out.size)
      have hl2 := Nat.lt_of_lt_of_le hl1 hbx.size
      clear hb hbx
      go_wp2_with fail
      generalize (w1.alloc (.cells #[.string s, .slice av n cv, .slice az nz cz] 93)) = wx at *
      refine (HVC.out _ HBX.out).mono ?_
      rintro e w2 ⟨rfl, hb⟩
      rw [Q2.out]
      obtain ⟨⟨b0, b1⟩, f0, f1⟩ := blankP_kept hb hl2 HBLx.out
      have HB2 := Lib.hid (below_of HBX.out hb HBX.out.size)
      clear hb
      go_wp2
      try simp only [Exit.inBlock, Exit.then]
      refine bodyPost_ret_by (v := .tuple #[.agg #[.string ⟨#[]⟩, .slice none 0 0], .int .i64 1]) (by rw [results_cellP rfl]; go_simp) rfl ?_
      exact ⟨.slice none 0 0, ret_ap HF.out.2.1.symm HF.out.1.symm, by rw [HF.out.2.2]; exact .inl ⟨rfl, rfl⟩, (HB2.out.setCell (by show _ ≤ w.heap.size + 1; omega) _).setCell (by show _ ≤ w.heap.size + 1; omega) _⟩
  · have HF := Lib.hid (apBlank s rs zs cs 1 (apA_1 q1) (by omega))
    have HV := Lib.hid (zb_not (v := v) (vz := vz) q1)
    rw [HV.out, q1] at HON
    clear q1 h hz hc hba hbl HV HVC
    subst hvf hzf hcf
    generalize rs.length = n at *
    generalize zs.length = nz at *
    generalize cs.length = nc at *
    go_enter Tryz.func55, Tryz.ntmps55
    go_wp2_with fail
    generalize ((w.alloc (.cells #[.string s, .slice av n cv] 42)).alloc (.cells #[.string ⟨#[]⟩, .slice none 0 0] 42)) = wA at *
    refine HON.out.mono ?_
    rintro e w1 ⟨rfl, hb⟩
    obtain ⟨⟨b0, b1⟩, f0, f1⟩ := blankP_kept hb hl HBL.out
    have HB1 := Lib.hid (below_of HBA.out hb HBA.out.size)
    have hl1 := Nat.lt_of_lt_of_le hl hb.size
    clear hb
    go_wp2
    try simp only [Exit.inBlock, Exit.then]
    refine bodyPost_ret_by (v := .tuple #[.agg #[.string ⟨#[]⟩, .slice none 0 0], .int .i64 1]) (by rw [results_cellP rfl]; go_simp) rfl ?_
    refine ⟨.slice none 0 0, ret_ap HF.out.2.1.symm HF.out.1.symm, by rw [HF.out.2.2]; exact .inl ⟨rfl, rfl⟩, ?_⟩
    first
      | exact (((HB1.out.setCell (by show _ ≤ w.heap.size + 1; omega) _).setCell (by show _ ≤ w.heap.size + 1; omega) _).alloc (by simpa using HB1.out.size) _)
      | exact (((HB1.out.alloc HB1.out.size _).setCell (by show _ ≤ w.heap.size + 1; omega) _).setCell (by show _ ≤ w.heap.size + 1; omega) _)
end Go.Proofs.YtpjopfhkgegahaaGreat
