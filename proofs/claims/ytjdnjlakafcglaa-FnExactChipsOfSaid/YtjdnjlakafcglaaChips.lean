/- ChipsOf: both programs' answers. -/
import Derived.Test.YtjdnjlakafcglaaMostA
import Derived.BigQuiet
set_option linter.unusedVariables false
namespace Go.Proofs.Ytjdnjlakafcglaa
open Go.ChangeShapes Go.WideShapes Go.ChangeAt Go.RowKit Go.Maps

/-- The chips of the first k rings. -/
def chN (rs l : List Rg) : Nat → Int
  | 0 => 0
  | k + 1 => chN rs l k + ((l.getD k zR).2.1 - (rs.getD k zR).2.1) * (rs.getD k zR).2.2
theorem chip_bd {x x2 y y2 z : Int} (hx : x ≤ 150000) (hx2 : x2 ≤ 150000) (h1 : 0 ≤ y ∧ y ≤ x - 100) (h2 : 0 ≤ y2 ∧ y2 ≤ x2 - 100) (hz : 10 ≤ z ∧ z ≤ 300000) : -45000000000 ≤ (y2 - y) * z ∧ (y2 - y) * z ≤ 45000000000 := by
  have a1 : (y2 - y) * z ≤ 150000 * z := Int.mul_le_mul_of_nonneg_right (by omega) (by omega)
  have a2 : (-150000) * z ≤ (y2 - y) * z := Int.mul_le_mul_of_nonneg_right (by omega) (by omega)
  omega
theorem chN_bd {rs l : List Rg} {n : Nat} (h1 : ∀ i, i < n → ringB (rs.getD i zR) = true) (h2 : ∀ i, i < n → ringB (l.getD i zR) = true) : ∀ k, k ≤ n → -(45000000000 * (k : Int)) ≤ chN rs l k ∧ chN rs l k ≤ 45000000000 * (k : Int)
  | 0, _ => by simp [chN]
  | k + 1, hk => by
    have ih := chN_bd h1 h2 k (by omega)
    have a := ring_iff.1 (h1 k (by omega))
    have b := ring_iff.1 (h2 k (by omega))
    have c := chip_bd a.1.2 b.1.2 a.2.1 b.2.1 a.2.2
    unfold chN
    omega
/-- ChipsOf's answer. -/
def chR (s : ByteArray) (rs : List Rg) (zs : List Int) (cs : List Ct) : Int := if apC s rs zs cs = 0 then chN rs (cutT rs zs cs) rs.length else 0
structure ChOk (s : ByteArray) (rs : List Rg) (zs : List Int) (cs : List Ct) : Prop where
  len : 1 ≤ rs.length ∧ rs.length ≤ 32
  one : ∀ i, i < rs.length → ringB (rs.getD i zR) = true
  two : ∀ i, i < rs.length → ringB ((cutT rs zs cs).getD i zR) = true
  hgt : ∀ i, i < rs.length → ((cutT rs zs cs).getD i zR).2.2 = (rs.getD i zR).2.2
theorem ch_ok {s : ByteArray} {rs : List Rg} {zs : List Int} {cs : List Ct} (h : apC s rs zs cs = 0) : ChOk s rs zs cs := by
  have h0 : apA s rs zs cs = 0 := by
    by_cases h0 : apA s rs zs cs = 0
    · exact h0
    · rw [apC_no h0] at h; exact h
  obtain ⟨h1, -, -, -⟩ := apA_ok h0
  have hp := (lath_iff.1 h1).1
  rw [apC_ok h0] at h
  have hq : profB s (cutT rs zs cs) = true := by
    rcases resC_ok (s := s) (l := cutT rs zs cs) with h2 | h2
    · exact h2.1
    · omega
  refine ⟨(prof_iff.1 hp).2.1, fun i hi => prof_ring hp i hi, fun i hi => prof_ring hq i (by rw [cutT_len]; exact hi), fun i hi => ?_⟩
  unfold cutT
  rw [turnL_get _ _ _ _ hi, if_pos hi]
  rfl
theorem ch_yes {s : ByteArray} {rs : List Rg} {zs : List Int} {cs : List Ct} (h : apC s rs zs cs = 0) : chR s rs zs cs = chN rs (cutT rs zs cs) rs.length := by unfold chR; rw [if_pos h]
theorem ch_no {s : ByteArray} {rs : List Rg} {zs : List Int} {cs : List Ct} (h : apC s rs zs cs ≠ 0) : chR s rs zs cs = 0 := by unfold chR; rw [if_neg h]
theorem below_drewN5 {B : Nat} {w w1 : World} (h : Below B w w1) (n : Nat) : Below B w (w1.drewN n) := ⟨h.os, h.tape, h.output, h.size, h.block⟩
theorem ringIn_kept {w w' : World} {b o : Nat} {r : Rg} (hb : Below w.heap.size w w') (hl : b < w.heap.size) (h : RingIn w b o r) : RingIn w' b o r := ⟨(below_cell hb _ _ hl).trans h.c0, (below_cell hb _ _ hl).trans h.c1, (below_cell hb _ _ hl).trans h.c2⟩
set_option maxRecDepth 20000 in
set_option maxHeartbeats 4000000 in
theorem specCH_any (s : ByteArray) (v vz vc : Value) (rs : List Rg) (zs : List Int) (cs : List Ct) (w : World) (h : RingsAt w v rs) (hs : s.size ≤ maxLen) (hz : IntsAt w vz zs) (hc : CutsAt w vc cs) :
    Calls Try.prog 47 #[.agg #[.string s, v], vz, vc] w fun e w' => e = .returned (.tuple #[.int .i64 (chR s rs zs cs), .int .i64 (apC s rs zs cs)]) ∧ Below w.heap.size w w' := by
  have hal := alloc_lt2 w (.cells #[.string s, v] 30)
  have hpa := prof_alloc w s v 30
  have hba := below_al w (.cells #[.string s, v] 30)
  have HAP := Lib.hid (l09Apply_any w.heap.size s v vz vc rs zs cs _ hal hpa (rings_kept hba h) hs (ints_kept hba hz) (cuts_kept hba hc))
  have HBA := Lib.hid hba
  by_cases h0 : apC s rs zs cs = 0
  · have HK := ch_ok h0
    obtain ⟨n1, n32⟩ := HK.len
    have HY := Lib.hid (ch_yes h0)
    have H0 := Lib.hid h0
    have HBD := Lib.hid (fun k hk => chN_bd HK.one HK.two k hk)
    have HO1 := Lib.hid HK.one
    have HO2 := Lib.hid HK.two
    have hRl : resL (cutT rs zs cs) 0 = cutT rs zs cs := by unfold resL; rw [if_pos rfl]
    have HLL := Lib.hid (cutT_len rs zs cs)
    have HNX := Lib.hid (fun k => show chN rs (cutT rs zs cs) (k + 1) = chN rs (cutT rs zs cs) k + (((cutT rs zs cs).getD k zR).2.1 - (rs.getD k zR).2.1) * (rs.getD k zR).2.2 from rfl)
    rw [h0, hRl] at HAP
    rw [h0, HY.out]
    obtain ⟨av, cv, rfl⟩ := rings_form h
    obtain ⟨b, off, rfl, hbl, hr⟩ := rings_lieO rfl n1 h
    have HR1 := Lib.hid (fun i hi => ringIn_kept hba hbl (hr i hi))
    have p1 := hpa.c1
    have hbl1 := Nat.lt_of_lt_of_le hbl hba.size
    clear HK hba hpa h hz hc h0 hRl HY H0 hr hbl
    generalize cutT rs zs cs = l at *
    generalize resS s 0 = ss at *
    generalize rs.length = n at *
    go_enter Try.func47, Try.ntmps47
    go_wp2_with fail
    generalize w.alloc (.cells #[.string s, .slice (some ⟨b, off, none⟩) n cv] 30) = wA at *
    refine HAP.out.mono ?_
    rintro e w1 ⟨vr, rfl, hrv, hb⟩
    have hrr := rv_rings (by rw [HLL.out]; omega) hrv
    obtain ⟨ar, cr, rfl⟩ := rings_form hrr
    rw [HLL.out] at hrr
    obtain ⟨b2, off2, rfl, hb2, hr2⟩ := rings_lieO HLL.out n1 hrr
    rw [HLL.out]
    have hbx := below_al w1 (.cells #[.string ss, .slice (some ⟨b2, off2, none⟩) n cr] 30)
    have q1 := (prof_alloc w1 ss (.slice (some ⟨b2, off2, none⟩) n cr) 30).c1
    have hlq := alloc_lt2 w1 (.cells #[.string ss, .slice (some ⟨b2, off2, none⟩) n cr] 30)
    have HB1 := Lib.hid (below_of HBA.out hb HBA.out.size)
    have HBX := Lib.hid (below_of HB1.out hbx HB1.out.size)
    have hbb := below_of hb hbx hb.size
    have p2 := (below_cell hbb _ _ hal).trans p1
    have hal2 := Nat.lt_of_lt_of_le hal hbb.size
    have HR3 := Lib.hid (fun i (hi : i < n) => ringIn_kept hbb hbl1 (HR1.out i hi))
    have hbl3 := Nat.lt_of_lt_of_le hbl1 hbb.size
    have HR4 := Lib.hid (fun i (hi : i < n) => ringIn_kept hbx hb2 (hr2 i hi))
    have hb4 := Nat.lt_of_lt_of_le hb2 hbx.size
    clear hrv hb hrr hr2 hbx hbb p1 hal hbl1 hb2 HR1
    go_wp2
    generalize w1.alloc (.cells #[.string ss, .slice (some ⟨b2, off2, none⟩) n cr] 30) = wx at *
    go_loopw [10, 11] (fun t i wr => ∃ k : Nat, k ≤ n ∧ i = .int .i64 k ∧ t = .int .i64 (chN rs l k) ∧ Below wx.heap.size wx wr) (fun _ i _ => n - (intOf i).toNat)
    case atStart => exact ⟨0, by omega, rfl, rfl, Below.refl _ _⟩
    case round =>
      obtain ⟨k, hk, rfl, rfl, hbw⟩ := hrel
      have HB := Lib.hid hbw
      have c1 := (below_cell hbw _ _ hal2).trans p2
      by_cases hlt : k < n
      · have d1 := (below_cell hbw _ _ hlq).trans q1
        have e1 := (ringIn_kept hbw hbl3 (HR3.out k hlt)).c1
        have e2 := (ringIn_kept hbw hbl3 (HR3.out k hlt)).c2
        have f1 := (ringIn_kept hbw hb4 (HR4.out k hlt)).c1
        have bk := HBD.out k hk
        have bo := ring_iff.1 (HO1.out k hlt)
        have bt := ring_iff.1 (HO2.out k hlt)
        have HX := Lib.hid (HNX.out k)
        have hkm : (k : Int) < (n : Int) := by omega
        have hk0 : (0 : Int) ≤ (k : Int) := by omega
        have cb := chip_bd bo.1.2 bt.1.2 bo.2.1 bt.2.1 bo.2.2
        obtain ⟨⟨x, y, z⟩, hxyz⟩ : ∃ r, rs.getD k zR = r := ⟨_, rfl⟩
        obtain ⟨⟨x2, y2, z2⟩, hxyz2⟩ : ∃ r, l.getD k zR = r := ⟨_, rfl⟩
        rw [hxyz] at e1 e2 bo cb HX
        rw [hxyz2] at f1 bt cb HX
        simp only at e1 e2 f1 bo bt cb
        have HX2 := Lib.hid (show chN rs l (k + 1) = chN rs l k + (y2 - y) * z from HX.out)
        generalize chN rs l k = t at *
        have HW1 := Lib.hid (show wrap64 (y2 - y) = y2 - y from IntWalk.wrap64_in _ (by omega))
        have HW2 := Lib.hid (show wrap64 ((y2 - y) * z) = (y2 - y) * z from IntWalk.wrap64_in _ (by omega))
        have HW3 := Lib.hid (show wrap64 (t + (y2 - y) * z) = t + (y2 - y) * z from IntWalk.wrap64_in _ (by omega))
        clear hbw bk bo bt cb hxyz hxyz2 HX
        go_wp2
        go_quiet (fail)
        go_wp2
        go_roundw
        case rel => exact ⟨k + 1, by omega, by go_num, by rw [HX2.out, HW1.out, HW2.out, HW3.out], below_drewN5 HB.out _⟩
        case measure => simp [intOf]; omega
      · obtain rfl : k = n := by omega
        have HBF := Lib.hid (below_of HBX.out HB.out HBX.out.size)
        clear hbw
        go_wp2
        go_ret2
        exact ⟨rfl, HBF.out⟩
  · have HN := Lib.hid (ch_no h0)
    rw [HN.out]
    have hne : (apC s rs zs cs != 0) = true := by simpa using h0
    clear hpa h hz hc hba
    obtain ⟨q, hq⟩ : ∃ q, apC s rs zs cs = q := ⟨_, rfl⟩
    rw [hq] at HAP h0 hne ⊢
    clear hq HN
    generalize resS s q = ss at *
    generalize resL (cutT rs zs cs) q = rl at *
    go_enter Try.func47, Try.ntmps47
    go_wp2_with fail
    generalize w.alloc (.cells #[.string s, v] 30) = wA at *
    refine HAP.out.mono ?_
    rintro e w1 ⟨vr, rfl, hrv, hb⟩
    obtain ⟨ar, cr, rfl⟩ := rv_form hrv
    have HB1 := Lib.hid (below_of HBA.out hb HBA.out.size)
    have HB2 := Lib.hid (below_of HB1.out (below_al w1 (.cells #[.string ss, .slice ar rl.length cr] 30)) HB1.out.size)
    clear hrv hb
    go_wp2
    go_ret2
    exact ⟨rfl, HB2.out⟩
set_option maxRecDepth 20000 in
set_option maxHeartbeats 4000000 in
theorem implCH_any (s : ByteArray) (v vz vc : Value) (rs : List Rg) (zs : List Int) (cs : List Ct) (w : World) (h : RingsAt w v rs) (hs : s.size ≤ maxLen) (hz : IntsAt w vz zs) (hc : CutsAt w vc cs) :
    Calls Try.prog 48 #[.agg #[.string s, v], vz, vc] w fun e w' => e = .returned (.tuple #[.int .i64 (chR s rs zs cs), .int .i64 (apC s rs zs cs)]) ∧ Below w.heap.size w w' := by
  have hal := alloc_lt2 w (.cells #[.string s, v] 30)
  have hpa := prof_alloc w s v 30
  have hba := below_al w (.cells #[.string s, v] 30)
  have HAP := Lib.hid (implAC_any s v vz vc rs zs cs _ (rings_kept hba h) hs (ints_kept hba hz) (cuts_kept hba hc))
  have HBA := Lib.hid hba
  have p0 := hpa.c0
  have p1 := hpa.c1
  by_cases h0 : apC s rs zs cs = 0
  · have HK := ch_ok h0
    obtain ⟨n1, n32⟩ := HK.len
    have HY := Lib.hid (ch_yes h0)
    have HBD := Lib.hid (fun k hk => chN_bd HK.one HK.two k hk)
    have HO1 := Lib.hid HK.one
    have HO2 := Lib.hid HK.two
    have HHG := Lib.hid HK.hgt
    have hRl : resL (cutT rs zs cs) 0 = cutT rs zs cs := by unfold resL; rw [if_pos rfl]
    have HLL := Lib.hid (cutT_len rs zs cs)
    have HNX := Lib.hid (fun k => show chN rs (cutT rs zs cs) (k + 1) = chN rs (cutT rs zs cs) k + (((cutT rs zs cs).getD k zR).2.1 - (rs.getD k zR).2.1) * (rs.getD k zR).2.2 from rfl)
    rw [h0, hRl] at HAP
    rw [h0, HY.out]
    obtain ⟨av, cv, rfl⟩ := rings_form h
    obtain ⟨b, off, rfl, hbl, hr⟩ := rings_lieO rfl n1 h
    have HR1 := Lib.hid (fun i hi => ringIn_kept hba hbl (hr i hi))
    have hbl1 := Nat.lt_of_lt_of_le hbl hba.size
    clear HK hba hpa h hz hc h0 hRl HY hr hbl
    generalize cutT rs zs cs = l at *
    generalize resS s 0 = ss at *
    generalize rs.length = n at *
    go_enter Try.func48, Try.ntmps48
    go_wp2_with fail
    generalize w.alloc (.cells #[.string s, .slice (some ⟨b, off, none⟩) n cv] 30) = wA at *
    refine HAP.out.mono ?_
    rintro e w1 ⟨vr, rfl, hrv, hb⟩
    have hrr := rv_rings (by rw [HLL.out]; omega) hrv
    obtain ⟨ar, cr, rfl⟩ := rings_form hrr
    rw [HLL.out] at hrr
    obtain ⟨b2, off2, rfl, hb2, hr2⟩ := rings_lieO HLL.out n1 hrr
    rw [HLL.out]
    have hbx := below_al w1 (.cells #[.string ss, .slice (some ⟨b2, off2, none⟩) n cr] 30)
    have q1 := (prof_alloc w1 ss (.slice (some ⟨b2, off2, none⟩) n cr) 30).c1
    have hlq := alloc_lt2 w1 (.cells #[.string ss, .slice (some ⟨b2, off2, none⟩) n cr] 30)
    have HB1 := Lib.hid (below_of HBA.out hb HBA.out.size)
    have HBX := Lib.hid (below_of HB1.out hbx HB1.out.size)
    have hbb := below_of hb hbx hb.size
    have p2 := (below_cell hbb _ _ hal).trans p1
    have hal2 := Nat.lt_of_lt_of_le hal hbb.size
    have HR3 := Lib.hid (fun i (hi : i < n) => ringIn_kept hbb hbl1 (HR1.out i hi))
    have hbl3 := Nat.lt_of_lt_of_le hbl1 hbb.size
    have HR4 := Lib.hid (fun i (hi : i < n) => ringIn_kept hbx hb2 (hr2 i hi))
    have hb4 := Nat.lt_of_lt_of_le hb2 hbx.size
    clear hrv hb hrr hr2 hbx hbb p0 p1 hal hbl1 hb2 HR1
    go_wp2
    generalize w1.alloc (.cells #[.string ss, .slice (some ⟨b2, off2, none⟩) n cr] 30) = wx at *
    go_loopw [10, 26] (fun t i wr => ∃ k : Nat, k ≤ n ∧ i = .int .i64 k ∧ t = .int .i64 (chN rs l k) ∧ Below wx.heap.size wx wr) (fun _ i _ => n - (intOf i).toNat)
    case atStart => exact ⟨0, by omega, rfl, rfl, Below.refl _ _⟩
    case round =>
      obtain ⟨k, hk, rfl, rfl, hbw⟩ := hrel
      have HB := Lib.hid hbw
      by_cases hlt : k < n
      · have c1 := (below_cell hbw _ _ hal2).trans p2
        have hri := ringIn_kept hbw hb4 (HR4.out k hlt)
        have hoi := ringIn_kept hbw hbl3 (HR3.out k hlt)
        have bk := HBD.out k hk
        have bo := ring_iff.1 (HO1.out k hlt)
        have bt := ring_iff.1 (HO2.out k hlt)
        have hh := HHG.out k hlt
        have HX := Lib.hid (HNX.out k)
        have hkm : (k : Int) < (n : Int) := by omega
        have hk0 : (0 : Int) ≤ (k : Int) := by omega
        have cb := chip_bd bo.1.2 bt.1.2 bo.2.1 bt.2.1 bo.2.2
        obtain ⟨⟨x, y, z⟩, hxyz⟩ : ∃ r, rs.getD k zR = r := ⟨_, rfl⟩
        obtain ⟨⟨x2, y2, z2⟩, hxyz2⟩ : ∃ r, l.getD k zR = r := ⟨_, rfl⟩
        rw [hxyz] at hoi bo cb HX hh
        rw [hxyz2] at hri bt cb HX hh
        simp only at bo bt cb hh
        subst hh
        have HX2 := Lib.hid (show chN rs l (k + 1) = chN rs l k + (y2 - y) * z2 from HX.out)
        generalize chN rs l k = t at *
        have HW1 := Lib.hid (show wrap64 (y2 - y) = y2 - y from IntWalk.wrap64_in _ (by omega))
        have HW2 := Lib.hid (show wrap64 ((y2 - y) * z2) = (y2 - y) * z2 from IntWalk.wrap64_in _ (by omega))
        have HW3 := Lib.hid (show wrap64 (t + (y2 - y) * z2) = t + (y2 - y) * z2 from IntWalk.wrap64_in _ (by omega))
        have f0 : wr.cell? ⟨b2, off2 + k * 3, none⟩ = some (.int .i64 x2) := by simpa using hri.c0
        have f1 : wr.cell? ⟨b2, off2 + k * 3 + 1, none⟩ = some (.int .i64 y2) := by simpa using hri.c1
        have f2 : wr.cell? ⟨b2, off2 + k * 3 + 2, none⟩ = some (.int .i64 z2) := by simpa using hri.c2
        have hbd := below_al wr (.cells #[.int .i64 x2, .int .i64 y2, .int .i64 z2] 121)
        have k1 : (wr.alloc (.cells #[.int .i64 x2, .int .i64 y2, .int .i64 z2] 121)).cell? ⟨wr.heap.size, 1, none⟩ = some (.int .i64 y2) := by go_simp
        have k2 : (wr.alloc (.cells #[.int .i64 x2, .int .i64 y2, .int .i64 z2] 121)).cell? ⟨wr.heap.size, 2, none⟩ = some (.int .i64 z2) := by go_simp
        have HBB := Lib.hid (below_of HB.out hbd HB.out.size)
        have g1 := (below_cell hbd _ _ (Nat.lt_of_lt_of_le hal2 HB.out.size)).trans c1
        have o1 := (ringIn_kept hbd (Nat.lt_of_lt_of_le hbl3 HB.out.size) hoi).c1
        simp only at o1
        clear hbw bk bo bt cb hxyz hxyz2 HX hri hoi hbd
        go_wp2
        generalize wr.alloc (.cells #[.int .i64 x2, .int .i64 y2, .int .i64 z2] 121) = wB at *
        clear f0 f1 f2 c1
        go_quiet (fail)
        go_wp2
        go_roundw
        case rel => exact ⟨k + 1, by omega, by go_num, by rw [HX2.out, HW1.out, HW2.out, HW3.out], below_drewN5 HBB.out _⟩
        case measure => simp [intOf]; omega
      · obtain rfl : k = n := by omega
        have HBF := Lib.hid (below_of HBX.out HB.out HBX.out.size)
        clear hbw
        go_wp2
        go_ret2
        exact ⟨rfl, HBF.out⟩
  · have HN := Lib.hid (ch_no h0)
    rw [HN.out]
    have hne : (apC s rs zs cs != 0) = true := by simpa using h0
    obtain ⟨av, cv, rfl⟩ := rings_form h
    clear hpa h hz hc hba
    obtain ⟨q, hq⟩ : ∃ q, apC s rs zs cs = q := ⟨_, rfl⟩
    rw [hq] at HAP h0 hne ⊢
    clear hq HN
    generalize resS s q = ss at *
    generalize resL (cutT rs zs cs) q = rl at *
    generalize rs.length = n at *
    go_enter Try.func48, Try.ntmps48
    go_wp2_with fail
    generalize w.alloc (.cells #[.string s, .slice av n cv] 30) = wA at *
    refine HAP.out.mono ?_
    rintro e w1 ⟨vr, rfl, hrv, hb⟩
    obtain ⟨ar, cr, rfl⟩ := rv_form hrv
    have HB1 := Lib.hid (below_of HBA.out hb HBA.out.size)
    have HB2 := Lib.hid (below_of HB1.out (below_al w1 (.cells #[.string ss, .slice ar rl.length cr] 30)) HB1.out.size)
    clear hrv hb
    go_wp2
    go_ret2
    exact ⟨rfl, HB2.out⟩
end Go.Proofs.Ytjdnjlakafcglaa
