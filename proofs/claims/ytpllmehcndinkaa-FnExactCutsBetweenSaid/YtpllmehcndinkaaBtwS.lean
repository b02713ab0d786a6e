/- CutsBetween: the reference model's answer. -/
import Derived.Test.YtpllmehcndinkaaBtwC
import Derived.Test.YtpllmehcndinkaaBtwZ
import Derived.Test.YtpllmehcndinkaaG3
import Derived.Test.YtpllmehcndinkaaWallS
set_option linter.unusedVariables false
namespace Go.Proofs.Ytpllmehcndinkaa
open Go.ChangeShapes Go.WideShapes Go.ChangeAt Go.RowKit Go.Maps

theorem sameP_same {s : ByteArray} {a b : List Rg} : sameP s s a b = decide (a = b) := by
  unfold sameP sameL
  simp
theorem tdiv_bd10 {x : Int} (h1 : -150000 ≤ x) (h2 : x ≤ 150000) : -150000 ≤ x.tdiv 10 ∧ x.tdiv 10 ≤ 150000 := by
  rcases Int.le_total 0 x with h | h
  · rw [Int.tdiv_eq_ediv_of_nonneg h]; omega
  · obtain ⟨y, rfl⟩ : ∃ y, x = -y := ⟨-x, by omega⟩
    rw [Int.neg_tdiv, Int.tdiv_eq_ediv_of_nonneg (by omega)]; omega
theorem below_drew1 {B : Nat} {w w1 : World} (h : Below B w w1) : Below B w w1.drew := ⟨h.os, h.tape, h.output, h.size, h.block⟩
theorem below_drewN7 {B : Nat} {w w1 : World} (h : Below B w w1) (n : Nat) : Below B w (w1.drewN n) := ⟨h.os, h.tape, h.output, h.size, h.block⟩
set_option maxRecDepth 20000 in
set_option maxHeartbeats 4000000 in
theorem specCB_any (s s2 : ByteArray) (v v2 vz : Value) (rs rb : List Rg) (zs : List Int) (w : World) (h : RingsW w v rs) (h2 : RingsW w v2 rb) (hs : s.size ≤ maxLen) (hs2 : s2.size ≤ maxLen) (hz : IntsAt w vz zs) :
    Calls Try.prog 42 #[.agg #[.string s, v], .agg #[.string s2, v2], vz] w (CU (cbL s rs s2 rb zs) (cbC s rs s2 rb zs) w) := by
  obtain ⟨i0, hi, hz0, hz1, hz2⟩ := info_parts infoI64
  have hba := (below_al w (.cells #[.string s, v] 45)).alloc (by simp) (.cells #[.string s2, v2] 45)
  have hla : w.heap.size < ((w.alloc (.cells #[.string s, v] 45)).alloc (.cells #[.string s2, v2] 45)).heap.size := by simp <;> omega
  have hlb : w.heap.size + 1 < ((w.alloc (.cells #[.string s, v] 45)).alloc (.cells #[.string s2, v2] 45)).heap.size := by simp
  have p0 : ((w.alloc (.cells #[.string s, v] 45)).alloc (.cells #[.string s2, v2] 45)).cell? ⟨w.heap.size, 0, none⟩ = some (.string s) := by go_simp
  have p1 : ((w.alloc (.cells #[.string s, v] 45)).alloc (.cells #[.string s2, v2] 45)).cell? ⟨w.heap.size, 1, none⟩ = some v := by go_simp
  have p2 : ((w.alloc (.cells #[.string s, v] 45)).alloc (.cells #[.string s2, v2] 45)).cell? ⟨w.heap.size + 1, 0, none⟩ = some (.string s2) := by go_simp
  have p3 : ((w.alloc (.cells #[.string s, v] 45)).alloc (.cells #[.string s2, v2] 45)).cell? ⟨w.heap.size + 1, 1, none⟩ = some v2 := by go_simp
  have HZO := Lib.hid (l09Zones_any w.heap.size s v vz rs zs _ hla ⟨p0, p1⟩ (rings_kept hba h.1) hs (ints_kept hba hz))
  have HR := Lib.hid (show (profB s rs && fitB rs.length zs) = lathB s rs zs from rfl)
  rw [HR.out] at HZO
  have HBA := Lib.hid hba
  have HOK := Lib.hid (fun W (hW : Below ((w.alloc (.cells #[.string s, v] 45)).alloc (.cells #[.string s2, v2] 45)).heap.size ((w.alloc (.cells #[.string s, v] 45)).alloc (.cells #[.string s2, v2] 45)) W) => l05Ok_any (w.heap.size + 1) s2 v2 rb W ⟨(below_cell hW _ _ hlb).trans p2, (below_cell hW _ _ hlb).trans p3⟩ (rings_kept (below_of hba hW hba.size) h2.1) hs2)
  have HPA := Lib.hid (fun W (hW : Below ((w.alloc (.cells #[.string s, v] 45)).alloc (.cells #[.string s2, v2] 45)).heap.size ((w.alloc (.cells #[.string s, v] 45)).alloc (.cells #[.string s2, v2] 45)) W) => show ProfIn W w.heap.size s v from ⟨(below_cell hW _ _ hla).trans p0, (below_cell hW _ _ hla).trans p1⟩)
  have HPB := Lib.hid (fun W (hW : Below ((w.alloc (.cells #[.string s, v] 45)).alloc (.cells #[.string s2, v2] 45)).heap.size ((w.alloc (.cells #[.string s, v] 45)).alloc (.cells #[.string s2, v2] 45)) W) => show ProfIn W (w.heap.size + 1) s2 v2 from ⟨(below_cell hW _ _ hlb).trans p2, (below_cell hW _ _ hlb).trans p3⟩)
  rcases Bool.eq_false_or_eq_true (lathB s rs zs) with q1 | q1
  rotate_left
  · have HA := Lib.hid (cb_1 (s := s) (s2 := s2) (rs := rs) (rb := rb) (zs := zs) (fun h => by rw [q1] at h; cases h.1))
    rw [q1] at HZO
    rw [HA.out.1, HA.out.2]
    obtain ⟨av, cv, rfl⟩ := rings_form h.1
    obtain ⟨av2, cv2, rfl⟩ := rings_form h2.1
    obtain ⟨az, cz, rfl⟩ := ints_form hz
    clear hba h h2 hz q1 HR HOK HPA HPB
    generalize rs.length = n at *
    generalize rb.length = n2 at *
    generalize zs.length = nz at *
    go_enter Try.func42, Try.ntmps42
    go_wp2_with fail
    generalize ((w.alloc (.cells #[.string s, .slice av n cv] 45)).alloc (.cells #[.string s2, .slice av2 n2 cv2] 45)) = wA at *
    refine HZO.out.mono ?_
    rintro e w1 ⟨rfl, hb⟩
    have HBz := Lib.hid hb
    have HB1 := Lib.hid (below_of HBA.out hb HBA.out.size)
    have a0 := (below_cell hb _ _ hla).trans p0
    have a1 := (below_cell hb _ _ hla).trans p1
    have a2 := (below_cell hb _ _ hlb).trans p2
    have a3 := (below_cell hb _ _ hlb).trans p3
    have hl1 := Nat.lt_of_lt_of_le hla hb.size
    have hl2 := Nat.lt_of_lt_of_le hlb hb.size
    clear hb p0 p1 p2 p3
    go_wp2
    go_ret2
    exact ⟨.slice none 0 0, rfl, .inl ⟨rfl, rfl⟩, HB1.out⟩
  rw [q1] at HZO
  rcases Bool.eq_false_or_eq_true (profB s2 rb) with q2 | q2
  rotate_left
  · have HA := Lib.hid (cb_1 (s := s) (s2 := s2) (rs := rs) (rb := rb) (zs := zs) (fun h => by rw [q2] at h; cases h.2))
    rw [q2] at HOK
    rw [HA.out.1, HA.out.2]
    obtain ⟨av, cv, rfl⟩ := rings_form h.1
    obtain ⟨av2, cv2, rfl⟩ := rings_form h2.1
    obtain ⟨az, cz, rfl⟩ := ints_form hz
    clear hba h h2 hz q1 q2 HR HPA HPB
    generalize rs.length = n at *
    generalize rb.length = n2 at *
    generalize zs.length = nz at *
    go_enter Try.func42, Try.ntmps42
    go_wp2_with fail
    generalize ((w.alloc (.cells #[.string s, .slice av n cv] 45)).alloc (.cells #[.string s2, .slice av2 n2 cv2] 45)) = wA at *
    refine HZO.out.mono ?_
    rintro e w1 ⟨rfl, hb⟩
    have HBz := Lib.hid hb
    have HB1 := Lib.hid (below_of HBA.out hb HBA.out.size)
    have a0 := (below_cell hb _ _ hla).trans p0
    have a1 := (below_cell hb _ _ hla).trans p1
    have a2 := (below_cell hb _ _ hlb).trans p2
    have a3 := (below_cell hb _ _ hlb).trans p3
    have hl1 := Nat.lt_of_lt_of_le hla hb.size
    have hl2 := Nat.lt_of_lt_of_le hlb hb.size
    clear hb p0 p1 p2 p3
    go_wp2_with fail
    refine (HOK.out _ HBz.out).mono ?_
    rintro e w2 ⟨rfl, hb⟩
    have HB2 := Lib.hid (below_of HB1.out hb HB1.out.size)
    have HBy := Lib.hid (below_of HBz.out hb HBz.out.size)
    have d0 := (below_cell hb _ _ hl1).trans a0
    have d1 := (below_cell hb _ _ hl1).trans a1
    have d2 := (below_cell hb _ _ hl2).trans a2
    have d3 := (below_cell hb _ _ hl2).trans a3
    have hn1 := Nat.lt_of_lt_of_le hl1 hb.size
    have hn2 := Nat.lt_of_lt_of_le hl2 hb.size
    clear hb a0 a1 a2 a3
    go_wp2
    go_ret2
    exact ⟨.slice none 0 0, rfl, .inl ⟨rfl, rfl⟩, HB2.out⟩
  rw [q2] at HOK
  by_cases q4 : rs.length = rb.length
  rotate_left
  · have HA := Lib.hid (cb_7 q1 q2 (fun h => q4 h.2))
    rw [HA.out.1, HA.out.2]
    have hne : ((rs.length : Int) != (rb.length : Int)) = true := by simpa using (show ¬ (rs.length : Int) = rb.length by omega)
    obtain ⟨av, cv, rfl⟩ := rings_form h.1
    obtain ⟨av2, cv2, rfl⟩ := rings_form h2.1
    obtain ⟨az, cz, rfl⟩ := ints_form hz
    clear hba h h2 hz q1 q2 q4 HR HPA HPB
    generalize rs.length = n at *
    generalize rb.length = n2 at *
    generalize zs.length = nz at *
    go_enter Try.func42, Try.ntmps42
    go_wp2_with fail
    generalize ((w.alloc (.cells #[.string s, .slice av n cv] 45)).alloc (.cells #[.string s2, .slice av2 n2 cv2] 45)) = wA at *
    refine HZO.out.mono ?_
    rintro e w1 ⟨rfl, hb⟩
    have HBz := Lib.hid hb
    have HB1 := Lib.hid (below_of HBA.out hb HBA.out.size)
    have a0 := (below_cell hb _ _ hla).trans p0
    have a1 := (below_cell hb _ _ hla).trans p1
    have a2 := (below_cell hb _ _ hlb).trans p2
    have a3 := (below_cell hb _ _ hlb).trans p3
    have hl1 := Nat.lt_of_lt_of_le hla hb.size
    have hl2 := Nat.lt_of_lt_of_le hlb hb.size
    clear hb p0 p1 p2 p3
    go_wp2_with fail
    refine (HOK.out _ HBz.out).mono ?_
    rintro e w2 ⟨rfl, hb⟩
    have HB2 := Lib.hid (below_of HB1.out hb HB1.out.size)
    have HBy := Lib.hid (below_of HBz.out hb HBz.out.size)
    have d0 := (below_cell hb _ _ hl1).trans a0
    have d1 := (below_cell hb _ _ hl1).trans a1
    have d2 := (below_cell hb _ _ hl2).trans a2
    have d3 := (below_cell hb _ _ hl2).trans a3
    have hn1 := Nat.lt_of_lt_of_le hl1 hb.size
    have hn2 := Nat.lt_of_lt_of_le hl2 hb.size
    clear hb a0 a1 a2 a3
    go_wp2
    go_ret2
    exact ⟨.slice none 0 0, rfl, .inl ⟨rfl, rfl⟩, HB2.out⟩
  by_cases q3 : s = s2
  rotate_left
  · have HA := Lib.hid (cb_7 q1 q2 (fun h => q3 h.1))
    rw [HA.out.1, HA.out.2]
    have hq0 : (s.toList != s2.toList) = true := by simpa using fun e => q3 (bytes_listP e)
    have hq1 : (s.toList == s2.toList) = false := beq_eq_false_iff_ne.2 (fun e => q3 (bytes_listP e))
    have hne : ((rs.length : Int) != (rb.length : Int)) = false := by rw [q4]; simp
    obtain ⟨av, cv, rfl⟩ := rings_form h.1
    obtain ⟨av2, cv2, rfl⟩ := rings_form h2.1
    obtain ⟨az, cz, rfl⟩ := ints_form hz
    clear hba h h2 hz q1 q2 q3 q4 HR HPA HPB
    generalize rs.length = n at *
    generalize rb.length = n2 at *
    generalize zs.length = nz at *
    go_enter Try.func42, Try.ntmps42
    go_wp2_with fail
    generalize ((w.alloc (.cells #[.string s, .slice av n cv] 45)).alloc (.cells #[.string s2, .slice av2 n2 cv2] 45)) = wA at *
    refine HZO.out.mono ?_
    rintro e w1 ⟨rfl, hb⟩
    have HBz := Lib.hid hb
    have HB1 := Lib.hid (below_of HBA.out hb HBA.out.size)
    have a0 := (below_cell hb _ _ hla).trans p0
    have a1 := (below_cell hb _ _ hla).trans p1
    have a2 := (below_cell hb _ _ hlb).trans p2
    have a3 := (below_cell hb _ _ hlb).trans p3
    have hl1 := Nat.lt_of_lt_of_le hla hb.size
    have hl2 := Nat.lt_of_lt_of_le hlb hb.size
    clear hb p0 p1 p2 p3
    go_wp2_with fail
    refine (HOK.out _ HBz.out).mono ?_
    rintro e w2 ⟨rfl, hb⟩
    have HB2 := Lib.hid (below_of HB1.out hb HB1.out.size)
    have HBy := Lib.hid (below_of HBz.out hb HBz.out.size)
    have d0 := (below_cell hb _ _ hl1).trans a0
    have d1 := (below_cell hb _ _ hl1).trans a1
    have d2 := (below_cell hb _ _ hl2).trans a2
    have d3 := (below_cell hb _ _ hl2).trans a3
    have hn1 := Nat.lt_of_lt_of_le hl1 hb.size
    have hn2 := Nat.lt_of_lt_of_le hl2 hb.size
    clear hb a0 a1 a2 a3
    go_wp2
    go_ret2
    exact ⟨.slice none 0 0, rfl, .inl ⟨rfl, rfl⟩, HB2.out⟩
  subst q3
  have hq0 : (s.toList != s.toList) = false := by simp
  have hq1 : (s.toList == s.toList) = true := by simp
  have hprof := (lath_iff.1 q1).1
  have hfit := (lath_iff.1 q1).2
  obtain ⟨n1, n32⟩ := (prof_iff.1 hprof).2.1
  obtain ⟨z1, z8⟩ := (fit_facts hfit).1
  have HTU := Lib.hid (fun vL W (hW : Below ((w.alloc (.cells #[.string s, v] 45)).alloc (.cells #[.string s, v2] 45)).heap.size ((w.alloc (.cells #[.string s, v] 45)).alloc (.cells #[.string s, v2] 45)) W) (hL : IntsAt W vL (bL rs rb zs zs.length)) (hr : ∀ z, z < zs.length → 0 ≤ bT rs rb zs z ∧ bT rs rb zs z ≤ 20) => l09Turned_any w.heap.size s v vz vL rs zs (bL rs rb zs zs.length) W (Nat.lt_of_lt_of_le hla hW.size) (HPA.out W hW) (rings_kept (below_of hba hW hba.size) h.1) (ints_kept (below_of hba hW hba.size) hz) hL ⟨n1, n32⟩ (fun i hi => prof_ring hprof i hi) (by omega) (by rw [bL_len]; omega) (fun j hj => by
    rw [bL_len] at hj
    rw [bL_get _ _ _ _ _ hj]
    split
    · rename_i hjz; have := hr j hjz; omega
    · omega))
  have HSAME := Lib.hid (fun pp vv l W (hW : Below ((w.alloc (.cells #[.string s, v] 45)).alloc (.cells #[.string s, v2] 45)).heap.size ((w.alloc (.cells #[.string s, v] 45)).alloc (.cells #[.string s, v2] 45)) W) (hp : ProfIn W pp s vv) (hl : RingsAt W vv l) => l05Same_any pp (w.heap.size + 1) s s l rb vv v2 W hp (HPB.out W hW) hl (rings_kept (below_of hba hW hba.size) h2.1))
  have HLI := Lib.hid (fun vL W (hL : IntsAt W vL (bL rs rb zs zs.length)) => l09List_any (bL rs rb zs zs.length) (fun z => if z < zs.length then bT rs rb zs z else 0) 8 vL W (bL_len _ _ _ _) (by omega) (fun z hz => bL_get _ _ _ _ _ hz) hL)
  have HLB := Lib.hid (listOf_bL rs rb zs z8)
  have HTS := Lib.hid (fun hr => turn_same hfit q4 hr)
  have HTL := Lib.hid (turnL_len (stepF zs (bL rs rb zs zs.length)) rs rs.length)
  have HC0 := Lib.hid (fun hall => cb_0 q1 q2 ⟨rfl, q4⟩ hall)
  have HC3 := Lib.hid (fun hall => cb_3 q1 q2 ⟨rfl, q4⟩ hall)
  obtain ⟨b, off, cv, rfl, hbl, hcap, hr⟩ := ringsW_cells h n1
  obtain ⟨b2, off2, cv2, rfl, hbl2, hcap2, hr2⟩ := ringsW_cells h2 (by omega)
  obtain ⟨bz, oz, cz, rfl, hbz, hcz⟩ := ints_cellsT hz z1
  have HZC := Lib.hid (fun W (hW : Below w.heap.size w W) k (hk : k < zs.length) => show W.cell? ⟨bz, oz + k, none⟩ = some (.int .i64 (zBeg zs k : Int)) from ((below_cell hW _ _ hbz).trans (hcz k hk)).trans (by rw [(zbeg_int hfit k hk).1]))
  have HZI := Lib.hid (fun k (hk : k < zs.length) => (zbeg_int hfit k hk).2)
  have HRA := Lib.hid (fun W (hW : Below w.heap.size w W) i (hi : i < rs.length) => ringIn_keptB hW hbl (hr i hi))
  have HRB := Lib.hid (fun W (hW : Below w.heap.size w W) i (hi : i < rs.length) => ringIn_keptB hW hbl2 (hr2 i (by omega)))
  have HVA := Lib.hid (fun i (hi : i < rs.length) => ring_iff.1 (prof_ring hprof i hi))
  have HVB := Lib.hid (fun i (hi : i < rs.length) => ring_iff.1 (prof_ring q2 i (by omega)))
  have HBD := Lib.hid (show BAll rs rb zs → ∀ z, z < zs.length → 0 ≤ bT rs rb zs z ∧ bT rs rb zs z ≤ 20 from fun hall z hz => (hall z hz).1)
  have HBT := Lib.hid (fun z => show bT rs rb zs z = ((rb.getD (zBeg zs z) zR).2.1 - (rs.getD (zBeg zs z) zR).2.1).tdiv 10 from rfl)
  have HNX := Lib.hid (bL_next rs rb zs)
  have HB8 := Lib.hid (bL_len rs rb zs)
  have HBG := Lib.hid (bL_get rs rb zs)
  have HB00 := Lib.hid (bL_zero rs rb zs)
  clear hba h h2 hz q1 q2 hprof hfit hbl hbl2 hcap hcap2 hr hr2 hbz hcz HR
  rw [← q4] at p3 hla hlb p0 p1 p2 HZO HBA HOK HPA HPB HTU HSAME ⊢
  clear q4
  have hne : ((rs.length : Int) != (rs.length : Int)) = false := by simp
  generalize rs.length = n at *
  generalize zs.length = nz at *
  go_enter Try.func42, Try.ntmps42
  go_wp2_with fail
  generalize ((w.alloc (.cells #[.string s, .slice (some ⟨b, off, none⟩) n cv] 45)).alloc (.cells #[.string s, .slice (some ⟨b2, off2, none⟩) n cv2] 45)) = wA at *
  refine HZO.out.mono ?_
  rintro e w1 ⟨rfl, hb⟩
  have HBz := Lib.hid hb
  have HB1 := Lib.hid (below_of HBA.out hb HBA.out.size)
  have a0 := (below_cell hb _ _ hla).trans p0
  have a1 := (below_cell hb _ _ hla).trans p1
  have a2 := (below_cell hb _ _ hlb).trans p2
  have a3 := (below_cell hb _ _ hlb).trans p3
  have hl1 := Nat.lt_of_lt_of_le hla hb.size
  have hl2 := Nat.lt_of_lt_of_le hlb hb.size
  clear hb p0 p1 p2 p3
  go_wp2_with fail
  refine (HOK.out _ HBz.out).mono ?_
  rintro e w2 ⟨rfl, hb⟩
  have HB2 := Lib.hid (below_of HB1.out hb HB1.out.size)
  have HBy := Lib.hid (below_of HBz.out hb HBz.out.size)
  have d0 := (below_cell hb _ _ hl1).trans a0
  have d1 := (below_cell hb _ _ hl1).trans a1
  have d2 := (below_cell hb _ _ hl2).trans a2
  have d3 := (below_cell hb _ _ hl2).trans a3
  have hn1 := Nat.lt_of_lt_of_le hl1 hb.size
  have hn2 := Nat.lt_of_lt_of_le hl2 hb.size
  clear hb a0 a1 a2 a3
  go_wp2_with (at_make; refine wpList_make_full _ rfl _ _ 22 rfl w2.heap.size 2 i0 (.int .i64 0) 1 Try.underlying22 hi hz0 hz1 .i64 .i64 _ _ 8 rfl rfl rfl rfl (by rw [hz2]; omega) (by unfold maxLen; omega) (Nat.le_refl _) ?_; intro w0 hown hgrow)
  have HB0 := Lib.hid ((Below.refl w2.heap.size w2).grown hgrow (Nat.le_refl _) (fun k hk => by cases hk))
  rw [made_ints] at hown
  have HO0 := Lib.hid (show w0.ownsRow w2.heap.size 2 1 (.slice (some ⟨w2.heap.size, 0, none⟩) 8 8) 8 (i64s (bL rs rb zs 0)) by rw [HB00.out]; exact hown)
  clear hgrow hown
  go_wp2
  go_loopw [9] (fun i wr => ∃ k : Nat, k ≤ nz ∧ i = .int .i64 k ∧ Hid (wr.ownsRow w2.heap.size 2 1 (.slice (some ⟨w2.heap.size, 0, none⟩) 8 8) 8 (i64s (bL rs rb zs k))) ∧ Hid (∀ z, z < k → 0 ≤ bT rs rb zs z ∧ bT rs rb zs z ≤ 20) ∧ Hid (Below w2.heap.size w2 wr)) (fun i _ => nz - (intOf i).toNat)
  case atStart => exact ⟨0, by omega, rfl, HO0, Lib.hid (fun z hz => by omega), HB0⟩
  case round =>
    obtain ⟨k, hk, rfl, HO, HRG, HB⟩ := hrel
    have c0 := (below_cell HB.out _ _ hn1).trans d0
    have c1 := (below_cell HB.out _ _ hn1).trans d1
    have c2 := (below_cell HB.out _ _ hn2).trans d2
    have c3 := (below_cell HB.out _ _ hn2).trans d3
    have HBW := Lib.hid (below_of HB2.out HB.out HB2.out.size)
    by_cases hlt : k < nz
    · have hk0 : (0 : Int) ≤ (k : Int) := by omega
      have hlt1 : (k : Int) < (nz : Int) := by omega
      have hlt8 : (k : Int) < 8 := by omega
      have hzc := HZC.out wr HBW.out k hlt
      have hzi := HZI.out k hlt
      have HNK := Lib.hid (HNX.out k (by omega))
      have HBK := Lib.hid (HBT.out k)
      generalize zBeg zs k = q at *
      have e1 := (HRA.out wr HBW.out q hzi).c1
      have f1 := (HRB.out wr HBW.out q hzi).c1
      have bo := HVA.out q hzi
      have bt := HVB.out q hzi
      obtain ⟨⟨x, y, z⟩, hxyz⟩ : ∃ r, rs.getD q zR = r := ⟨_, rfl⟩
      obtain ⟨⟨x2, y2, z2⟩, hxyz2⟩ : ∃ r, rb.getD q zR = r := ⟨_, rfl⟩
      rw [hxyz] at e1 bo HBK
      rw [hxyz2] at f1 bt HBK
      simp only at e1 f1 bo bt
      have HBK2 := Lib.hid (show bT rs rb zs k = (y2 - y).tdiv 10 from HBK.out)
      have hq0' : (0 : Int) ≤ (q : Int) := by omega
      have hq1' : (q : Int) < (n : Int) := by omega
      have hw1 : IntKind.i64.wrap (y2 - y) = y2 - y := IntWalk.i64_in _ (by omega)
      have htd : -150000 ≤ (y2 - y).tdiv 10 ∧ (y2 - y).tdiv 10 ≤ 150000 := tdiv_bd10 (by omega) (by omega)
      have hw2 : IntKind.i64.wrap ((y2 - y).tdiv 10) = (y2 - y).tdiv 10 := IntWalk.i64_in _ (by omega)
      have hat := HO.out.cellAt k (by omega)
      rw [i64s_get _ _ (by rw [HB8.out]; omega)] at hat
      have hf := HO.out.frozenAt k
      have HS := Lib.hid (HO.out.stored k (.int .i64 (bT rs rb zs k))).1
      rw [HNK.out] at HS
      have HBS := Lib.hid (HB.out.setCell (p := ⟨w2.heap.size, k, none⟩) (Nat.le_refl _) (.int .i64 (bT rs rb zs k)))
      rw [HBK2.out] at HS HBS
      generalize (bL rs rb zs k).getD k 0 = old at *
      clear bo bt hxyz hxyz2 HBK
      by_cases hin : 0 ≤ (y2 - y).tdiv 10 ∧ (y2 - y).tdiv 10 ≤ 20
      · have HIN := Lib.hid (inB_true hin)
        have HRG2 := Lib.hid (show ∀ z, z < k + 1 → 0 ≤ bT rs rb zs z ∧ bT rs rb zs z ≤ 20 from fun z hz => by
          by_cases e : z = k
          · subst e; rw [HBK2.out]; exact hin
          · exact HRG.out z (by omega))
        clear hin
        go_wp2
        refine wp_region_still_tail 23 (by kernel_rfl) (by kernel_rfl) ?_
        simp only [List.take_succ_cons, List.take_zero, List.drop_succ_cons, List.drop_zero]
        repeat still_step
        refine wpStill_nil ?_
        change wpList _ _ _ _ _ wr.drew
        go_wp2_with (go_at_call 67; refine (l00In_any _ _ _ _).mono ?_; rintro e w' ⟨rfl, rfl⟩; rw [HIN.out])
        go_roundw
        case rel => exact ⟨k + 1, by omega, by go_num, Lib.hid (World.ownsRow.drew HS.out), HRG2, Lib.hid (below_drew1 HBS.out)⟩
        case measure => simp [intOf]; omega
      · have HIN := Lib.hid (inB_false hin)
        have HA := Lib.hid (HC3.out (fun hall => hin (by rw [← HBK2.out]; exact HBD.out hall k hlt)))
        have HBF := Lib.hid (below_of HB2.out (below_drew1 HBS.out) HB2.out.size)
        clear hin
        go_wp2
        refine wp_region_still_tail 23 (by kernel_rfl) (by kernel_rfl) ?_
        simp only [List.take_succ_cons, List.take_zero, List.drop_succ_cons, List.drop_zero]
        repeat still_step
        refine wpStill_nil ?_
        change wpList _ _ _ _ _ wr.drew
        go_wp2_with (go_at_call 67; refine (l00In_any _ _ _ _).mono ?_; rintro e w' ⟨rfl, rfl⟩; rw [HIN.out])
        go_ret2
        exact ⟨.slice none 0 0, ret_cb HA.out.1.symm, by rw [HA.out.2]; exact .inl ⟨rfl, rfl⟩, HBF.out⟩
    · obtain rfl : k = nz := by omega
      have HIA := Lib.hid (fun W (hW : Below wr.heap.size wr W) => show IntsAt W (.slice (some ⟨w2.heap.size, 0, none⟩) 8 8) (bL rs rb zs k) by
        have h1 := row_keep1 hW HO.out
        exact own_ints (by rw [HB8.out]; omega) ⟨w2.heap.size, 8, by rw [HB8.out], Nat.le_refl _, (h1.lt _ rfl).2, by rw [HB8.out]; exact h1⟩)
      have HBY := Lib.hid (below_of HBy.out HB.out HBy.out.size)
      have HPR := Lib.hid (HTU.out _ _ HBY.out (HIA.out _ (Below.refl _ _)) HRG.out)
      have HEQ := Lib.hid (HTS.out HRG.out)
      generalize hl : turnL (stepF zs (bL rs rb zs k)) rs n = l at *
      clear hl
      go_wp2_with fail
      refine HPR.out.mono ?_
      rintro e w4 ⟨⟨vr, rfl, hrv⟩, hb⟩
      have hrr := rv_rings (by rw [HTL.out]; omega) hrv
      obtain ⟨ar, cr, rfl⟩ := rings_form hrr
      have hbx := below_al w4 (.cells #[.string s, .slice ar l.length cr] 45)
      have hpx := prof_alloc w4 s (.slice ar l.length cr) 45
      have HB4 := Lib.hid (below_of hb hbx hb.size)
      have HBZ := Lib.hid (below_of HBY.out HB4.out HBY.out.size)
      have HSM := Lib.hid (HSAME.out _ _ l _ HBZ.out hpx (rings_kept hbx hrr))
      have hbig := below_cell HB4.out
      have HB9 := Lib.hid (below_of HBW.out HB4.out HBW.out.size)
      rw [sameP_same] at HSM
      clear hrv hb hrr hbx hpx hbig
      generalize l.length = nl at *
      by_cases hall : BAll rs rb zs
      · have HA := Lib.hid (HC0.out hall)
        have hd : decide (l = rb) = true := decide_eq_true (HEQ.out.2 hall)
        rw [hd] at HSM
        clear hd hall
        go_wp2_with fail
        generalize (w4.alloc (.cells #[.string s, .slice ar nl cr] 45)) = w5 at *
        refine HSM.out.mono ?_
        rintro e w6 ⟨rfl, m, rfl⟩
        have HL := Lib.hid (HLI.out _ _ (HIA.out _ (below_drewN7 HB4.out m)))
        rw [HLB.out] at HL
        go_wp2_with fail
        refine HL.out.mono ?_
        rintro e w7 ⟨⟨vc, rfl, hcv⟩, hb⟩
        obtain ⟨ac, cc, rfl⟩ := cv_form hcv
        have HCV := Lib.hid hcv
        have HBd := Lib.hid (below_drewN7 HB9.out m)
        have HBF := Lib.hid (below_of HBd.out hb HBd.out.size)
        clear hcv hb
        go_wp2
        go_ret2
        exact ⟨_, ret_cb HA.out.1.symm, by rw [HA.out.2]; exact cv_base HCV.out HBd.out.size, HBF.out⟩
      · have HA := Lib.hid (HC3.out hall)
        have hd : decide (l = rb) = false := decide_eq_false (fun e => hall (HEQ.out.1 e))
        rw [hd] at HSM
        clear hd hall
        go_wp2_with fail
        generalize (w4.alloc (.cells #[.string s, .slice ar nl cr] 45)) = w5 at *
        refine HSM.out.mono ?_
        rintro e w6 ⟨rfl, m, rfl⟩
        have HBd := Lib.hid (below_drewN7 HB9.out m)
        go_wp2
        go_ret2
        exact ⟨.slice none 0 0, ret_cb HA.out.1.symm, by rw [HA.out.2]; exact .inl ⟨rfl, rfl⟩, HBd.out⟩
end Go.Proofs.Ytpllmehcndinkaa
