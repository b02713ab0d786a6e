/- CutsBetween: the program's answer. -/
import Derived.Test.YtpllmehcndinkaaBtwMath
import Derived.Test.YtpllmehcndinkaaG2
import Derived.Test.YtpllmehcndinkaaG3
import Derived.Test.YtpllmehcndinkaaSrtList
import Derived.Test.YtpllmehcndinkaaSrtCuts
import Derived.Deep.RegionHeld3
set_option linter.unusedVariables false
namespace Go.Proofs.Ytpllmehcndinkaa
open Go.ChangeShapes Go.WideShapes Go.ChangeAt Go.RowKit Go.Maps

theorem ret_cb {v : Value} {a b : Int} (h : a = b) : Ending.returned (.tuple #[v, .int .i64 a]) = .returned (.tuple #[v, .int .i64 b]) := by rw [h]
theorem ringIn_keptB {w w' : World} {b o : Nat} {r : Rg} (hb : Below w.heap.size w w') (hl : b < w.heap.size) (h : RingIn w b o r) : RingIn w' b o r := ⟨(below_cell hb _ _ hl).trans h.c0, (below_cell hb _ _ hl).trans h.c1, (below_cell hb _ _ hl).trans h.c2⟩
theorem row_keep2 {w w' : World} {B : Nat} {e : TypeId} {v : Value} {n : Nat} {xs : List Value} (hb : Below w.heap.size w w') (h : w.ownsRow B e 2 v n xs) : w'.ownsRow B e 2 v n xs :=
  h.kept (row := none) ⟨hb.os, hb.tape, hb.output, hb.size, fun k hk _ => hb.block k hk⟩ (by cases hv : v.ownBlock <;> simp)
/-- The steps of the first k zones. -/
def gMap (h : Nat → Int) (k : Nat) (z : Int) : Int := if 0 ≤ z ∧ z < (k : Int) then h z.toNat else 0
theorem gMap_zero (h : Nat → Int) (z : Int) : gMap h 0 z = 0 := by unfold gMap; rw [if_neg (by omega)]
theorem gMap_at (h : Nat → Int) (k : Nat) : gMap h k (k : Int) = 0 := by unfold gMap; rw [if_neg (by omega)]
theorem gMap_nat (h : Nat → Int) (k z : Nat) (hz : z < k) : gMap h k (z : Int) = h z := by unfold gMap; rw [if_pos (by omega), Int.toNat_natCast]
theorem gMap_next (h : Nat → Int) (k : Nat) (z : Int) : gMap h (k + 1) z = gMap h k z + if (k : Int) = z then h k else 0 := by
  by_cases e : (k : Int) = z
  · subst e; rw [gMap_at, if_pos rfl, gMap_nat h (k + 1) k (by omega), Int.zero_add]
  · rw [if_neg e, Int.add_zero]
    unfold gMap
    by_cases h1 : 0 ≤ z ∧ z < (k : Int)
    · rw [if_pos h1, if_pos (by omega)]
    · rw [if_neg h1, if_neg (by omega)]
theorem listOf_sameG {f g : Nat → Int} : ∀ n, (∀ z, z < n → f z = g z) → listOf f n = listOf g n
  | 0, _ => rfl
  | n + 1, h => by
    have ih := listOf_sameG n (fun z hz => h z (by omega))
    have e := h n (by omega)
    by_cases hp : 0 < g n
    · rw [listOf_yes (f := g) hp, listOf_yes (f := f) (by rw [e]; exact hp), ih, e]
    · rw [listOf_no (f := g) hp, listOf_no (f := f) (by rw [e]; exact hp), ih]
theorem listOf_moreG {f : Nat → Int} (n : Nat) : ∀ m, (∀ z, n ≤ z → f z ≤ 0) → listOf f (n + m) = listOf f n
  | 0, _ => rfl
  | m + 1, h => by rw [← listOf_moreG n m h]; exact listOf_no (by have := h (n + m) (by omega); simp only [Nat.add_eq]; omega)
theorem listOf_g (h : Nat → Int) (n : Nat) (hn : n ≤ 8) : listOf (fun z => gMap h n (z : Int)) 8 = listOf h n := by
  have hm : n + (8 - n) = 8 := by omega
  rw [← hm, listOf_moreG n (8 - n) (fun z hz => by show gMap h n (z : Int) ≤ 0; unfold gMap; rw [if_neg (by omega)]; exact Int.le_refl _)]
  exact listOf_sameG n (fun z hz => gMap_nat h n z hz)
set_option maxRecDepth 20000 in
set_option maxHeartbeats 4000000 in
theorem implCB_any (s s2 : ByteArray) (v v2 vz : Value) (rs rb : List Rg) (zs : List Int) (w : World) (h : RingsW w v rs) (h2 : RingsW w v2 rb) (hs : s.size ≤ maxLen) (hs2 : s2.size ≤ maxLen) (hz : IntsAt w vz zs) :
    Calls Try.prog 43 #[.agg #[.string s, v], .agg #[.string s2, v2], vz] w (CU (cbL s rs s2 rb zs) (cbC s rs s2 rb zs) w) := by
  obtain ⟨i0, hi, hz0, hz1, hz2⟩ := info_parts infoC
  have hba := (below_al w (.cells #[.string s, v] 45)).alloc (by simp) (.cells #[.string s2, v2] 45)
  have hla : w.heap.size < ((w.alloc (.cells #[.string s, v] 45)).alloc (.cells #[.string s2, v2] 45)).heap.size := by simp <;> omega
  have hlb : w.heap.size + 1 < ((w.alloc (.cells #[.string s, v] 45)).alloc (.cells #[.string s2, v2] 45)).heap.size := by simp
  have p0 : ((w.alloc (.cells #[.string s, v] 45)).alloc (.cells #[.string s2, v2] 45)).cell? ⟨w.heap.size, 0, none⟩ = some (.string s) := by go_simp
  have p1 : ((w.alloc (.cells #[.string s, v] 45)).alloc (.cells #[.string s2, v2] 45)).cell? ⟨w.heap.size, 1, none⟩ = some v := by go_simp
  have p2 : ((w.alloc (.cells #[.string s, v] 45)).alloc (.cells #[.string s2, v2] 45)).cell? ⟨w.heap.size + 1, 0, none⟩ = some (.string s2) := by go_simp
  have p3 : ((w.alloc (.cells #[.string s, v] 45)).alloc (.cells #[.string s2, v2] 45)).cell? ⟨w.heap.size + 1, 1, none⟩ = some v2 := by go_simp
  have HON := Lib.hid (onLathe_any s v vz rs zs _ (rings_kept hba h.1) hs (ints_kept hba hz))
  have HBA := Lib.hid hba
  have HVP := Lib.hid (fun W (hW : Below w.heap.size w W) => implValidP_any s2 v2 rb W (rings_kept hW h2.1) hs2)
  rcases Bool.eq_false_or_eq_true (lathB s rs zs) with q1 | q1
  rotate_left
  · have HA := Lib.hid (cb_1 (s := s) (s2 := s2) (rs := rs) (rb := rb) (zs := zs) (fun h => by rw [q1] at h; cases h.1))
    have HV := Lib.hid (zb_not (v := v) (vz := vz) q1)
    rw [HV.out, q1] at HON
    rw [HA.out.1, HA.out.2]
    obtain ⟨av, cv, rfl⟩ := rings_form h.1
    obtain ⟨av2, cv2, rfl⟩ := rings_form h2.1
    obtain ⟨az, cz, rfl⟩ := ints_form hz
    clear hba h h2 hz q1 HV HVP
    generalize rs.length = n at *
    generalize rb.length = n2 at *
    generalize zs.length = nz at *
    go_enter Try.func43, Try.ntmps43
    go_wp2_with fail
    generalize ((w.alloc (.cells #[.string s, .slice av n cv] 45)).alloc (.cells #[.string s2, .slice av2 n2 cv2] 45)) = wA at *
    refine HON.out.mono ?_
    rintro e w1 ⟨rfl, hb⟩
    have HB1 := Lib.hid (below_of HBA.out hb HBA.out.size)
    have HPP1 := Lib.hid (show (w1.cell? ⟨w.heap.size, 0, none⟩ = some (.string s) ∧ w1.cell? ⟨w.heap.size, 1, none⟩ = some (.slice av n cv)) ∧ w1.cell? ⟨w.heap.size + 1, 0, none⟩ = some (.string s2) ∧ w1.cell? ⟨w.heap.size + 1, 1, none⟩ = some (.slice av2 n2 cv2) from ⟨⟨(below_cell hb _ _ hla).trans p0, (below_cell hb _ _ hla).trans p1⟩, (below_cell hb _ _ hlb).trans p2, (below_cell hb _ _ hlb).trans p3⟩)
    have hl1 := Nat.lt_of_lt_of_le hla hb.size
    have hl2 := Nat.lt_of_lt_of_le hlb hb.size
    clear hb p0 p1 p2 p3
    obtain ⟨⟨a0, a1⟩, a2, a3⟩ := HPP1.out
    have HB2 := Lib.hid (below_of HB1.out (below_al w1 (.cells #[.string ⟨#[]⟩, .slice none 0 0, .slice none 0 0] 86)) HB1.out.size)
    go_wp2
    go_ret2
    exact ⟨.slice none 0 0, rfl, .inl ⟨rfl, rfl⟩, HB2.out⟩
  have HV := Lib.hid (zb_yes (v := v) (vz := vz) q1)
  rw [HV.out, q1] at HON
  rcases Bool.eq_false_or_eq_true (profB s2 rb) with q2 | q2
  rotate_left
  · have HA := Lib.hid (cb_1 (s := s) (s2 := s2) (rs := rs) (rb := rb) (zs := zs) (fun h => by rw [q2] at h; cases h.2))
    rw [q2] at HVP
    rw [HA.out.1, HA.out.2]
    obtain ⟨av, cv, rfl⟩ := rings_form h.1
    obtain ⟨av2, cv2, rfl⟩ := rings_form h2.1
    obtain ⟨az, cz, rfl⟩ := ints_form hz
    clear hba h h2 hz q1 q2 HV
    generalize rs.length = n at *
    generalize rb.length = n2 at *
    generalize zs.length = nz at *
    go_enter Try.func43, Try.ntmps43
    go_wp2_with fail
    generalize ((w.alloc (.cells #[.string s, .slice av n cv] 45)).alloc (.cells #[.string s2, .slice av2 n2 cv2] 45)) = wA at *
    refine HON.out.mono ?_
    rintro e w1 ⟨rfl, hb⟩
    have HB1 := Lib.hid (below_of HBA.out hb HBA.out.size)
    have HPP1 := Lib.hid (show (w1.cell? ⟨w.heap.size, 0, none⟩ = some (.string s) ∧ w1.cell? ⟨w.heap.size, 1, none⟩ = some (.slice av n cv)) ∧ w1.cell? ⟨w.heap.size + 1, 0, none⟩ = some (.string s2) ∧ w1.cell? ⟨w.heap.size + 1, 1, none⟩ = some (.slice av2 n2 cv2) from ⟨⟨(below_cell hb _ _ hla).trans p0, (below_cell hb _ _ hla).trans p1⟩, (below_cell hb _ _ hlb).trans p2, (below_cell hb _ _ hlb).trans p3⟩)
    have hl1 := Nat.lt_of_lt_of_le hla hb.size
    have hl2 := Nat.lt_of_lt_of_le hlb hb.size
    clear hb p0 p1 p2 p3
    have hbx := below_al w1 (.cells #[.string s, .slice av n cv, .slice az nz cz] 86)
    have hlx := alloc_lt2 w1 (.cells #[.string s, .slice av n cv, .slice az nz cz] 86)
    have x2 : (w1.alloc (.cells #[.string s, .slice av n cv, .slice az nz cz] 86)).cell? ⟨w1.heap.size, 2, none⟩ = some (.slice az nz cz) := by go_simp
    have HBX := Lib.hid (below_of HB1.out hbx HB1.out.size)
    obtain ⟨⟨a0, a1⟩, a2, a3⟩ := HPP1.out
    have c0 := (below_cell hbx _ _ hl1).trans a0
    have c1 := (below_cell hbx _ _ hl1).trans a1
    have c2 := (below_cell hbx _ _ hl2).trans a2
    have c3 := (below_cell hbx _ _ hl2).trans a3
    have hm1 := Nat.lt_of_lt_of_le hl1 hbx.size
    have hm2 := Nat.lt_of_lt_of_le hl2 hbx.size
    clear hbx a0 a1 a2 a3
    go_wp2_with fail
    generalize (w1.alloc (.cells #[.string s, .slice av n cv, .slice az nz cz] 86)) = wx at *
    refine (HVP.out _ HBX.out).mono ?_
    rintro e w2 ⟨rfl, hb⟩
    have HB2 := Lib.hid (below_of HBX.out hb HBX.out.size)
    have d0 := (below_cell hb _ _ hm1).trans c0
    have d1 := (below_cell hb _ _ hm1).trans c1
    have d2 := (below_cell hb _ _ hm2).trans c2
    have d3 := (below_cell hb _ _ hm2).trans c3
    have y2 := (below_cell hb _ _ hlx).trans x2
    have hn1 := Nat.lt_of_lt_of_le hm1 hb.size
    have hn2 := Nat.lt_of_lt_of_le hm2 hb.size
    have hny := Nat.lt_of_lt_of_le hlx hb.size
    clear hb c0 c1 c2 c3 x2
    go_wp2
    go_ret2
    exact ⟨.slice none 0 0, rfl, .inl ⟨rfl, rfl⟩, HB2.out⟩
  rw [q2] at HVP
  by_cases q3 : s = s2
  rotate_left
  · have HA := Lib.hid (cb_7 q1 q2 (fun h => q3 h.1))
    rw [HA.out.1, HA.out.2]
    have hq0 : (s.toList != s2.toList) = true := by simpa using fun e => q3 (bytes_listP e)
    have hq1 : (s.toList == s2.toList) = false := beq_eq_false_iff_ne.2 (fun e => q3 (bytes_listP e))
    obtain ⟨av, cv, rfl⟩ := rings_form h.1
    obtain ⟨av2, cv2, rfl⟩ := rings_form h2.1
    obtain ⟨az, cz, rfl⟩ := ints_form hz
    clear hba h h2 hz q1 q2 q3 HV
    generalize rs.length = n at *
    generalize rb.length = n2 at *
    generalize zs.length = nz at *
    go_enter Try.func43, Try.ntmps43
    go_wp2_with fail
    generalize ((w.alloc (.cells #[.string s, .slice av n cv] 45)).alloc (.cells #[.string s2, .slice av2 n2 cv2] 45)) = wA at *
    refine HON.out.mono ?_
    rintro e w1 ⟨rfl, hb⟩
    have HB1 := Lib.hid (below_of HBA.out hb HBA.out.size)
    have HPP1 := Lib.hid (show (w1.cell? ⟨w.heap.size, 0, none⟩ = some (.string s) ∧ w1.cell? ⟨w.heap.size, 1, none⟩ = some (.slice av n cv)) ∧ w1.cell? ⟨w.heap.size + 1, 0, none⟩ = some (.string s2) ∧ w1.cell? ⟨w.heap.size + 1, 1, none⟩ = some (.slice av2 n2 cv2) from ⟨⟨(below_cell hb _ _ hla).trans p0, (below_cell hb _ _ hla).trans p1⟩, (below_cell hb _ _ hlb).trans p2, (below_cell hb _ _ hlb).trans p3⟩)
    have hl1 := Nat.lt_of_lt_of_le hla hb.size
    have hl2 := Nat.lt_of_lt_of_le hlb hb.size
    clear hb p0 p1 p2 p3
    have hbx := below_al w1 (.cells #[.string s, .slice av n cv, .slice az nz cz] 86)
    have hlx := alloc_lt2 w1 (.cells #[.string s, .slice av n cv, .slice az nz cz] 86)
    have x2 : (w1.alloc (.cells #[.string s, .slice av n cv, .slice az nz cz] 86)).cell? ⟨w1.heap.size, 2, none⟩ = some (.slice az nz cz) := by go_simp
    have HBX := Lib.hid (below_of HB1.out hbx HB1.out.size)
    obtain ⟨⟨a0, a1⟩, a2, a3⟩ := HPP1.out
    have c0 := (below_cell hbx _ _ hl1).trans a0
    have c1 := (below_cell hbx _ _ hl1).trans a1
    have c2 := (below_cell hbx _ _ hl2).trans a2
    have c3 := (below_cell hbx _ _ hl2).trans a3
    have hm1 := Nat.lt_of_lt_of_le hl1 hbx.size
    have hm2 := Nat.lt_of_lt_of_le hl2 hbx.size
    clear hbx a0 a1 a2 a3
    go_wp2_with fail
    generalize (w1.alloc (.cells #[.string s, .slice av n cv, .slice az nz cz] 86)) = wx at *
    refine (HVP.out _ HBX.out).mono ?_
    rintro e w2 ⟨rfl, hb⟩
    have HB2 := Lib.hid (below_of HBX.out hb HBX.out.size)
    have d0 := (below_cell hb _ _ hm1).trans c0
    have d1 := (below_cell hb _ _ hm1).trans c1
    have d2 := (below_cell hb _ _ hm2).trans c2
    have d3 := (below_cell hb _ _ hm2).trans c3
    have y2 := (below_cell hb _ _ hlx).trans x2
    have hn1 := Nat.lt_of_lt_of_le hm1 hb.size
    have hn2 := Nat.lt_of_lt_of_le hm2 hb.size
    have hny := Nat.lt_of_lt_of_le hlx hb.size
    clear hb c0 c1 c2 c3 x2
    go_wp2
    go_ret2
    exact ⟨.slice none 0 0, rfl, .inl ⟨rfl, rfl⟩, HB2.out⟩
  subst q3
  have hq0 : (s.toList != s.toList) = false := by simp
  have hq1 : (s.toList == s.toList) = true := by simp
  by_cases q4 : rs.length = rb.length
  rotate_left
  · have HA := Lib.hid (cb_7 q1 q2 (fun h => q4 h.2))
    rw [HA.out.1, HA.out.2]
    have hne : ((rs.length : Int) != (rb.length : Int)) = true := by simpa using (show ¬ (rs.length : Int) = rb.length by omega)
    obtain ⟨av, cv, rfl⟩ := rings_form h.1
    obtain ⟨av2, cv2, rfl⟩ := rings_form h2.1
    obtain ⟨az, cz, rfl⟩ := ints_form hz
    clear hba h h2 hz q1 q2 q4 HV
    generalize rs.length = n at *
    generalize rb.length = n2 at *
    generalize zs.length = nz at *
    go_enter Try.func43, Try.ntmps43
    go_wp2_with fail
    generalize ((w.alloc (.cells #[.string s, .slice av n cv] 45)).alloc (.cells #[.string s, .slice av2 n2 cv2] 45)) = wA at *
    refine HON.out.mono ?_
    rintro e w1 ⟨rfl, hb⟩
    have HB1 := Lib.hid (below_of HBA.out hb HBA.out.size)
    have HPP1 := Lib.hid (show (w1.cell? ⟨w.heap.size, 0, none⟩ = some (.string s) ∧ w1.cell? ⟨w.heap.size, 1, none⟩ = some (.slice av n cv)) ∧ w1.cell? ⟨w.heap.size + 1, 0, none⟩ = some (.string s) ∧ w1.cell? ⟨w.heap.size + 1, 1, none⟩ = some (.slice av2 n2 cv2) from ⟨⟨(below_cell hb _ _ hla).trans p0, (below_cell hb _ _ hla).trans p1⟩, (below_cell hb _ _ hlb).trans p2, (below_cell hb _ _ hlb).trans p3⟩)
    have hl1 := Nat.lt_of_lt_of_le hla hb.size
    have hl2 := Nat.lt_of_lt_of_le hlb hb.size
    clear hb p0 p1 p2 p3
    have hbx := below_al w1 (.cells #[.string s, .slice av n cv, .slice az nz cz] 86)
    have hlx := alloc_lt2 w1 (.cells #[.string s, .slice av n cv, .slice az nz cz] 86)
    have x2 : (w1.alloc (.cells #[.string s, .slice av n cv, .slice az nz cz] 86)).cell? ⟨w1.heap.size, 2, none⟩ = some (.slice az nz cz) := by go_simp
    have HBX := Lib.hid (below_of HB1.out hbx HB1.out.size)
    obtain ⟨⟨a0, a1⟩, a2, a3⟩ := HPP1.out
    have c0 := (below_cell hbx _ _ hl1).trans a0
    have c1 := (below_cell hbx _ _ hl1).trans a1
    have c2 := (below_cell hbx _ _ hl2).trans a2
    have c3 := (below_cell hbx _ _ hl2).trans a3
    have hm1 := Nat.lt_of_lt_of_le hl1 hbx.size
    have hm2 := Nat.lt_of_lt_of_le hl2 hbx.size
    clear hbx a0 a1 a2 a3
    go_wp2_with fail
    generalize (w1.alloc (.cells #[.string s, .slice av n cv, .slice az nz cz] 86)) = wx at *
    refine (HVP.out _ HBX.out).mono ?_
    rintro e w2 ⟨rfl, hb⟩
    have HB2 := Lib.hid (below_of HBX.out hb HBX.out.size)
    have d0 := (below_cell hb _ _ hm1).trans c0
    have d1 := (below_cell hb _ _ hm1).trans c1
    have d2 := (below_cell hb _ _ hm2).trans c2
    have d3 := (below_cell hb _ _ hm2).trans c3
    have y2 := (below_cell hb _ _ hlx).trans x2
    have hn1 := Nat.lt_of_lt_of_le hm1 hb.size
    have hn2 := Nat.lt_of_lt_of_le hm2 hb.size
    have hny := Nat.lt_of_lt_of_le hlx hb.size
    clear hb c0 c1 c2 c3 x2
    go_wp2
    go_ret2
    exact ⟨.slice none 0 0, rfl, .inl ⟨rfl, rfl⟩, HB2.out⟩
  have hprof := (lath_iff.1 q1).1
  have hfit := (lath_iff.1 q1).2
  obtain ⟨n1, n32⟩ := (prof_iff.1 hprof).2.1
  obtain ⟨z1, z8⟩ := (fit_facts hfit).1
  obtain ⟨b, off, cv, rfl, hbl, hcap, hr⟩ := ringsW_cells h n1
  obtain ⟨b2, off2, cv2, rfl, hbl2, hcap2, hr2⟩ := ringsW_cells h2 (by omega)
  obtain ⟨bz, oz, cz, rfl, hbz, hcz⟩ := ints_cellsT hz z1
  have HC0 := Lib.hid (fun hall => cb_0 q1 q2 ⟨rfl, q4⟩ hall)
  have HC3 := Lib.hid (fun hall => cb_3 q1 q2 ⟨rfl, q4⟩ hall)
  have HPA := Lib.hid (fun k (hk : k < zs.length) W (hW : Below w.heap.size w W) => part_any zs rs b off cv bz oz cz k W hfit hk (Nat.lt_of_lt_of_le hbl hW.size) hcap n32 (fun j hj => (below_cell hW _ _ hbz).trans (hcz j hj)))
  have HPB := Lib.hid (fun k (hk : k < zs.length) W (hW : Below w.heap.size w W) => part_any zs rb b2 off2 cv2 bz oz cz k W (by rw [← q4]; exact hfit) hk (Nat.lt_of_lt_of_le hbl2 hW.size) hcap2 (by omega) (fun j hj => (below_cell hW _ _ hbz).trans (hcz j hj)))
  have HST := Lib.hid (fun k (hk : k < zs.length) ca cb W (hW : Below w.heap.size w W) => stepsBetween_any (rs.drop (zBeg zs k)) (rb.drop (zBeg zs k)) b (off + zBeg zs k * 3) ca b2 (off2 + zBeg zs k * 3) cb (zLen zs rs.length k) W (by have := zone_span hfit k hk; unfold zLen; omega) (Nat.lt_of_lt_of_le hbl hW.size) (Nat.lt_of_lt_of_le hbl2 hW.size)
    (rings_sub (fun i hi => ringIn_keptB hW hbl (hr i hi)) _ _ (by have := zone_span hfit k hk; unfold zLen; omega))
    (rings_sub (fun i hi => ringIn_keptB hW hbl2 (hr2 i hi)) _ _ (by have := zone_span hfit k hk; unfold zLen; omega))
    (fun i hi => by rw [drop_getR]; exact prof_ring hprof _ (by have := zone_span hfit k hk; unfold zLen at hi; omega)))
  have HSTY := Lib.hid (fun k (hk : k < zs.length) ca cb W (hW : Below w.heap.size w W) (hok : BOk rs rb zs k) => (HST.out k hk ca cb W hW).mono (fun e w' hh => btw_yes (by have := zone_span hfit k hk; unfold zLen; omega) hok hh))
  have HSTN := Lib.hid (fun k (hk : k < zs.length) ca cb W (hW : Below w.heap.size w W) (hok : ¬ BOk rs rb zs k) => (HST.out k hk ca cb W hW).mono (fun e w' hh => btw_no (by have := zone_span hfit k hk; unfold zLen; omega) hok hh))
  have HBD := Lib.hid (show BAll rs rb zs ↔ ∀ z, z < zs.length → BOk rs rb zs z from Iff.rfl)
  have HLL := Lib.hid (listOf_len (bT rs rb zs))
  have HYES := Lib.hid (fun k (h : 0 < bT rs rb zs k) => listOf_yes (n := k) h)
  have HNO := Lib.hid (fun k (h : bT rs rb zs k ≤ 0) => listOf_no (f := bT rs rb zs) (n := k) (by omega))
  clear hba h h2 hz q1 q2 HV hprof hfit hbl hbl2 hcap hcap2 hr hr2 hbz hcz HST
  rw [← q4] at p3 HPB hla hlb p0 p1 p2 HON HBA HVP ⊢
  clear q4
  have hne : ((rs.length : Int) != (rs.length : Int)) = false := by simp
  generalize rs.length = n at *
  generalize zs.length = nz at *
  go_enter Try.func43, Try.ntmps43
  go_wp2_with fail
  generalize ((w.alloc (.cells #[.string s, .slice (some ⟨b, off, none⟩) n cv] 45)).alloc (.cells #[.string s, .slice (some ⟨b2, off2, none⟩) n cv2] 45)) = wA at *
  refine HON.out.mono ?_
  rintro e w1 ⟨rfl, hb⟩
  have HB1 := Lib.hid (below_of HBA.out hb HBA.out.size)
  have HPP1 := Lib.hid (show (w1.cell? ⟨w.heap.size, 0, none⟩ = some (.string s) ∧ w1.cell? ⟨w.heap.size, 1, none⟩ = some (.slice (some ⟨b, off, none⟩) n cv)) ∧ w1.cell? ⟨w.heap.size + 1, 0, none⟩ = some (.string s) ∧ w1.cell? ⟨w.heap.size + 1, 1, none⟩ = some (.slice (some ⟨b2, off2, none⟩) n cv2) from ⟨⟨(below_cell hb _ _ hla).trans p0, (below_cell hb _ _ hla).trans p1⟩, (below_cell hb _ _ hlb).trans p2, (below_cell hb _ _ hlb).trans p3⟩)
  have hl1 := Nat.lt_of_lt_of_le hla hb.size
  have hl2 := Nat.lt_of_lt_of_le hlb hb.size
  clear hb p0 p1 p2 p3
  have hbx := below_al w1 (.cells #[.string s, .slice (some ⟨b, off, none⟩) n cv, .slice (some ⟨bz, oz, none⟩) nz cz] 86)
  have hlx := alloc_lt2 w1 (.cells #[.string s, .slice (some ⟨b, off, none⟩) n cv, .slice (some ⟨bz, oz, none⟩) nz cz] 86)
  have x2 : (w1.alloc (.cells #[.string s, .slice (some ⟨b, off, none⟩) n cv, .slice (some ⟨bz, oz, none⟩) nz cz] 86)).cell? ⟨w1.heap.size, 2, none⟩ = some (.slice (some ⟨bz, oz, none⟩) nz cz) := by go_simp
  have HBX := Lib.hid (below_of HB1.out hbx HB1.out.size)
  obtain ⟨⟨a0, a1⟩, a2, a3⟩ := HPP1.out
  have c0 := (below_cell hbx _ _ hl1).trans a0
  have c1 := (below_cell hbx _ _ hl1).trans a1
  have c2 := (below_cell hbx _ _ hl2).trans a2
  have c3 := (below_cell hbx _ _ hl2).trans a3
  have hm1 := Nat.lt_of_lt_of_le hl1 hbx.size
  have hm2 := Nat.lt_of_lt_of_le hl2 hbx.size
  clear hbx a0 a1 a2 a3
  go_wp2_with fail
  generalize (w1.alloc (.cells #[.string s, .slice (some ⟨b, off, none⟩) n cv, .slice (some ⟨bz, oz, none⟩) nz cz] 86)) = wx at *
  refine (HVP.out _ HBX.out).mono ?_
  rintro e w2 ⟨rfl, hb⟩
  have HB2 := Lib.hid (below_of HBX.out hb HBX.out.size)
  have d0 := (below_cell hb _ _ hm1).trans c0
  have d1 := (below_cell hb _ _ hm1).trans c1
  have d2 := (below_cell hb _ _ hm2).trans c2
  have d3 := (below_cell hb _ _ hm2).trans c3
  have y2 := (below_cell hb _ _ hlx).trans x2
  have hn1 := Nat.lt_of_lt_of_le hm1 hb.size
  have hn2 := Nat.lt_of_lt_of_le hm2 hb.size
  have hny := Nat.lt_of_lt_of_le hlx hb.size
  clear hb c0 c1 c2 c3 x2
  have HM0 := Lib.hid (mapF_ext (g := gMap (bT rs rb zs) 0) (mapF_start w2) (fun z => gMap_zero _ z))
  have hmm := @run_makeMap Try.prog
  go_wp2
  go_loopw [44] (fun i wr => ∃ k : Nat, k ≤ nz ∧ i = .int .i64 k ∧ Hid (MapF wr w2.heap.size k (gMap (bT rs rb zs) k)) ∧ Hid (∀ z, z < k → BOk rs rb zs z) ∧ Hid (Below w2.heap.size w2 wr)) (fun i _ => nz - (intOf i).toNat)
  case atStart => exact ⟨0, by omega, rfl, HM0, Lib.hid (fun z hz => by omega), Lib.hid (below_al _ _)⟩
  case round =>
    obtain ⟨k, hk, rfl, HO, HOK, HB⟩ := hrel
    by_cases hlt : k < nz
    · have hk0 : (0 : Int) ≤ (k : Int) := by omega
      have hlt1 : (k : Int) < (nz : Int) := by omega
      have HBW := Lib.hid (below_of HB2.out HB.out HB2.out.size)
      have HSS := Lib.hid (fun W (hW : Below wr.heap.size wr W) => show W.cell? ⟨w1.heap.size, 2, none⟩ = some (.slice (some ⟨bz, oz, none⟩) nz cz) ∧ W.cell? ⟨w.heap.size, 1, none⟩ = some (.slice (some ⟨b, off, none⟩) n cv) ∧ W.cell? ⟨w.heap.size + 1, 1, none⟩ = some (.slice (some ⟨b2, off2, none⟩) n cv2) from ⟨(below_cell (below_of HB.out hW HB.out.size) _ _ hny).trans y2, (below_cell (below_of HB.out hW HB.out.size) _ _ hn1).trans d1, (below_cell (below_of HB.out hW HB.out.size) _ _ hn2).trans d3⟩)
      have hbd : Below wr.heap.size wr wr.drew := ⟨rfl, rfl, rfl, Nat.le_refl _, fun _ _ => rfl⟩
      by_cases hok : BOk rs rb zs k
      · have HOK2 := Lib.hid (show ∀ z, z < k + 1 → BOk rs rb zs z from fun z hz => by
          by_cases e : z = k
          · subst e; exact hok
          · exact HOK.out z (by omega))
        have hbt := hok.1
        go_wp2
        go_region_held3 (fun W => W.cell? ⟨w1.heap.size, 2, none⟩ = some (.slice (some ⟨bz, oz, none⟩) nz cz) ∧ W.cell? ⟨w.heap.size, 1, none⟩ = some (.slice (some ⟨b, off, none⟩) n cv) ∧ W.cell? ⟨w.heap.size + 1, 1, none⟩ = some (.slice (some ⟨b2, off2, none⟩) n cv2))
          (first | exact HSS.out _ hbd | exact HSS.out _ hbq2 | exact HSS.out _ hbq3 | exact HSS.out _ hbqa | exact HSS.out _ hbqb | assumption)
          (first
            | (go_at_call 93; refine (HPA.out k hlt _ (below_of HBW.out hbqb HBW.out.size)).mono ?_; rintro e wp ⟨⟨ca, rfl⟩, hbp⟩; have hbq2 := below_of hbqb hbp hbqb.size)
            | (go_at_call 93; refine (HPB.out k hlt _ (below_of HBW.out hbqa HBW.out.size)).mono ?_; rintro e wp ⟨⟨cb, rfl⟩, hbp⟩; have hbq2 := below_of hbqa hbp hbqa.size)
            | (go_at_call 93; refine (HPA.out k hlt _ (below_of HBW.out hbd HBW.out.size)).mono ?_; rintro e wq ⟨⟨ca, rfl⟩, hbr⟩; have hbqa := below_of hbd hbr hbd.size)
            | (go_at_call 93; refine (HPB.out k hlt _ (below_of HBW.out hbd HBW.out.size)).mono ?_; rintro e wq ⟨⟨cb, rfl⟩, hbr⟩; have hbqb := below_of hbd hbr hbd.size)
            | (go_at_call 92; refine (HSTY.out k hlt _ _ _ (below_of HBW.out hbq2 HBW.out.size) hok).mono ?_; rintro e w7 ⟨rfl, hb7⟩; have hbq3 := below_of hbq2 hb7 hbq2.size))
        have HM7 := Lib.hid (mapF_kept hbq3 HO.out)
        have HB7 := Lib.hid (below_of HB.out hbq3 HB.out.size)
        clear hb7 hbq3 hbd HSS
        obtain ⟨D, hown, hsm⟩ := HM7.out
        have hbk := hbt
        have hsm1 := sumsMap_put hsm (k : Int) (bT rs rb zs k) ⟨hk0, by omega⟩ (by rw [gMap_at]; omega) (fun z => gMap_next (bT rs rb zs) k z)
        rw [gMap_at, Int.zero_add] at hsm1
        have HSM1 := Lib.hid hsm1
        have hwk : (Lit.int .i64 (k : Int)).wf = true := WalkArith.wf_i64 (by omega)
        clear hok hsm hsm1 HM7
        have HBT := Lib.hid (show bT rs rb zs k = bT rs rb zs k from rfl)
        obtain ⟨t, ht⟩ : ∃ t, bT rs rb zs k = t := ⟨_, rfl⟩
        rw [ht] at HSM1 hbt hbk ⊢
        clear HBT
        have hml := hown.lt
        have hwt : (Lit.int .i64 t).wf = true := WalkArith.wf_i64 (by omega)
        go_wp2_with (at_mapUpdate; refine wpList_mapUpdate_own _ rfl _ _ _ 108 rfl 2 2 lawZ Try.underlying108 _ w2.heap.size k _ rfl hown (by unfold maxLen; omega) _ _ _ rfl rfl (keyOf_int_mk Try.underlying2 hwk) (.lit (.int .i64 t)) [] (plainElem_int Try.underlying2 hwt) ?_; intro w9 hown9 hgrow9)
        have HB9 := Lib.hid (HB7.out.grown hgrow9 HB7.out.size (fun j hj => by cases hj; exact Nat.le_refl _))
        have HM9 := Lib.hid (show MapF w9 w2.heap.size (k + 1) (gMap (bT rs rb zs) (k + 1)) from ⟨_, hown9, HSM1.out⟩)
        clear hown9 hgrow9
        go_wp2
        go_roundw
        case rel => exact ⟨k + 1, by omega, by go_num, HM9, HOK2, HB9⟩
        case measure => simp [intOf]; omega
      · have HA := Lib.hid (HC3.out (fun hall => hok (HBD.out.1 hall k hlt)))
        rw [HA.out.1, HA.out.2]
        go_wp2
        go_region_held3 (fun W => W.cell? ⟨w1.heap.size, 2, none⟩ = some (.slice (some ⟨bz, oz, none⟩) nz cz) ∧ W.cell? ⟨w.heap.size, 1, none⟩ = some (.slice (some ⟨b, off, none⟩) n cv) ∧ W.cell? ⟨w.heap.size + 1, 1, none⟩ = some (.slice (some ⟨b2, off2, none⟩) n cv2))
          (first | exact HSS.out _ hbd | exact HSS.out _ hbq2 | exact HSS.out _ hbq3 | exact HSS.out _ hbqa | exact HSS.out _ hbqb | assumption)
          (first
            | (go_at_call 93; refine (HPA.out k hlt _ (below_of HBW.out hbqb HBW.out.size)).mono ?_; rintro e wp ⟨⟨ca, rfl⟩, hbp⟩; have hbq2 := below_of hbqb hbp hbqb.size)
            | (go_at_call 93; refine (HPB.out k hlt _ (below_of HBW.out hbqa HBW.out.size)).mono ?_; rintro e wp ⟨⟨cb, rfl⟩, hbp⟩; have hbq2 := below_of hbqa hbp hbqa.size)
            | (go_at_call 93; refine (HPA.out k hlt _ (below_of HBW.out hbd HBW.out.size)).mono ?_; rintro e wq ⟨⟨ca, rfl⟩, hbr⟩; have hbqa := below_of hbd hbr hbd.size)
            | (go_at_call 93; refine (HPB.out k hlt _ (below_of HBW.out hbd HBW.out.size)).mono ?_; rintro e wq ⟨⟨cb, rfl⟩, hbr⟩; have hbqb := below_of hbd hbr hbd.size)
            | (go_at_call 92; refine (HSTN.out k hlt _ _ _ (below_of HBW.out hbq2 HBW.out.size) hok).mono ?_; rintro e w7 ⟨rfl, hb7⟩; have hbq3 := below_of hbq2 hb7 hbq2.size))
        have HB7 := Lib.hid (below_of HB2.out (below_of HB.out hbq3 HB.out.size) HB2.out.size)
        clear hb7 hbq3 hbd HSS
        go_wp2
        go_ret2
        exact ⟨.slice none 0 0, rfl, .inl ⟨rfl, rfl⟩, HB7.out⟩
    · obtain rfl : k = nz := by omega
      have HA := Lib.hid (HC0.out (HBD.out.2 HOK.out))
      rw [HA.out.1, HA.out.2]
      have HBF := Lib.hid (below_of HB2.out HB.out HB2.out.size)
      have HLG := Lib.hid (listOf_g (bT rs rb zs) k (by omega))
      go_wp2_with fail
      refine (cutsOf_any w2.heap.size k (gMap (bT rs rb zs) k) wr HO.out (by omega)).mono ?_
      rintro e w9 ⟨⟨v9, rfl, hv9⟩, hb9⟩
      rw [HLG.out] at hv9
      have HV := Lib.hid (cv_base hv9 HBF.out.size)
      have HB9 := Lib.hid (below_of HBF.out hb9 HBF.out.size)
      clear hv9 hb9
      go_wp2
      go_ret2
      exact ⟨_, ret_cb (by rw [HA.out.1]), by rw [HA.out.2]; exact HV.out, HB9.out⟩
end Go.Proofs.Ytpllmehcndinkaa
