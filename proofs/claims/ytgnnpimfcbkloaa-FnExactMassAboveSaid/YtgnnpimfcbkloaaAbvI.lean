/- The mass above a height: the program's walk. -/
import Derived.Test.YtgnnpimfcbkloaaSumRAbv
import Derived.Test.YtgnnpimfcbkloaaMasses
import Derived.Test.YtgnnpimfcbkloaaHgtI
set_option linter.unusedVariables false
namespace Go.Proofs.Ytgnnpimfcbkloaa
open Go.ChangeShapes Go.WideShapes Go.ChangeAt Go.RowKit

def abvP (rs : List Rg) (d h : Int) : Int := sumF (aboveV h d) 0 rs
def askA (s : ByteArray) (rs : List Rg) (d h : Int) : Int := if askD s rs d = 0 then (if inB h 0 (heights rs) = true then 0 else 2) else askD s rs d
def abvC (s : ByteArray) (rs : List Rg) (d h : Int) : Int := if askA s rs d h = 0 then abvP rs d h else 0
theorem abv_ok {s : ByteArray} {rs : List Rg} {d h : Int} (k : askA s rs d h = 0) : abvC s rs d h = abvP rs d h := by unfold abvC; rw [if_pos k]
theorem abv_no {s : ByteArray} {rs : List Rg} {d h : Int} (k : askA s rs d h ≠ 0) : abvC s rs d h = 0 := by unfold abvC; rw [if_neg k]
theorem askA_0 {s : ByteArray} {rs : List Rg} {d h : Int} (h1 : askD s rs d = 0) (h2 : inB h 0 (heights rs) = true) : askA s rs d h = 0 := by unfold askA; rw [if_pos h1, if_pos h2]
theorem askA_2 {s : ByteArray} {rs : List Rg} {d h : Int} (h1 : askD s rs d = 0) (h2 : inB h 0 (heights rs) = false) : askA s rs d h = 2 := by unfold askA; rw [if_pos h1, h2]; rfl
theorem askA_n {s : ByteArray} {rs : List Rg} {d h : Int} (h1 : askD s rs d ≠ 0) : askA s rs d h = askD s rs d := by unfold askA; rw [if_neg h1]
theorem massR_bdA {r : Rg} {d : Int} (h : ringB r = true) (d0 : 0 ≤ d) (d1 : d ≤ 20000) : 0 ≤ massV (volR r) d ∧ massV (volR r) d ≤ 21205752750 := by
  have hv := vol_bd h
  exact (mass_bd (by omega) hv.2 d0 d1).2
theorem aboveV_bd {r : Rg} {d h b : Int} (hr : ringB r = true) (d0 : 0 ≤ d) (d1 : d ≤ 20000) : 0 ≤ aboveV h d b r ∧ aboveV h d b r ≤ 21205752750 := by
  unfold aboveV
  split
  · omega
  · exact massR_bdA hr d0 d1
set_option maxRecDepth 20000 in
set_option maxHeartbeats 1000000 in
theorem implMassAbove_any (s : ByteArray) (v : Value) (rs : List Rg) (d h : Int) (w : World) (hr : RingsAt w v rs) (hs : s.size ≤ maxLen) :
    Calls Try.prog 40 #[.agg #[.string s, v], .int .i64 d, .int .i64 h] w fun e w' => e = .returned (.tuple #[.int .i64 (abvC s rs d h), .int .i64 (askA s rs d h)]) ∧ Below w.heap.size w w' := by
  have HI := Lib.hid hr
  obtain ⟨a, c, rfl⟩ := rings_form hr
  clear hr
  have e0 : (((w.alloc (.cells #[.string s, .slice a rs.length c] 36)).alloc (.cells #[.int .i64 d] 2)).alloc (.cells #[.int .i64 h] 2)).cell? ⟨w.heap.size, 0, none⟩ = some (.string s) := by go_simp
  have e1 : (((w.alloc (.cells #[.string s, .slice a rs.length c] 36)).alloc (.cells #[.int .i64 d] 2)).alloc (.cells #[.int .i64 h] 2)).cell? ⟨w.heap.size, 1, none⟩ = some (.slice a rs.length c) := by go_simp
  have e2 : (((w.alloc (.cells #[.string s, .slice a rs.length c] 36)).alloc (.cells #[.int .i64 d] 2)).alloc (.cells #[.int .i64 h] 2)).cell? ⟨w.heap.size + 1, 0, none⟩ = some (.int .i64 d) := by go_simp
  have e3 : (((w.alloc (.cells #[.string s, .slice a rs.length c] 36)).alloc (.cells #[.int .i64 d] 2)).alloc (.cells #[.int .i64 h] 2)).cell? ⟨w.heap.size + 1 + 1, 0, none⟩ = some (.int .i64 h) := by go_simp
  have hal : w.heap.size + 1 + 1 < (((w.alloc (.cells #[.string s, .slice a rs.length c] 36)).alloc (.cells #[.int .i64 d] 2)).alloc (.cells #[.int .i64 h] 2)).heap.size := by simp
  have HBA := Lib.hid ((((Below.refl w.heap.size w).alloc (Nat.le_refl _) (.cells #[.string s, .slice a rs.length c] 36)).alloc (by simp) (.cells #[.int .i64 d] 2)).alloc (by simp; omega) (.cells #[.int .i64 h] 2))
  have HIA := Lib.hid (rings_kept HBA.out HI.out)
  by_cases hk : askD s rs d = 0
  · obtain ⟨hp, d0, d1⟩ := askD_ok hk
    have HK := Lib.hid hk
    have HH := Lib.hid (show hgtR s rs = heights rs ∧ codeP s rs = 0 by unfold hgtR codeP; rw [if_pos hp, if_pos hp]; exact ⟨rfl, rfl⟩)
    have HS := Lib.hid (fun (w : World) (p q : Nat) (hc : w.cell? ⟨p, 0, none⟩ = some (.int .i64 h)) (hpl : p < w.heap.size) (hc2 : w.cell? ⟨q, 0, none⟩ = some (.int .i64 d)) (hql : q < w.heap.size) (hr : RingsAt w (.slice a rs.length c) rs) => sumRings_abv p q (aboveV h d) 21205752750 (by omega) (fun b r _ _ hr => aboveV_bd hr (by omega) d1) s (.slice a rs.length c) rs w hr hs hp (fun b x y z W _ _ hr hW => clo_massabove x y z b d h p q W hr (by omega) d1 ((below_cell hW _ _ hpl).trans hc) (Nat.lt_of_lt_of_le hpl hW.size) ((below_cell hW _ _ hql).trans hc2) (Nat.lt_of_lt_of_le hql hW.size)))
    have HHB := Lib.hid (heights_le hp rs.length (Nat.le_refl _))
    rcases Bool.eq_false_or_eq_true (inB h 0 (heights rs)) with hin | hin
    · have HA := Lib.hid (askA_0 hk hin)
      have HM := Lib.hid (abv_ok (askA_0 hk hin))
      have HIN := Lib.hid hin
      clear hp hk hin
      generalize hn : rs.length = n at *
      clear hn
      go_enter Try.func40, Try.ntmps40
      go_wp2_with fail
      generalize (((w.alloc (.cells #[.string s, .slice a n c] 36)).alloc (.cells #[.int .i64 d] 2)).alloc (.cells #[.int .i64 h] 2)) = wA at *
      refine (weighing_any s _ rs d _ HIA.out hs).mono ?_
      rintro e w1 ⟨rfl, hb⟩
      rw [HK.out]
      have q0 := (below_cell hb _ _ (by omega)).trans e0
      have q1 := (below_cell hb _ _ (by omega)).trans e1
      have q2 := (below_cell hb _ _ (by omega)).trans e2
      have q3 := (below_cell hb _ _ hal).trans e3
      have hl1 := Nat.lt_of_lt_of_le hal hb.size
      have HI1 := Lib.hid (rings_kept hb HIA.out)
      have HB := Lib.hid (below_of HBA.out hb HBA.out.size)
      clear hb e0 e1 e2 e3
      go_wp2_with fail
      refine (implHeightOf_any s _ rs _ HI1.out hs).mono ?_
      rintro e w2 ⟨rfl, hb⟩
      rw [HH.out.1, HH.out.2]
      have r0 := (below_cell hb _ _ (by omega)).trans q0
      have r1 := (below_cell hb _ _ (by omega)).trans q1
      have r2 := (below_cell hb _ _ (by omega)).trans q2
      have r3 := (below_cell hb _ _ hl1).trans q3
      have hl2 := Nat.lt_of_lt_of_le hl1 hb.size
      have HI2 := Lib.hid (rings_kept hb HI1.out)
      have HB2 := Lib.hid (below_of HB.out hb HB.out.size)
      clear hb q0 q1 q2 q3
      go_wp2_with fail
      refine (within_i64 _ _ [h] _ 0 1 1 _ rfl (by omega) (cell_int _ _ _ _ (by simp))).mono ?_
      rintro e w3 ⟨rfl, rfl⟩
      rw [all_one, HIN.out]
      have hal3 := below_al w2 (.cells #[.int .i64 h] 2)
      have s0 := (below_cell hal3 _ _ (by omega)).trans r0
      have s1 := (below_cell hal3 _ _ (by omega)).trans r1
      have s2 := (below_cell hal3 _ _ (show w.heap.size + 1 < _ by omega)).trans r2
      have s3 := (below_cell hal3 _ _ hl2).trans r3
      have hl3 := Nat.lt_of_lt_of_le hl2 hal3.size
      have HI3 := Lib.hid (rings_kept hal3 HI2.out)
      have HB3 := Lib.hid (below_of HB2.out hal3 HB2.out.size)
      clear hal3 r0 r1 r2 r3
      generalize w2.alloc (.cells #[.int .i64 h] 2) = w3 at *
      go_wp2_with fail
      refine (HS.out w3 (w.heap.size + 1 + 1) (w.heap.size + 1) s3 hl3 s2 (by omega) HI3.out).mono ?_
      rintro e w4 ⟨rfl, hb⟩
      have HB4 := Lib.hid (below_of HB3.out hb HB3.out.size)
      clear hb
      have HQ := Lib.hid (show sumF (aboveV h d) 0 rs = abvP rs d h from rfl)
      rw [HQ.out, ← HM.out]
      obtain ⟨y, hy⟩ : ∃ y, abvC s rs d h = y := ⟨_, rfl⟩
      have HY := Lib.hid hy
      rw [hy]
      clear hy
      go_wp2
      go_ret2
      exact ⟨ret_two HY.out.symm HA.out.symm, HB4.out⟩
    · have HA := Lib.hid (askA_2 hk hin)
      have HM := Lib.hid (abv_no (s := s) (rs := rs) (d := d) (h := h) (by rw [askA_2 hk hin]; decide))
      have HIN := Lib.hid hin
      clear hp hk hin
      generalize hn : rs.length = n at *
      clear hn
      go_enter Try.func40, Try.ntmps40
      go_wp2_with fail
      generalize (((w.alloc (.cells #[.string s, .slice a n c] 36)).alloc (.cells #[.int .i64 d] 2)).alloc (.cells #[.int .i64 h] 2)) = wA at *
      refine (weighing_any s _ rs d _ HIA.out hs).mono ?_
      rintro e w1 ⟨rfl, hb⟩
      rw [HK.out]
      have q0 := (below_cell hb _ _ (by omega)).trans e0
      have q1 := (below_cell hb _ _ (by omega)).trans e1
      have q2 := (below_cell hb _ _ (by omega)).trans e2
      have q3 := (below_cell hb _ _ hal).trans e3
      have hl1 := Nat.lt_of_lt_of_le hal hb.size
      have HI1 := Lib.hid (rings_kept hb HIA.out)
      have HB := Lib.hid (below_of HBA.out hb HBA.out.size)
      clear hb e0 e1 e2 e3
      go_wp2_with fail
      refine (implHeightOf_any s _ rs _ HI1.out hs).mono ?_
      rintro e w2 ⟨rfl, hb⟩
      rw [HH.out.1, HH.out.2]
      have r0 := (below_cell hb _ _ (by omega)).trans q0
      have r1 := (below_cell hb _ _ (by omega)).trans q1
      have r2 := (below_cell hb _ _ (by omega)).trans q2
      have r3 := (below_cell hb _ _ hl1).trans q3
      have hl2 := Nat.lt_of_lt_of_le hl1 hb.size
      have HI2 := Lib.hid (rings_kept hb HI1.out)
      have HB2 := Lib.hid (below_of HB.out hb HB.out.size)
      clear hb q0 q1 q2 q3
      go_wp2_with fail
      refine (within_i64 _ _ [h] _ 0 1 1 _ rfl (by omega) (cell_int _ _ _ _ (by simp))).mono ?_
      rintro e w3 ⟨rfl, rfl⟩
      rw [all_one, HIN.out]
      have hal3 := below_al w2 (.cells #[.int .i64 h] 2)
      have s0 := (below_cell hal3 _ _ (by omega)).trans r0
      have s1 := (below_cell hal3 _ _ (by omega)).trans r1
      have s2 := (below_cell hal3 _ _ (show w.heap.size + 1 < _ by omega)).trans r2
      have s3 := (below_cell hal3 _ _ hl2).trans r3
      have hl3 := Nat.lt_of_lt_of_le hl2 hal3.size
      have HI3 := Lib.hid (rings_kept hal3 HI2.out)
      have HB3 := Lib.hid (below_of HB2.out hal3 HB2.out.size)
      clear hal3 r0 r1 r2 r3
      generalize w2.alloc (.cells #[.int .i64 h] 2) = w3 at *
      go_wp2
      go_ret2
      exact ⟨ret_two HM.out.symm HA.out.symm, HB3.out⟩
  · have HA := Lib.hid (askA_n (h := h) hk)
    have HM := Lib.hid (abv_no (s := s) (rs := rs) (d := d) (h := h) (by rw [askA_n hk]; exact hk))
    obtain ⟨k, hk2⟩ : ∃ k, askD s rs d = k := ⟨_, rfl⟩
    rw [hk2] at hk
    have HK := Lib.hid hk2
    clear hk2
    have hkb : (k != 0) = true := by simpa using hk
    generalize hn : rs.length = n at *
    clear hn
    go_enter Try.func40, Try.ntmps40
    go_wp2_with fail
    generalize (((w.alloc (.cells #[.string s, .slice a n c] 36)).alloc (.cells #[.int .i64 d] 2)).alloc (.cells #[.int .i64 h] 2)) = wA at *
    refine (weighing_any s _ rs d _ HIA.out hs).mono ?_
    rintro e w1 ⟨rfl, hb⟩
    rw [HK.out]
    have HB := Lib.hid (below_of HBA.out hb HBA.out.size)
    clear hb e0 e1 e2 e3
    go_wp2
    go_ret2
    exact ⟨ret_two HM.out.symm (HA.out.trans HK.out).symm, HB.out⟩
end Go.Proofs.Ytgnnpimfcbkloaa
