/- The masses of all rings: both programs' answers. -/
import Derived.Test.YtndmakimkghihaaMasI
import Derived.Test.YtndmakimkghihaaHand
set_option linter.unusedVariables false
namespace Go.Proofs.Ytndmakimkghihaa
open Go.ChangeShapes Go.WideShapes Go.ChangeAt Go.RowKit

def rmL (s : ByteArray) (rs : List Rg) (d : Int) : List Int := if askD s rs d = 0 then massL rs d else []
theorem rm_ok {s : ByteArray} {rs : List Rg} {d : Int} (h : askD s rs d = 0) : rmL s rs d = massL rs d := by unfold rmL; rw [if_pos h]
theorem rm_no {s : ByteArray} {rs : List Rg} {d : Int} (h : askD s rs d ≠ 0) : rmL s rs d = [] := by unfold rmL; rw [if_neg h]
theorem rm_len (s : ByteArray) (rs : List Rg) (d : Int) : (rmL s rs d).length ≤ 64 := by
  by_cases h : askD s rs d = 0
  · rw [rm_ok h, massL_len]
    obtain ⟨-, ⟨-, n2⟩, -, -⟩ := prof_iff.1 (askD_ok h).1
    omega
  · rw [rm_no h]; simp
theorem ret_ivM {v : Value} {a b : Int} (h : a = b) : Ending.returned (.tuple #[v, .int .i64 a]) = .returned (.tuple #[v, .int .i64 b]) := by rw [h]
set_option maxRecDepth 20000 in
set_option maxHeartbeats 2000000 in
theorem implRM_any (s : ByteArray) (v : Value) (rs : List Rg) (d : Int) (w : World) (h : RingsAt w v rs) (hs : s.size ≤ maxLen) :
    Calls Try.prog 49 #[.agg #[.string s, v], .int .i64 d] w (IntU (rmL s rs d) (askD s rs d) w) := by
  by_cases h0 : askD s rs d = 0
  · rw [rm_ok h0, h0]
    obtain ⟨hp, d0, d1⟩ := askD_ok h0
    exact implRM_ok s v rs d w h hs hp (inB_iff.2 ⟨d0, d1⟩)
  · have HNO := Lib.hid (rm_no h0)
    have HI := Lib.hid h
    obtain ⟨a, c, rfl⟩ := rings_form h
    clear h
    have hbA := (below_al w (.cells #[.string s, .slice a rs.length c] 48)).alloc (by simp) (.cells #[.int .i64 d] 2)
    have HW := Lib.hid (weighing_any s (.slice a rs.length c) rs d _ (rings_kept hbA HI.out) hs)
    have HBA := Lib.hid hbA
    clear hbA
    generalize rs.length = n at *
    obtain ⟨z, hz⟩ : ∃ z, askD s rs d = z := ⟨_, rfl⟩
    have HZ := Lib.hid hz
    rw [hz] at h0
    have hne : (z != 0) = true := bne_iff_ne.2 h0
    clear hz h0
    go_enter Try.func49, Try.ntmps49
    go_wp2_with fail
    refine HW.out.mono ?_
    rintro e w1 ⟨rfl, hb⟩
    rw [HZ.out]
    have HB := Lib.hid (below_of HBA.out hb HBA.out.size)
    clear hb
    go_wp2
    go_ret2
    exact ⟨.slice none 0 0, ret_ivM HZ.out.symm, .inl ⟨rfl, HNO.out⟩, HB.out⟩
set_option maxRecDepth 20000 in
set_option maxHeartbeats 2000000 in
theorem specRM_any (s : ByteArray) (v : Value) (rs : List Rg) (d : Int) (w : World) (h : RingsAt w v rs) (hs : s.size ≤ maxLen) :
    Calls Try.prog 48 #[.agg #[.string s, v], .int .i64 d] w (IntU (rmL s rs d) (askD s rs d) w) := by
  have hal := alloc_lt2 w (.cells #[.string s, v] 48)
  have hpa := prof_alloc w s v 48
  have hba := below_al w (.cells #[.string s, v] 48)
  have HA := Lib.hid (l06Ask_any w.heap.size s v rs d _ hpa (Lib.hid (rings_kept hba h)) hs)
  have HBA := Lib.hid hba
  by_cases h0 : askD s rs d = 0
  · have HR := Lib.hid (rm_ok h0)
    have H0 := Lib.hid h0
    obtain ⟨hp, d0, d1⟩ := askD_ok h0
    obtain ⟨-, ⟨n1, n2⟩, -, -⟩ := prof_iff.1 hp
    have HLEN := Lib.hid (massL_len rs d)
    have HM := Lib.hid (fun W (hW : Below (w.alloc (.cells #[.string s, v] 48)).heap.size (w.alloc (.cells #[.string s, v] 48)) W) => show Calls Try.prog 102 #[.pointer (some ⟨w.heap.size, 0, none⟩), .int .i64 d] W fun e w' => (∃ v, e = .returned v ∧ Iv w' W.heap.size v (massL rs d)) ∧ Below W.heap.size W w' by
      have hI := rings_kept hW (rings_kept hba h)
      obtain ⟨a, c, rfl⟩ := rings_form hI
      obtain ⟨b, off, rfl, hbl, hr⟩ := rings_lie rfl n1 hI
      refine (l06Masses_some w.heap.size b off c rs.length s rs d W rfl n1 n2 (Nat.lt_of_lt_of_le hal hW.size) hbl (prof_keep hW hal hpa) hr (fun i hi => prof_ring hp i hi) (by omega) d1).mono ?_
      rintro e w' ⟨⟨v', rfl, g, cap, rfl, hg, ho⟩, hb⟩
      refine ⟨⟨_, rfl, .inr ⟨g, cap, by rw [massL_len], hg, ?_⟩⟩, hb⟩
      rw [massL_len]; exact ho)
    clear hpa hba h h0 hp d0 d1
    go_enter Try.func48, Try.ntmps48
    go_wp2_with fail
    generalize w.alloc (.cells #[.string s, v] 48) = wA at *
    refine HA.out.mono ?_
    rintro e w1 ⟨rfl, hb⟩
    rw [H0.out]
    have HB1 := Lib.hid hb
    clear hb
    go_wp2_with fail
    refine (HM.out _ HB1.out).mono ?_
    rintro e w2 ⟨⟨vr, rfl, ho⟩, hb⟩
    have HO := Lib.hid (iv_base ho (show w.heap.size ≤ w1.heap.size from Nat.le_trans HBA.out.size HB1.out.size))
    have HB2 := Lib.hid (below_of (below_of HBA.out HB1.out HBA.out.size) hb (Nat.le_trans HBA.out.size HB1.out.size))
    clear hb ho
    go_wp2
    go_ret2
    exact ⟨vr, ret_ivM H0.out.symm, by rw [HR.out]; exact HO.out, HB2.out⟩
  · have HNO := Lib.hid (rm_no h0)
    obtain ⟨z, hz⟩ : ∃ z, askD s rs d = z := ⟨_, rfl⟩
    have HZ := Lib.hid hz
    rw [hz] at h0
    have hne : (z != 0) = true := bne_iff_ne.2 h0
    clear hpa hba h hz h0
    go_enter Try.func48, Try.ntmps48
    go_wp2_with fail
    generalize w.alloc (.cells #[.string s, v] 48) = wA at *
    refine HA.out.mono ?_
    rintro e w1 ⟨rfl, hb⟩
    rw [HZ.out]
    have HB1 := Lib.hid (below_of HBA.out hb HBA.out.size)
    clear hb
    go_wp2
    go_ret2
    exact ⟨.slice none 0 0, ret_ivM HZ.out.symm, .inl ⟨rfl, HNO.out⟩, HB1.out⟩
end Go.Proofs.Ytndmakimkghihaa
