/- The square of the diameter at the lip: the program's. -/
import Derived.Test.YtpjopfhkgegahaaGreatModBell
import Derived.Test.YtpjopfhkgegahaaGreatG2
set_option linter.unusedVariables false
namespace Go.Proofs.YtpjopfhkgegahaaGreat
open Go.ChangeShapes Go.WideShapes Go.ChangeAt Go.RowKit

def lipRZ (s : ByteArray) (rs : List Rg) : Int := if profB s rs = true then 2 * (rs.getD 0 zR).1 else 0
set_option maxRecDepth 20000 in
set_option maxHeartbeats 1000000 in
theorem implLipZ_any (s : ByteArray) (v : Value) (rs : List Rg) (w : World) (h : RingsAt w v rs) (hs : s.size ≤ maxLen) :
    Calls Tryz.prog 103 #[.agg #[.string s, v]] w fun e w' => e = .returned (.tuple #[.int .i64 (lipRZ s rs), .int .i64 (codeP s rs)]) ∧ Below w.heap.size w w' := by
  have HI := Lib.hid h
  obtain ⟨a, c, rfl⟩ := rings_form h
  clear h
  rcases Bool.eq_false_or_eq_true (profB s rs) with hp | hp
  · have HR := Lib.hid (show lipRZ s rs = 2 * (rs.getD 0 zR).1 ∧ codeP s rs = 0 by unfold lipRZ codeP; rw [if_pos hp, if_pos hp]; exact ⟨rfl, rfl⟩)
    have HP := Lib.hid hp
    obtain ⟨-, ⟨n1, n2⟩, -, -⟩ := prof_iff.1 hp
    clear hp
    generalize hn : rs.length = n at *
    have HN := Lib.hid hn
    clear hn
    go_enter Tryz.func103, Tryz.ntmps103
    go_wp2_with fail
    have hal := alloc_lt2 w (.cells #[.string s, .slice a n c] 42)
    have hpa := prof_alloc w s (.slice a n c) 42
    have HBA := Lib.hid (below_al w (.cells #[.string s, .slice a n c] 42))
    generalize w.alloc (.cells #[.string s, .slice a n c] 42) = wA at *
    have HIA := Lib.hid (rings_kept HBA.out HI.out)
    refine (implValidP_any s _ rs _ HIA.out hs).mono ?_
    rintro e w1 ⟨rfl, hb⟩
    rw [HP.out]
    have hp1 := prof_keep hb hal hpa
    have HI1 := Lib.hid (rings_kept hb HIA.out)
    have HB := Lib.hid (below_of HBA.out hb HBA.out.size)
    clear hb hpa
    obtain ⟨-, ⟨a', c', hv, h0⟩ | ⟨b, off, cap, hv, hbl, hc⟩⟩ := HI1.out
    · have := HN.out
      rw [h0] at this; simp at this; omega
    · simp only [Value.slice.injEq] at hv
      obtain ⟨rfl, -, rfl⟩ := hv
      have r0 := ring_in hc 0 (by rw [HN.out]; omega)
      have HRB := Lib.hid (ring_iff.1 (prof_ring HP.out 0 (by rw [HN.out]; omega)))
      have HR1 := Lib.hid HR.out.1
      have HR2 := Lib.hid HR.out.2
      rw [Nat.zero_mul, Nat.add_zero] at r0
      generalize rs.getD 0 zR = r at *
      obtain ⟨x, y, z⟩ := r
      have c0 : w1.cell? ⟨b, off, none⟩ = some (.int .i64 x) := r0.c0
      obtain ⟨p0, p1⟩ := hp1
      have hx := HRB.out
      simp only at hx
      have hw : IntKind.i64.wrap (2 * x) = 2 * x := IntWalk.i64_in _ (by omega)
      have hn0 : (0 : Int) < (n : Int) := by omega
      clear r0 hc
      go_wp2
      go_ret2
      exact ⟨ret_two HR1.out.symm HR2.out.symm, HB.out⟩
  · have HR := Lib.hid (show lipRZ s rs = 0 ∧ codeP s rs = 1 by unfold lipRZ codeP; rw [hp]; exact ⟨rfl, rfl⟩)
    generalize hn : rs.length = n at *
    clear hn
    go_enter Tryz.func103, Tryz.ntmps103
    go_wp2_with fail
    refine (implValidP_any s _ rs _ (rings_kept (below_al _ _) HI.out) hs).mono ?_
    rintro e w1 ⟨rfl, hb⟩
    rw [hp]
    have HB := Lib.hid (below_of (below_al _ _) hb (by simp))
    clear hb
    go_wp2
    go_ret2
    exact ⟨ret_two HR.out.1.symm HR.out.2.symm, HB.out⟩
set_option maxRecDepth 20000 in
set_option maxHeartbeats 1000000 in
theorem lipSquare_any (s : ByteArray) (v u0 u1 u2 u3 : Value) (rs : List Rg) (w : World) (h : RingsAt w v rs) (hs : s.size ≤ maxLen) (hp : profB s rs = true) (hu : (∃ a n c, u0 = .slice a n c) ∧ (∃ a n c, u1 = .slice a n c) ∧ (∃ a n c, u2 = .slice a n c) ∧ ∃ a n c, u3 = .slice a n c) :
    Calls Tryz.prog 70 #[.agg #[.string s, v, u0, u1, u2, u3]] w fun e w' => e = .returned (.int .i64 (areaV (rs.getD 0 zR))) ∧ Below w.heap.size w w' := by
  obtain ⟨-, ⟨n1, n2⟩, -, -⟩ := prof_iff.1 hp
  obtain ⟨⟨x0, x1⟩, -, -, -⟩ := ring_iff.1 (prof_ring hp 0 (by omega))
  have hba := below_al w (.cells #[.string s, v, u0, u1, u2, u3] 95)
  have HL := Lib.hid (implLipZ_any s v rs _ (rings_kept hba h) hs)
  have HR := Lib.hid (show lipRZ s rs = 2 * (rs.getD 0 zR).1 by unfold lipRZ; rw [if_pos hp])
  have HA := Lib.hid (show areaV (rs.getD 0 zR) = nq ((2 * (rs.getD 0 zR).1) * (2 * (rs.getD 0 zR).1)) 1000000 from rfl)
  have HBA := Lib.hid hba
  obtain ⟨d, hd⟩ : ∃ d, 2 * (rs.getD 0 zR).1 = d := ⟨_, rfl⟩
  have hdb : 0 ≤ d ∧ d ≤ 300000 := by omega
  have hdd : 0 ≤ d * d ∧ d * d ≤ 300000 * 300000 := ⟨Int.mul_nonneg hdb.1 hdb.1, Int.mul_le_mul hdb.2 hdb.2 hdb.1 (by omega)⟩
  rw [hd] at HR HA
  have HT := Lib.hid (fun w => nearest_any (d * d) 1000000 w (by omega) (by omega))
  have hw : IntKind.i64.wrap (d * d) = d * d := IntWalk.i64_in _ (by omega)
  obtain ⟨a, c, rfl⟩ := rings_form h
  obtain ⟨⟨a0, n0, c0, rfl⟩, ⟨a1, m1, c1, rfl⟩, ⟨a2, m2, c2, rfl⟩, ⟨a3, m3, c3, rfl⟩⟩ := hu
  clear hba h hp x0 x1 hd hdb hdd n1 n2
  generalize rs.length = n at *
  go_enter Tryz.func70, Tryz.ntmps70
  go_wp2_with fail
  refine HL.out.mono ?_
  rintro e w1 ⟨rfl, hb⟩
  rw [HR.out]
  have HB1 := Lib.hid (below_of HBA.out hb HBA.out.size)
  clear hb
  generalize codeP s rs = cc at *
  go_wp2_with fail
  refine (HT.out _).mono ?_
  rintro e w2 ⟨rfl, hb⟩
  have HB2 := Lib.hid (below_of HB1.out hb HB1.out.size)
  clear hb
  go_wp2
  go_ret
  exact ⟨ret_i64 HA.out.symm, HB2.out⟩
end Go.Proofs.YtpjopfhkgegahaaGreat
