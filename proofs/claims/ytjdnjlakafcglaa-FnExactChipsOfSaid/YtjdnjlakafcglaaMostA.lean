/- MostSteps: both programs' answers. -/
import Derived.Test.YtjdnjlakafcglaaRoomI
set_option linter.unusedVariables false
namespace Go.Proofs.Ytjdnjlakafcglaa
open Go.ChangeShapes Go.WideShapes Go.ChangeAt Go.RowKit Go.Maps

/-- MostSteps' two answers. -/
def moR (s : ByteArray) (rs : List Rg) (zs : List Int) (z : Int) : Int := if lathB s rs zs = true ∧ inB z 0 ((zs.length : Int) - 1) = true then mostS s rs zs z.toNat else 0
def moC (s : ByteArray) (rs : List Rg) (zs : List Int) (z : Int) : Int := if lathB s rs zs = true then if inB z 0 ((zs.length : Int) - 1) = true then 0 else 2 else 1
theorem mo_0 {s : ByteArray} {rs : List Rg} {zs : List Int} {z : Int} {q : Nat} (h : lathB s rs zs = true) (h2 : inB z 0 ((zs.length : Int) - 1) = true) (hq : z = (q : Int)) : moR s rs zs z = mostS s rs zs q ∧ moC s rs zs z = 0 := by
  subst hq
  unfold moR moC; rw [if_pos ⟨h, h2⟩, if_pos h, if_pos h2]; exact ⟨rfl, rfl⟩
theorem mo_2 {s : ByteArray} {rs : List Rg} {zs : List Int} {z : Int} (h : lathB s rs zs = true) (h2 : inB z 0 ((zs.length : Int) - 1) = false) : moR s rs zs z = 0 ∧ moC s rs zs z = 2 := by unfold moR moC; rw [if_neg (by rw [h2]; simp), if_pos h, if_neg (by rw [h2]; simp)]; exact ⟨rfl, rfl⟩
theorem mo_1 {s : ByteArray} {rs : List Rg} {zs : List Int} {z : Int} (h : lathB s rs zs = false) : moR s rs zs z = 0 ∧ moC s rs zs z = 1 := by unfold moR moC; rw [if_neg (by rw [h]; simp), if_neg (by rw [h]; simp)]; exact ⟨rfl, rfl⟩
theorem inB_nat {z : Int} {n : Nat} (h : inB z 0 ((n : Int) - 1) = true) : ∃ q : Nat, z = (q : Int) ∧ q < n := by
  have := inB_iff.1 h
  exact ⟨z.toNat, by omega, by omega⟩
theorem lath_len {s : ByteArray} {rs : List Rg} {zs : List Int} (h : lathB s rs zs = true) : 0 < zs.length ∧ zs.length ≤ 8 := (fit_facts (lath_iff.1 h).2).1
set_option maxRecDepth 20000 in
set_option maxHeartbeats 2000000 in
theorem specMS_any (s : ByteArray) (v vz : Value) (rs : List Rg) (zs : List Int) (z : Int) (w : World) (h : RingsAt w v rs) (hs : s.size ≤ maxLen) (hz : IntsAt w vz zs) :
    Calls Try.prog 40 #[.agg #[.string s, v], vz, .int .i64 z] w fun e w' => e = .returned (.tuple #[.int .i64 (moR s rs zs z), .int .i64 (moC s rs zs z)]) ∧ Below w.heap.size w w' := by
  have hal := alloc_lt2 w (.cells #[.string s, v] 30)
  have hpa := prof_alloc w s v 30
  have hba := below_al w (.cells #[.string s, v] 30)
  have HZO := Lib.hid (l09Zones_any w.heap.size s v vz rs zs _ hal hpa (rings_kept hba h) hs (ints_kept hba hz))
  have HBA := Lib.hid hba
  have HR := Lib.hid (show (profB s rs && fitB rs.length zs) = lathB s rs zs from rfl)
  rw [HR.out] at HZO
  rcases Bool.eq_false_or_eq_true (lathB s rs zs) with q1 | q1
  · have hl := lath_len q1
    rw [q1] at HZO
    rcases Bool.eq_false_or_eq_true (inB z 0 ((zs.length : Int) - 1)) with q2 | q2
    · obtain ⟨q, rfl, hq⟩ := inB_nat q2
      have HA := Lib.hid (mo_0 q1 q2 rfl)
      have HMO := Lib.hid (fun W (hW : Below (w.alloc (.cells #[.string s, v] 30)).heap.size (w.alloc (.cells #[.string s, v] 30)) W) => l09Most_any w.heap.size q s v vz rs zs W (Nat.lt_of_lt_of_le hal hW.size) (prof_keep hW hal hpa) (rings_kept (below_of hba hW hba.size) h) hs (ints_kept (below_of hba hW hba.size) hz) q1 hq)
      have Q2 := Lib.hid q2
      obtain ⟨az, cz, rfl⟩ := ints_form hz
      clear hpa hba h hz hal q1 q2 HR
      generalize zs.length = nz at *
      go_enter Try.func40, Try.ntmps40
      go_wp2_with fail
      generalize w.alloc (.cells #[.string s, v] 30) = wA at *
      refine HZO.out.mono ?_
      rintro e w1 ⟨rfl, hb⟩
      have HB := Lib.hid hb
      clear hb
      go_wp2_with fail
      refine (l00In_any _ _ _ _).mono ?_
      rintro e w2 ⟨rfl, rfl⟩
      rw [Q2.out]
      go_wp2_with fail
      refine (HMO.out _ HB.out).mono ?_
      rintro e w3 ⟨rfl, hb⟩
      have HB3 := Lib.hid (below_of HBA.out (below_of HB.out hb HB.out.size) HBA.out.size)
      clear hb
      go_wp2
      go_ret2
      exact ⟨ret_zo HA.out.1.symm HA.out.2.symm, HB3.out⟩
    · have HA := Lib.hid (mo_2 q1 q2)
      have Q2 := Lib.hid q2
      obtain ⟨az, cz, rfl⟩ := ints_form hz
      clear hpa hba h hz hal q1 q2 HR
      generalize zs.length = nz at *
      go_enter Try.func40, Try.ntmps40
      go_wp2_with fail
      generalize w.alloc (.cells #[.string s, v] 30) = wA at *
      refine HZO.out.mono ?_
      rintro e w1 ⟨rfl, hb⟩
      have HB := Lib.hid (below_of HBA.out hb HBA.out.size)
      clear hb
      go_wp2_with fail
      refine (l00In_any _ _ _ _).mono ?_
      rintro e w2 ⟨rfl, rfl⟩
      rw [Q2.out]
      go_wp2
      go_ret2
      exact ⟨ret_zo HA.out.1.symm HA.out.2.symm, HB.out⟩
  · have HA := Lib.hid (mo_1 (z := z) q1)
    rw [q1] at HZO
    clear hpa hba h hz hal q1 HR
    go_enter Try.func40, Try.ntmps40
    go_wp2_with fail
    generalize w.alloc (.cells #[.string s, v] 30) = wA at *
    refine HZO.out.mono ?_
    rintro e w1 ⟨rfl, hb⟩
    have HB := Lib.hid (below_of HBA.out hb HBA.out.size)
    clear hb
    go_wp2
    go_ret2
    exact ⟨ret_zo HA.out.1.symm HA.out.2.symm, HB.out⟩
set_option maxRecDepth 20000 in
set_option maxHeartbeats 2000000 in
theorem implMS_any (s : ByteArray) (v vz : Value) (rs : List Rg) (zs : List Int) (z : Int) (w : World) (h : RingsAt w v rs) (hs : s.size ≤ maxLen) (hz : IntsAt w vz zs) :
    Calls Try.prog 41 #[.agg #[.string s, v], vz, .int .i64 z] w fun e w' => e = .returned (.tuple #[.int .i64 (moR s rs zs z), .int .i64 (moC s rs zs z)]) ∧ Below w.heap.size w w' := by
  have hba := below_al w (.cells #[.string s, v] 30)
  have HON := Lib.hid (onLathe_any s v vz rs zs _ (rings_kept hba h) hs (ints_kept hba hz))
  have HBA := Lib.hid hba
  rcases Bool.eq_false_or_eq_true (lathB s rs zs) with q1 | q1
  · have hl := lath_len q1
    have HV := Lib.hid (zb_yes (v := v) (vz := vz) q1)
    rw [HV.out, q1] at HON
    have hx := fun (w1 : World) => show ((w1.alloc (.cells #[.string s, v, vz] 84)).cell? ⟨w1.heap.size, 0, none⟩ = some (.string s)) ∧ (w1.alloc (.cells #[.string s, v, vz] 84)).cell? ⟨w1.heap.size, 1, none⟩ = some v ∧ (w1.alloc (.cells #[.string s, v, vz] 84)).cell? ⟨w1.heap.size, 2, none⟩ = some vz from ⟨by go_simp, by go_simp, by go_simp⟩
    have HX := Lib.hid hx
    rcases Bool.eq_false_or_eq_true (inB z 0 ((zs.length : Int) - 1)) with q2 | q2
    · obtain ⟨q, rfl, hq⟩ := inB_nat q2
      have HA := Lib.hid (mo_0 q1 q2 rfl)
      have HMO := Lib.hid (fun W (hW : Below w.heap.size w W) => room_any q s v vz rs zs W (rings_kept hW h) hs (ints_kept hW hz) q1 hq)
      obtain ⟨az, cz, rfl⟩ := ints_form hz
      obtain ⟨av, cv, rfl⟩ := rings_form h
      have HH := Lib.hid (fun W => has_any (q : Int) az zs.length cz W (by omega))
      rw [q2] at HH
      clear hba h hz q1 q2 HV hx
      generalize zs.length = nz at *
      generalize rs.length = n at *
      go_enter Try.func41, Try.ntmps41
      go_wp2_with fail
      generalize w.alloc (.cells #[.string s, .slice av n cv] 30) = wA at *
      refine HON.out.mono ?_
      rintro e w1 ⟨rfl, hb⟩
      have HB1 := Lib.hid (below_of HBA.out hb HBA.out.size)
      obtain ⟨x0, x1, x2⟩ := HX.out w1
      have hbx := below_al w1 (.cells #[.string s, .slice av n cv, .slice az nz cz] 84)
      have hlx := alloc_lt2 w1 (.cells #[.string s, .slice av n cv, .slice az nz cz] 84)
      have HBX := Lib.hid (below_of HB1.out hbx HB1.out.size)
      clear hb hbx
      go_wp2_with fail
      generalize (w1.alloc (.cells #[.string s, .slice av n cv, .slice az nz cz] 84)) = wx at *
      refine (HH.out _).mono ?_
      rintro e w2 ⟨rfl, hb⟩
      have y0 := (below_cell hb _ _ hlx).trans x0
      have y1 := (below_cell hb _ _ hlx).trans x1
      have y2 := (below_cell hb _ _ hlx).trans x2
      have HB2 := Lib.hid (below_of HBX.out hb HBX.out.size)
      clear hb x0 x1 x2
      go_wp2_with fail
      refine (HMO.out _ HB2.out).mono ?_
      rintro e w3 ⟨rfl, hb⟩
      have HB3 := Lib.hid (below_of HB2.out hb HB2.out.size)
      clear hb y0 y1 y2
      go_wp2
      go_ret2
      exact ⟨ret_zo HA.out.1.symm HA.out.2.symm, HB3.out⟩
    · have HA := Lib.hid (mo_2 q1 q2)
      obtain ⟨az, cz, rfl⟩ := ints_form hz
      obtain ⟨av, cv, rfl⟩ := rings_form h
      have HH := Lib.hid (fun W => has_any z az zs.length cz W (by omega))
      rw [q2] at HH
      clear hba h hz q1 q2 HV hx
      generalize zs.length = nz at *
      generalize rs.length = n at *
      go_enter Try.func41, Try.ntmps41
      go_wp2_with fail
      generalize w.alloc (.cells #[.string s, .slice av n cv] 30) = wA at *
      refine HON.out.mono ?_
      rintro e w1 ⟨rfl, hb⟩
      have HB1 := Lib.hid (below_of HBA.out hb HBA.out.size)
      obtain ⟨x0, x1, x2⟩ := HX.out w1
      have hbx := below_al w1 (.cells #[.string s, .slice av n cv, .slice az nz cz] 84)
      have HBX := Lib.hid (below_of HB1.out hbx HB1.out.size)
      clear hb hbx
      go_wp2_with fail
      generalize (w1.alloc (.cells #[.string s, .slice av n cv, .slice az nz cz] 84)) = wx at *
      refine (HH.out _).mono ?_
      rintro e w2 ⟨rfl, hb⟩
      have HB2 := Lib.hid (below_of HBX.out hb HBX.out.size)
      clear hb x0 x1 x2
      go_wp2
      go_ret2
      exact ⟨ret_zo HA.out.1.symm HA.out.2.symm, HB2.out⟩
  · have HA := Lib.hid (mo_1 (z := z) q1)
    have HV := Lib.hid (zb_not (v := v) (vz := vz) q1)
    rw [HV.out, q1] at HON
    obtain ⟨av, cv, rfl⟩ := rings_form h
    clear hba h hz q1 HV
    generalize rs.length = n at *
    go_enter Try.func41, Try.ntmps41
    go_wp2_with fail
    generalize w.alloc (.cells #[.string s, .slice av n cv] 30) = wA at *
    refine HON.out.mono ?_
    rintro e w1 ⟨rfl, hb⟩
    have HB1 := Lib.hid (below_of HBA.out hb HBA.out.size)
    have HB2 := Lib.hid (below_of HB1.out (below_al w1 (.cells #[.string ⟨#[]⟩, .slice none 0 0, .slice none 0 0] 84)) HB1.out.size)
    clear hb
    go_wp2
    go_ret2
    exact ⟨ret_zo HA.out.1.symm HA.out.2.symm, HB2.out⟩
end Go.Proofs.Ytjdnjlakafcglaa
