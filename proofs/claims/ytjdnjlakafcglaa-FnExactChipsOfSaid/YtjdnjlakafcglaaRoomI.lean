/- How many steps a zone allows: the program's count. -/
import Derived.Test.YtjdnjlakafcglaaMost
import Derived.Test.YtjdnjlakafcglaaApImpl
set_option linter.unusedVariables false
namespace Go.Proofs.Ytjdnjlakafcglaa
open Go.ChangeShapes Go.WideShapes Go.ChangeAt Go.RowKit Go.Maps

set_option maxRecDepth 20000 in
set_option maxHeartbeats 4000000 in
theorem room_any (z : Nat) (s : ByteArray) (v vz : Value) (rs : List Rg) (zs : List Int) (w : World) (h : RingsAt w v rs) (hs : s.size ≤ maxLen) (hz : IntsAt w vz zs) (hP : lathB s rs zs = true) (hzl : z < zs.length) :
    Calls Try.prog 90 #[.agg #[.string s, v, vz], .int .i64 (z : Int)] w fun e w' => e = .returned (.int .i64 (mostS s rs zs z)) ∧ Below w.heap.size w w' := by
  obtain ⟨hprof, hfit⟩ := lath_iff.1 hP
  have hff := (fit_facts hfit).1
  have hba := below_al w (.cells #[.string s, v, vz] 84)
  have hl := alloc_lt2 w (.cells #[.string s, v, vz] 84)
  have q0 : (w.alloc (.cells #[.string s, v, vz] 84)).cell? ⟨w.heap.size, 0, none⟩ = some (.string s) := by go_simp
  have q1 : (w.alloc (.cells #[.string s, v, vz] 84)).cell? ⟨w.heap.size, 1, none⟩ = some v := by go_simp
  have q2 : (w.alloc (.cells #[.string s, v, vz] 84)).cell? ⟨w.heap.size, 2, none⟩ = some vz := by go_simp
  have HCU := Lib.hid (fun (t bm m : Nat) (ht : t ≤ 20) W (hW : Below w.heap.size w W) (hM : MapF W bm m (fun y => if (z : Int) = y then (t : Int) else 0)) => cutI_any s v vz bm m _ rs zs W (rings_kept hW h) hs (ints_kept hW hz) hM hP (fun y hy => by split <;> omega))
  have HOT := Lib.hid (fun t => oneM_turn (rs := rs) (zs := zs) hff z t)
  have HOK := Lib.hid (fun t => show oneOk s rs zs z t = profB s (oneT rs zs z t) from rfl)
  have HMS := Lib.hid (show mostS s rs zs z = (mostF (oneOk s rs zs z) 20 0 : Nat) from rfl)
  have HBA := Lib.hid hba
  have hz8 : z < 8 := by omega
  have hz0' : (0 : Int) ≤ (z : Int) := by omega
  have hwz : (Lit.int .i64 (z : Int)).wf = true := WalkArith.wf_i64 (by omega)
  obtain ⟨az, cz, rfl⟩ := ints_form hz
  obtain ⟨av, cv, rfl⟩ := rings_form h
  have hmm := @run_makeMap Try.prog
  clear hP hprof hfit hff h hz hzl hba
  generalize zs.length = nz at *
  generalize rs.length = n at *
  go_enter Try.func90, Try.ntmps90
  go_wp2
  generalize (w.alloc (.cells #[.string s, .slice av n cv, .slice az nz cz] 84)) = wA at *
  go_loopw [5] (fun i wr => ∃ k : Nat, k ≤ 20 ∧ i = .int .i64 k ∧ Hid (mostF (oneOk s rs zs z) 20 0 = mostF (oneOk s rs zs z) (20 - k) k) ∧ Hid (Below wA.heap.size wA wr)) (fun i _ => 20 - (intOf i).toNat)
  case atStart => exact ⟨0, by omega, rfl, Lib.hid rfl, Lib.hid (Below.refl _ _)⟩
  case round =>
    obtain ⟨k, hk, rfl, HMO, HB⟩ := hrel
    by_cases hlt : k < 20
    · have hk0 : (0 : Int) ≤ (k : Int) := by omega
      have hlt1 : (k : Int) < 20 := by omega
      have HOTK := Lib.hid (HOT.out (k + 1))
      have HCK := Lib.hid (fun bm m => HCU.out (k + 1) bm m (by omega))
      rw [HOTK.out] at HCK
      have HOKK := Lib.hid (HOK.out (k + 1))
      have r0 := (below_cell HB.out _ _ hl).trans q0
      have r1 := (below_cell HB.out _ _ hl).trans q1
      have r2 := (below_cell HB.out _ _ hl).trans q2
      have hbm := below_al wr (.map #[] 0)
      have p0 := (below_cell hbm _ _ (Nat.lt_of_lt_of_le hl HB.out.size)).trans r0
      have p1 := (below_cell hbm _ _ (Nat.lt_of_lt_of_le hl HB.out.size)).trans r1
      have p2 := (below_cell hbm _ _ (Nat.lt_of_lt_of_le hl HB.out.size)).trans r2
      have hsm := sumsMap_put (g := fun y => if (z : Int) = y then ((k + 1 : Nat) : Int) else 0) sumsMap_empty (z : Int) ((k : Int) + 1) ⟨hz0', by omega⟩ (by omega) (fun y => by simp)
      simp only [Int.zero_add] at hsm
      have HSM := Lib.hid hsm
      have H0 := Lib.hid (World.ownsMap_made (H := Unit) wr Try.prog 2 (plainElem Try.prog 2))
      obtain ⟨w1, hr1, ho1, hg1⟩ := H0.out.update lawZ Try.underlying105 (by unfold maxLen; omega) (keyOf_int_mk Try.underlying2 hwz) (d := (.lit (.int .i64 ((k : Int) + 1)) : DataW Unit)) (ps := []) (plainElem_int Try.underlying2 (WalkArith.wf_i64 (by omega)))
      have hrun1 : (Instr.mapUpdate 105 (.map (some wr.heap.size)) (.int .i64 (z : Int)) (.int .i64 ((k : Int) + 1))).run Try.prog (wr.alloc (.map #[] 0)) = .ok () w1 := hr1
      have HM1 := Lib.hid (show MapF w1 wr.heap.size 1 (fun y => if (z : Int) = y then ((k + 1 : Nat) : Int) else 0) from ⟨_, ho1, HSM.out⟩)
      have HB1 := Lib.hid ((below_of HB.out hbm HB.out.size).grown hg1 (below_of HB.out hbm HB.out.size).size (fun j hj => by cases hj; exact HB.out.size))
      have HPR := Lib.hid (HCK.out _ _ _ (below_of HBA.out HB1.out HBA.out.size) HM1.out)
      clear hr1 ho1 hg1 hsm hbm
      generalize oneT rs zs z (k + 1) = l at *
      generalize resS s (resC s l) = sa at *
      generalize resL l (resC s l) = la at *
      rcases resC_ok (s := s) (l := l) with ⟨h1, h2⟩ | ⟨h1, h2⟩
      · have HN := Lib.hid (show mostF (oneOk s rs zs z) 20 0 = mostF (oneOk s rs zs z) (20 - (k + 1)) (k + 1) by
          rw [HMO.out, show 20 - k = 20 - (k + 1) + 1 by omega, mostF_yes (by rw [HOKK.out, h1])])
        rw [h2] at HPR
        clear h1 h2
        go_wp2_with fail
        refine HPR.out.mono ?_
        rintro e w2 ⟨vr, rfl, hrv, hb⟩
        obtain ⟨af, cf, rfl⟩ := rv_form hrv
        have HB2 := Lib.hid (below_of HB1.out hb HB1.out.size)
        have HB3 := Lib.hid (below_of HB2.out (below_al w2 (.cells #[.string sa, .slice af la.length cf] 30)) HB2.out.size)
        clear hrv hb r0 r1 r2 p0 p1 p2 hrun1
        go_wp2
        go_roundw
        case rel => exact ⟨k + 1, by omega, by go_num, HN, HB3⟩
        case measure => simp [intOf]; omega
      · have HN := Lib.hid (show mostF (oneOk s rs zs z) 20 0 = k by
          rw [HMO.out, show 20 - k = 20 - (k + 1) + 1 by omega, mostF_no (by rw [HOKK.out, h1])])
        rw [h2] at HPR
        clear h1 h2
        go_wp2_with fail
        refine HPR.out.mono ?_
        rintro e w2 ⟨vr, rfl, hrv, hb⟩
        obtain ⟨af, cf, rfl⟩ := rv_form hrv
        have HB2 := Lib.hid (below_of HB1.out hb HB1.out.size)
        have HB3 := Lib.hid (below_of HB2.out (below_al w2 (.cells #[.string sa, .slice af la.length cf] 30)) HB2.out.size)
        clear hrv hb r0 r1 r2 p0 p1 p2 hrun1
        go_wp2
        go_ret
        exact ⟨ret_i64 (by rw [HMS.out, HN.out]), below_of HBA.out HB3.out HBA.out.size⟩
    · obtain rfl : k = 20 := by omega
      have HN := Lib.hid (show mostF (oneOk s rs zs z) 20 0 = 20 from HMO.out)
      go_wp2
      go_ret
      exact ⟨ret_i64 (by rw [HMS.out, HN.out]), below_of HBA.out HB.out HBA.out.size⟩
end Go.Proofs.Ytjdnjlakafcglaa
