/- The weighed walls of a profile with a model: the program's. -/
import Derived.Test.YtpjopfhkgegahaaGreatModLip
import Derived.BigRegion
set_option linter.unusedVariables false
namespace Go.Proofs.YtpjopfhkgegahaaGreat
open Go.ChangeShapes Go.WideShapes Go.ChangeAt Go.RowKit

def sumZ (ws : List (List Int)) (L : List Int) (z k : Nat) : List Int := (List.range 5).map (fun j => momN (ws.getD j []) L (if j < k then z + 1 else z))
theorem sumZ_len (ws : List (List Int)) (L : List Int) (z k : Nat) : (sumZ ws L z k).length = 5 := by simp [sumZ]
theorem sumZ_get (ws : List (List Int)) (L : List Int) (z k : Nat) (h : k < 5) : (sumZ ws L z k).getD k 0 = momN (ws.getD k []) L z := by simp [sumZ, List.getD, h]
theorem sumZ_next (ws : List (List Int)) (L : List Int) (z k : Nat) (h : k < 5) : (sumZ ws L z k).set k (momN (ws.getD k []) L (z + 1)) = sumZ ws L z (k + 1) := by
  refine List.ext_getElem (by simp [sumZ]) fun j h1 h2 => ?_
  have hj : j < 5 := by simpa [sumZ] using h2
  rw [List.getElem_set]
  by_cases e : k = j
  · subst e; simp [sumZ]
  · rw [if_neg e]
    simp only [sumZ, List.getElem_map, List.getElem_range]
    by_cases e2 : j < k
    · rw [if_pos e2, if_pos (by omega)]
    · rw [if_neg e2, if_neg (by omega)]
theorem sumZ_all (ws : List (List Int)) (L : List Int) (z : Nat) : sumZ ws L z 5 = sumZ ws L (z + 1) 0 := by
  refine List.ext_getElem (by simp [sumZ]) fun j h1 h2 => ?_
  have hj : j < 5 := by simpa [sumZ] using h2
  simp [sumZ, hj]
theorem i64s_setZ (zs : List Int) (k : Nat) (x : Int) : (i64s zs).set k (.int .i64 x) = i64s (zs.set k x) := by unfold i64s; rw [List.map_set]

theorem sumZ_list (ws : List (List Int)) (L : List Int) (z : Nat) : sumZ ws L z 0 = [momN (ws.getD 0 []) L z, momN (ws.getD 1 []) L z, momN (ws.getD 2 []) L z, momN (ws.getD 3 []) L z, momN (ws.getD 4 []) L z] := by
  simp [sumZ, List.range, List.range.loop]
theorem sumZ_start (ws : List (List Int)) (L : List Int) : sumZ ws L 0 0 = [0, 0, 0, 0, 0] := by
  simp [sumZ, momN, List.range, List.range.loop]
set_option maxRecDepth 100000 in
set_option maxHeartbeats 4000000 in
theorem weighed_any (s : ByteArray) (v v0 v1 v2 : Value) (zs : List Int) (ws : List (List Int)) (bs : List Int) (rs : List Rg) (w : World) (hv : RingsW w v rs) (h0 : IntsAt w v0 zs) (h1 : RowsAt w v1 ws) (h2 : IntsAt w v2 bs) (hM : modB zs ws bs = true) (hP : profB s rs = true) (hF : fitB rs.length zs = true) :
    Calls Tryz.prog 69 #[.agg #[.string s, v, v0, v0, v1, v2]] w fun e w' => e = .returned (.agg #[.int .i64 (momN (ws.getD 0 []) (zWalls rs zs) zs.length), .int .i64 (momN (ws.getD 1 []) (zWalls rs zs) zs.length), .int .i64 (momN (ws.getD 2 []) (zWalls rs zs) zs.length), .int .i64 (momN (ws.getD 3 []) (zWalls rs zs) zs.length), .int .i64 (momN (ws.getD 4 []) (zWalls rs zs) zs.length)]) ∧ Below w.heap.size w w' := by
  obtain ⟨hz, ⟨hw5, hb5⟩, hrows, hbase⟩ := mod_iff.1 hM
  obtain ⟨-, ⟨n1, n2⟩, -, -⟩ := prof_iff.1 hP
  have hzl := zones_len hz
  have HRG := Lib.hid (fun i hi => prof_ring hP i hi)
  have HWL := Lib.hid (fun W (hW : Below w.heap.size w W) => walls_any s v v0 rs zs W (Lib.hid (ringsW_kept hW hv)) (ints_kept hW h0) HRG.out ⟨n1, n2⟩ hF)
  have HRB := Lib.hid (fun (k : Nat) (hk : k < 5) (j : Nat) (hj : j < zs.length) => show (ws.getD k []).length = zs.length ∧ 0 ≤ (ws.getD k []).getD j 0 ∧ (ws.getD k []).getD j 0 ≤ 1000 from by
    have hrow := row_iff.1 (allRows_at hrows k (by omega))
    exact ⟨hrow.1, allIn_at hrow.2.1 j (by rw [hrow.1]; exact hj)⟩)
  have HLB := Lib.hid (fun (j : Nat) (hj : j < zs.length) => show 0 ≤ (zWalls rs zs).getD j 0 ∧ (zWalls rs zs).getD j 0 ≤ 150000 by rw [zWalls_get rs zs j hj]; exact zWall_bd HRG.out hF j hj)
  have HLL := Lib.hid (zWalls_len rs zs)
  have HSZ := Lib.hid (sumZ_next ws (zWalls rs zs))
  have HSG := Lib.hid (sumZ_get ws (zWalls rs zs))
  have HSL := Lib.hid (sumZ_len ws (zWalls rs zs))
  have HSA := Lib.hid (sumZ_all ws (zWalls rs zs))
  have HS0 := Lib.hid (sumZ_start ws (zWalls rs zs))
  have HMB := Lib.hid (fun (k : Nat) (hk : k < 5) (z : Nat) (hz : z ≤ zs.length) => momN_bd (ws.getD k []) (zWalls rs zs) z (fun j hj => (HRB.out k hk j (by omega)).2) (fun j hj => HLB.out j (by omega)))
  have HMN := Lib.hid (fun (k z : Nat) => show momN (ws.getD k []) (zWalls rs zs) (z + 1) = momN (ws.getD k []) (zWalls rs zs) z + (ws.getD k []).getD z 0 * (zWalls rs zs).getD z 0 from rfl)
  obtain ⟨b1, o1, k1, rfl, hb1, hc1⟩ := mrows_cells h1 (by omega)
  rw [hw5] at hc1
  have HC1 := Lib.hid hc1
  obtain ⟨a0, k0, rfl⟩ := ints_form h0
  obtain ⟨a2, k2, rfl⟩ := ints_form h2
  obtain ⟨av, cv, rfl⟩ := rings_form hv.1
  clear hv h0 h1 h2 hM hP hF hz hrows hbase hc1 n1 n2
  generalize hnz : zs.length = nz at *
  have HNZ := Lib.hid hnz
  generalize bs.length = nb at *
  generalize rs.length = nr at *
  rw [hw5]
  generalize zWalls rs zs = L at *
  clear hw5 hb5 hnz
  have hba : Below w.heap.size w (((w.alloc (.cells #[.string s, .slice av nr cv, .slice a0 nz k0, .slice a0 nz k0, .slice (some ⟨b1, o1, none⟩) 5 k1, .slice a2 nb k2] 95)).alloc (.cells #[.int .i64 0, .int .i64 0, .int .i64 0, .int .i64 0, .int .i64 0] 101)).alloc (.cells #[.int .i64 0, .int .i64 0, .int .i64 0, .int .i64 0, .int .i64 0] 101)) := ((below_al _ _).alloc (by simp) _).alloc (by simp; omega) _
  have hcw : (((w.alloc (.cells #[.string s, .slice av nr cv, .slice a0 nz k0, .slice a0 nz k0, .slice (some ⟨b1, o1, none⟩) 5 k1, .slice a2 nb k2] 95)).alloc (.cells #[.int .i64 0, .int .i64 0, .int .i64 0, .int .i64 0, .int .i64 0] 101)).alloc (.cells #[.int .i64 0, .int .i64 0, .int .i64 0, .int .i64 0, .int .i64 0] 101)).cell? ⟨w.heap.size, 4, none⟩ = some (.slice (some ⟨b1, o1, none⟩) 5 k1) := by go_simp
  have hA : (((w.alloc (.cells #[.string s, .slice av nr cv, .slice a0 nz k0, .slice a0 nz k0, .slice (some ⟨b1, o1, none⟩) 5 k1, .slice a2 nb k2] 95)).alloc (.cells #[.int .i64 0, .int .i64 0, .int .i64 0, .int .i64 0, .int .i64 0] 101)).alloc (.cells #[.int .i64 0, .int .i64 0, .int .i64 0, .int .i64 0, .int .i64 0] 101)).ownsRow (w.heap.size + 1) 101 1 (.slice (some ⟨w.heap.size + 1, 0, none⟩) 5 5) 5 (i64s [0, 0, 0, 0, 0]) := by
    have e1 : (w.alloc (.cells #[.string s, .slice av nr cv, .slice a0 nz k0, .slice a0 nz k0, .slice (some ⟨b1, o1, none⟩) 5 k1, .slice a2 nb k2] 95)).heap.size = w.heap.size + 1 := by simp
    have := (World.ownsRow_lit (e := 101) (size := 1) (w.alloc (.cells #[.string s, .slice av nr cv, .slice a0 nz k0, .slice a0 nz k0, .slice (some ⟨b1, o1, none⟩) 5 k1, .slice a2 nb k2] 95)) (i64s [0, 0, 0, 0, 0]).toArray 5 (Nat.le_refl _) (by decide) rfl).alloc (.cells #[.int .i64 0, .int .i64 0, .int .i64 0, .int .i64 0, .int .i64 0] 101)
    rw [e1] at this
    exact this
  have hB : (((w.alloc (.cells #[.string s, .slice av nr cv, .slice a0 nz k0, .slice a0 nz k0, .slice (some ⟨b1, o1, none⟩) 5 k1, .slice a2 nb k2] 95)).alloc (.cells #[.int .i64 0, .int .i64 0, .int .i64 0, .int .i64 0, .int .i64 0] 101)).alloc (.cells #[.int .i64 0, .int .i64 0, .int .i64 0, .int .i64 0, .int .i64 0] 101)).ownsRow (w.heap.size + 1 + 1) 101 1 (.slice (some ⟨w.heap.size + 1 + 1, 0, none⟩) 5 5) 5 (i64s (sumZ ws L 0 0)) := by
    have e1 : ((w.alloc (.cells #[.string s, .slice av nr cv, .slice a0 nz k0, .slice a0 nz k0, .slice (some ⟨b1, o1, none⟩) 5 k1, .slice a2 nb k2] 95)).alloc (.cells #[.int .i64 0, .int .i64 0, .int .i64 0, .int .i64 0, .int .i64 0] 101)).heap.size = w.heap.size + 1 + 1 := by simp
    have := World.ownsRow_lit (e := 101) (size := 1) ((w.alloc (.cells #[.string s, .slice av nr cv, .slice a0 nz k0, .slice a0 nz k0, .slice (some ⟨b1, o1, none⟩) 5 k1, .slice a2 nb k2] 95)).alloc (.cells #[.int .i64 0, .int .i64 0, .int .i64 0, .int .i64 0, .int .i64 0] 101)) (i64s [0, 0, 0, 0, 0]).toArray 5 (Nat.le_refl _) (by decide) rfl
    rw [e1] at this
    rw [HS0.out]
    exact this
  have hsz : w.heap.size + 1 + 1 < (((w.alloc (.cells #[.string s, .slice av nr cv, .slice a0 nz k0, .slice a0 nz k0, .slice (some ⟨b1, o1, none⟩) 5 k1, .slice a2 nb k2] 95)).alloc (.cells #[.int .i64 0, .int .i64 0, .int .i64 0, .int .i64 0, .int .i64 0] 101)).alloc (.cells #[.int .i64 0, .int .i64 0, .int .i64 0, .int .i64 0, .int .i64 0] 101)).heap.size := by simp
  have HBA := Lib.hid hba
  have HA := Lib.hid hA
  have HB := Lib.hid hB
  clear hba hA hB
  go_enter Tryz.func69, Tryz.ntmps69
  go_wp2_with fail
  generalize (((w.alloc (.cells #[.string s, .slice av nr cv, .slice a0 nz k0, .slice a0 nz k0, .slice (some ⟨b1, o1, none⟩) 5 k1, .slice a2 nb k2] 95)).alloc (.cells #[.int .i64 0, .int .i64 0, .int .i64 0, .int .i64 0, .int .i64 0] 101)).alloc (.cells #[.int .i64 0, .int .i64 0, .int .i64 0, .int .i64 0, .int .i64 0] 101)) = wA at *
  refine (HWL.out _ HBA.out).mono ?_
  rintro e w1 ⟨⟨vw, rfl, hvw⟩, hb⟩
  obtain ⟨bw, cw, rfl, hbw0, hbw1, hown⟩ := hvw
  rw [HLL.out] at hown ⊢
  have HCW := Lib.hid (fun (j : Nat) (hj : j < nz) => show w1.cell? ⟨bw, j, none⟩ = some (.int .i64 (L.getD j 0)) by
    rw [hown.cellAt j (by omega)]
    exact i64s_get _ j (by rw [HLL.out]; exact hj))
  have c4 := (below_cell hb _ _ (show w.heap.size < wA.heap.size by omega)).trans hcw
  have HA1 := Lib.hid (row_keep1 hb HA.out)
  have HB1 := Lib.hid (row_keep1 hb HB.out)
  have HBW := Lib.hid (below_of HBA.out hb HBA.out.size)
  have hs1 := Nat.lt_of_lt_of_le hsz hb.size
  have hbg : bw ≠ w.heap.size + 1 + 1 := by omega
  have HC1b := Lib.hid (fun (k : Nat) (hk : k < 5) => show ∃ br orr kr, w1.cell? ⟨b1, o1 + k, none⟩ = some (.slice (some ⟨br, orr, none⟩) nz kr) ∧ br < w.heap.size ∧ ∀ j, j < nz → w1.cell? ⟨br, orr + j, none⟩ = some (.int .i64 ((ws.getD k []).getD j 0)) by
    obtain ⟨u, hu, hui⟩ := HC1.out k hk
    have hl := (HRB.out k hk 0 (by omega)).1
    obtain ⟨br, orr, kr, rfl, hbr, hcr⟩ := ints_cells hui (by omega)
    rw [hl] at hu hcr
    exact ⟨br, orr, kr, (below_cell HBW.out _ _ hb1).trans hu, hbr, fun j hj => (below_cell HBW.out _ _ hbr).trans (hcr j hj)⟩)
  clear hb hcw hown hbw0 HA HB HBA HWL
  go_wp2
  go_loopw [12] (fun i wr => ∃ z : Nat, z ≤ nz ∧ i = .int .i64 z ∧ Hid (w1.grownBy wr (some (w.heap.size + 1 + 1))) ∧ Hid (wr.ownsRow (w.heap.size + 1 + 1) 101 1 (.slice (some ⟨w.heap.size + 1 + 1, 0, none⟩) 5 5) 5 (i64s (sumZ ws L z 0)))) (fun i _ => nz - (intOf i).toNat)
  case atStart => exact ⟨0, by omega, rfl, Lib.hid (gb_refl _ _), HB1⟩
  case round =>
    obtain ⟨z, hz, rfl, HG, HO⟩ := hrel
    generalize hwo : wr = wo at *
    clear hwo
    have d4 := (gb_cell HG.out w.heap.size 4 (by omega) (by simp; omega)).trans c4
    by_cases hlt : z < nz
    · have x0 := (gb_cell HG.out bw z hbw1 (by simpa using hbg)).trans (HCW.out z hlt)
      have hz0 : (0 : Int) ≤ (z : Int) := by omega
      have hz1 : (z : Int) < (nz : Int) := by omega
      have hyb := HLB.out z hlt
      have HY := Lib.hid (show ∀ k, momN (ws.getD k []) L (z + 1) = momN (ws.getD k []) L z + (ws.getD k []).getD z 0 * L.getD z 0 from fun k => HMN.out k z)
      generalize L.getD z 0 = y at *
      go_wp2
      go_loopw [21] (fun i wt => ∃ k : Nat, k ≤ 5 ∧ i = .int .i64 k ∧ Hid (w1.grownBy wt (some (w.heap.size + 1 + 1))) ∧ Hid (wt.ownsRow (w.heap.size + 1 + 1) 101 1 (.slice (some ⟨w.heap.size + 1 + 1, 0, none⟩) 5 5) 5 (i64s (sumZ ws L z k)))) (fun i _ => 5 - (intOf i).toNat)
      case atStart => exact ⟨0, by omega, rfl, HG, HO⟩
      case round =>
        obtain ⟨k, hk, rfl, HG2, HO2⟩ := hrel
        by_cases hlt2 : k < 5
        · obtain ⟨br, orr, kr, q0, hbr, q1⟩ := HC1b.out k hlt2
          have r0 := (gb_cell HG2.out b1 (o1 + k) (by omega) (by simp; omega)).trans q0
          have r1 := (gb_cell HG2.out br (orr + z) (by omega) (by simp; omega)).trans (q1 z hlt)
          have r2 : wr.cell? ⟨w.heap.size + 1 + 1, k, none⟩ = some (.int .i64 (momN (ws.getD k []) L z)) := by
            rw [HO2.out.cellAt k (by omega), i64s_get _ k (by rw [HSL.out]; exact hlt2), HSG.out z k hlt2]
          have r3 := HO2.out.frozenAt k
          have hxb := (HRB.out k hlt2 z hlt).2
          have htb := HMB.out k hlt2 z (by omega)
          have HN := Lib.hid (HSZ.out z k hlt2)
          have HYK := Lib.hid (HY.out k)
          rw [HYK.out] at HN
          clear q0 q1 HYK
          generalize (ws.getD k []).getD z 0 = x at *
          generalize momN (ws.getD k []) L z = t at *
          have hxy : 0 ≤ x * y ∧ x * y ≤ 1000 * 150000 := ⟨Int.mul_nonneg hxb.1 hyb.1, Int.mul_le_mul hxb.2 hyb.2 hyb.1 (by omega)⟩
          have hw1 : IntKind.i64.wrap (x * y) = x * y := IntWalk.i64_in _ (by omega)
          have hw2 : IntKind.i64.wrap (t + x * y) = t + x * y := IntWalk.i64_in _ (by omega)
          have hk0 : (0 : Int) ≤ (k : Int) := by omega
          have hk1 : (k : Int) < 5 := by omega
          clear hxb htb hxy
          go_wp2
          go_region
          go_wp2
          go_roundw
          case rel =>
            refine ⟨k + 1, by omega, by go_num, Lib.hid ((gb_set _ _ HG2.out).trans ⟨rfl, rfl, rfl, Nat.le_refl _, fun _ _ _ => rfl⟩), Lib.hid ?_⟩
            rw [← HN.out, ← i64s_setZ]
            exact World.ownsRow.drew ((HO2.out.stored k (.int .i64 (t + x * y))).1)
          case measure => simp [intOf]; omega
        · obtain rfl : k = 5 := by omega
          have HO3 := Lib.hid (show wr.ownsRow (w.heap.size + 1 + 1) 101 1 (.slice (some ⟨w.heap.size + 1 + 1, 0, none⟩) 5 5) 5 (i64s (sumZ ws L (z + 1) 0)) by rw [← HSA.out]; exact HO2.out)
          go_wp2
          go_roundw
          case rel => exact ⟨z + 1, by omega, by go_num, HG2, HO3⟩
          case measure => simp [intOf]; omega
    · obtain rfl : z = nz := by omega
      have hown := HO.out
      rw [sumZ_list] at hown
      have hres := HA1.out.kept HG.out (.inr (by simp [Value.ownBlock]))
      have HBF := Lib.hid (HBW.out.grown HG.out HBW.out.size (fun k e => by cases e; omega))
      have c0 := hown.cellAt 0 (by omega)
      have c1 := hown.cellAt 1 (by omega)
      have c2 := hown.cellAt 2 (by omega)
      have c3 := hown.cellAt 3 (by omega)
      have c5 := hown.cellAt 4 (by omega)
      have d0 := hres.cellAt 0 (by omega)
      have d1 := hres.cellAt 1 (by omega)
      have d2 := hres.cellAt 2 (by omega)
      have d3 := hres.cellAt 3 (by omega)
      have d5 := hres.cellAt 4 (by omega)
      have f0 := hres.frozenAt 0
      have f1 := hres.frozenAt 1
      have f2 := hres.frozenAt 2
      have f3 := hres.frozenAt 3
      have f4 := hres.frozenAt 4
      simp only [i64s, List.map_cons, List.map_nil, List.getElem?_cons_zero, List.getElem?_cons_succ] at c0 c1 c2 c3 c5 d0 d1 d2 d3 d5
      clear hown hres HG HO d4
      go_wp2
      try simp only [Exit.inBlock, Exit.then]
      refine bodyPost_ret_by (v := .agg #[.int .i64 (momN (ws.getD 0 []) L z), .int .i64 (momN (ws.getD 1 []) L z), .int .i64 (momN (ws.getD 2 []) L z), .int .i64 (momN (ws.getD 3 []) L z), .int .i64 (momN (ws.getD 4 []) L z)]) (by rw [results_cellR rfl]; go_simp) rfl ?_
      exact ⟨rfl, ((((HBF.out.setCell (p := ⟨w.heap.size + 1, 0, none⟩) (by show _ ≤ w.heap.size + 1; omega) _).setCell (p := ⟨w.heap.size + 1, 1, none⟩) (by show _ ≤ w.heap.size + 1; omega) _).setCell (p := ⟨w.heap.size + 1, 2, none⟩) (by show _ ≤ w.heap.size + 1; omega) _).setCell (p := ⟨w.heap.size + 1, 3, none⟩) (by show _ ≤ w.heap.size + 1; omega) _).setCell (p := ⟨w.heap.size + 1, 4, none⟩) (by show _ ≤ w.heap.size + 1; omega) _⟩
end Go.Proofs.YtpjopfhkgegahaaGreat
