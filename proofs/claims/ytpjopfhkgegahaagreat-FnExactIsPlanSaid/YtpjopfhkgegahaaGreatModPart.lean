/- The partials of a profile by a model: the program's. -/
import Derived.Test.YtpjopfhkgegahaaGreatModWei
import Derived.Test.YtpjopfhkgegahaaGreatModSnd
import Derived.Test.YtpjopfhkgegahaaGreatG2
set_option linter.unusedVariables false
namespace Go.Proofs.YtpjopfhkgegahaaGreat
open Go.ChangeShapes Go.WideShapes Go.ChangeAt Go.RowKit

/-- The numbers when k rounds are over. -/
def parZ (ms rs : Nat → Int) (k : Nat) : List Int := (List.range 5).map (fun j => if j < k then rs j else ms j)
theorem parZ_len (ms rs : Nat → Int) (k : Nat) : (parZ ms rs k).length = 5 := by simp [parZ]
theorem parZ_get (ms rs : Nat → Int) (k : Nat) (h : k < 5) : (parZ ms rs k).getD k 0 = ms k := by simp [parZ, List.getD, h]
theorem parZ_next (ms rs : Nat → Int) (k : Nat) (h : k < 5) : (parZ ms rs k).set k (rs k) = parZ ms rs (k + 1) := by
  refine List.ext_getElem (by simp [parZ]) fun j h1 h2 => ?_
  have hj : j < 5 := by simpa [parZ] using h2
  rw [List.getElem_set]
  by_cases e : k = j
  · subst e; simp [parZ]
  · rw [if_neg e]
    simp only [parZ, List.getElem_map, List.getElem_range]
    by_cases e2 : j < k
    · rw [if_pos e2, if_pos (by omega)]
    · rw [if_neg e2, if_neg (by omega)]
theorem parZ_0 (ms rs : Nat → Int) : parZ ms rs 0 = [ms 0, ms 1, ms 2, ms 3, ms 4] := by simp [parZ, List.range, List.range.loop]
theorem parZ_5 (ms rs : Nat → Int) : parZ ms rs 5 = [rs 0, rs 1, rs 2, rs 3, rs 4] := by simp [parZ, List.range, List.range.loop]
def momF (zs : List Int) (ws : List (List Int)) (rs : List Rg) (n k : Nat) : Int := momN (ws.getD k []) (zWalls rs zs) n
set_option maxRecDepth 100000 in
set_option maxHeartbeats 4000000 in
theorem partials_any (s : ByteArray) (v v0 v1 v2 : Value) (zs : List Int) (ws : List (List Int)) (bs : List Int) (rs : List Rg) (w : World) (hv : RingsW w v rs) (hs : s.size ≤ maxLen) (h0 : IntsAt w v0 zs) (h1 : RowsAt w v1 ws) (h2 : IntsAt w v2 bs) (hM : modB zs ws bs = true) (hP : profB s rs = true) (hF : fitB rs.length zs = true) :
    Calls Tryz.prog 43 #[.agg #[.string s, v, v0, v0, v1, v2]] w fun e w' => e = .returned (.agg #[.int .i64 (rawK zs ws bs rs 0), .int .i64 (rawK zs ws bs rs 1), .int .i64 (rawK zs ws bs rs 2), .int .i64 (rawK zs ws bs rs 3), .int .i64 (rawK zs ws bs rs 4)]) ∧ Below w.heap.size w w' := by
  obtain ⟨a0, k0, hv0⟩ := ints_form h0
  obtain ⟨a1, k1, hv1⟩ := mrows_form h1
  obtain ⟨hz, ⟨hw5, hb5⟩, hrows, hbase⟩ := mod_iff.1 hM
  obtain ⟨b2, o2, k2, hv2, hbl2, hc2⟩ := ints_cells h2 (by omega)
  obtain ⟨av, cv, hvv⟩ := rings_form hv.1
  have HC2 := Lib.hid hc2
  have HWE := Lib.hid (fun W (hW : Below w.heap.size w W) => weighed_any s v v0 v1 v2 zs ws bs rs W (ringsW_kept hW hv) (ints_kept hW h0) (mrows_kept hW h1) (ints_kept hW h2) hM hP hF)
  have HLS := Lib.hid (fun W (hW : Below w.heap.size w W) => lipSquare_any s v v0 v0 v1 v2 rs W (rings_kept hW hv.1) hs hP ⟨⟨_, _, _, hv0⟩, ⟨_, _, _, hv0⟩, ⟨_, _, _, hv1⟩, ⟨_, _, _, hv2⟩⟩)
  have HRK := Lib.hid (fun k => show rawK zs ws bs rs k = nq (bs.getD k 0 * momF zs ws rs zs.length k) (areaV (rs.getD 0 zR)) from rfl)
  obtain ⟨-, ⟨n1, n2⟩, -, -⟩ := prof_iff.1 hP
  have HBD := Lib.hid (fun (k : Nat) (hk : k < 5) => show (0 ≤ momF zs ws rs zs.length k ∧ momF zs ws rs zs.length k ≤ 1200000000) ∧ 1 ≤ bs.getD k 0 ∧ bs.getD k 0 ≤ 1000000000 by
    have hzl := zones_len hz
    have hrow := row_iff.1 (allRows_at hrows k (by omega))
    have := momN_bd (ws.getD k []) (zWalls rs zs) zs.length (fun j hj => allIn_at hrow.2.1 j (by rw [hrow.1]; exact hj)) (fun j hj => by rw [zWalls_get rs zs j hj]; exact zWall_bd (fun i hi => prof_ring hP i hi) hF j hj)
    exact ⟨by unfold momF; omega, allIn_at hbase k (by omega)⟩)
  have HAB := Lib.hid (area_bd (prof_ring hP 0 (by omega)))
  have HB5 := Lib.hid hb5
  rw [hb5] at hv2 hc2
  rw [hw5] at hv1
  subst hv0 hv1 hv2 hvv
  clear hv h0 h1 h2 hc2
  generalize zs.length = nz at *
  generalize rs.length = nr at *
  obtain ⟨m0, hm0⟩ : ∃ q, momN (ws.getD 0 []) (zWalls rs zs) nz = q := ⟨_, rfl⟩
  obtain ⟨m1, hm1⟩ : ∃ q, momN (ws.getD 1 []) (zWalls rs zs) nz = q := ⟨_, rfl⟩
  obtain ⟨m2, hm2⟩ : ∃ q, momN (ws.getD 2 []) (zWalls rs zs) nz = q := ⟨_, rfl⟩
  obtain ⟨m3, hm3⟩ : ∃ q, momN (ws.getD 3 []) (zWalls rs zs) nz = q := ⟨_, rfl⟩
  obtain ⟨m4, hm4⟩ : ∃ q, momN (ws.getD 4 []) (zWalls rs zs) nz = q := ⟨_, rfl⟩
  rw [hm0, hm1, hm2, hm3, hm4] at HWE
  have HP0 := Lib.hid (show i64s (parZ (momF zs ws rs nz) (rawK zs ws bs rs) 0) = [.int .i64 m0, .int .i64 m1, .int .i64 m2, .int .i64 m3, .int .i64 m4] by rw [parZ_0]; unfold momF; rw [hm0, hm1, hm2, hm3, hm4]; rfl)
  have hba : Below w.heap.size w ((w.alloc (.cells #[.string s, .slice av nr cv, .slice a0 nz k0, .slice a0 nz k0, .slice a1 5 k1, .slice (some ⟨b2, o2, none⟩) 5 k2] 95)).alloc (.cells #[.int .i64 0, .int .i64 0, .int .i64 0, .int .i64 0, .int .i64 0] 101)) := (below_al _ _).alloc (by simp) _
  have hsz : w.heap.size + 1 < ((w.alloc (.cells #[.string s, .slice av nr cv, .slice a0 nz k0, .slice a0 nz k0, .slice a1 5 k1, .slice (some ⟨b2, o2, none⟩) 5 k2] 95)).alloc (.cells #[.int .i64 0, .int .i64 0, .int .i64 0, .int .i64 0, .int .i64 0] 101)).heap.size := by simp
  have z0 : ((w.alloc (.cells #[.string s, .slice av nr cv, .slice a0 nz k0, .slice a0 nz k0, .slice a1 5 k1, .slice (some ⟨b2, o2, none⟩) 5 k2] 95)).alloc (.cells #[.int .i64 0, .int .i64 0, .int .i64 0, .int .i64 0, .int .i64 0] 101)).cell? ⟨w.heap.size, 0, none⟩ = some (.string s) := by go_simp
  have z1 : ((w.alloc (.cells #[.string s, .slice av nr cv, .slice a0 nz k0, .slice a0 nz k0, .slice a1 5 k1, .slice (some ⟨b2, o2, none⟩) 5 k2] 95)).alloc (.cells #[.int .i64 0, .int .i64 0, .int .i64 0, .int .i64 0, .int .i64 0] 101)).cell? ⟨w.heap.size, 1, none⟩ = some (.slice av nr cv) := by go_simp
  have z2 : ((w.alloc (.cells #[.string s, .slice av nr cv, .slice a0 nz k0, .slice a0 nz k0, .slice a1 5 k1, .slice (some ⟨b2, o2, none⟩) 5 k2] 95)).alloc (.cells #[.int .i64 0, .int .i64 0, .int .i64 0, .int .i64 0, .int .i64 0] 101)).cell? ⟨w.heap.size, 2, none⟩ = some (.slice a0 nz k0) := by go_simp
  have z3 : ((w.alloc (.cells #[.string s, .slice av nr cv, .slice a0 nz k0, .slice a0 nz k0, .slice a1 5 k1, .slice (some ⟨b2, o2, none⟩) 5 k2] 95)).alloc (.cells #[.int .i64 0, .int .i64 0, .int .i64 0, .int .i64 0, .int .i64 0] 101)).cell? ⟨w.heap.size, 3, none⟩ = some (.slice a0 nz k0) := by go_simp
  have z4 : ((w.alloc (.cells #[.string s, .slice av nr cv, .slice a0 nz k0, .slice a0 nz k0, .slice a1 5 k1, .slice (some ⟨b2, o2, none⟩) 5 k2] 95)).alloc (.cells #[.int .i64 0, .int .i64 0, .int .i64 0, .int .i64 0, .int .i64 0] 101)).cell? ⟨w.heap.size, 4, none⟩ = some (.slice a1 5 k1) := by go_simp
  have z5 : ((w.alloc (.cells #[.string s, .slice av nr cv, .slice a0 nz k0, .slice a0 nz k0, .slice a1 5 k1, .slice (some ⟨b2, o2, none⟩) 5 k2] 95)).alloc (.cells #[.int .i64 0, .int .i64 0, .int .i64 0, .int .i64 0, .int .i64 0] 101)).cell? ⟨w.heap.size, 5, none⟩ = some (.slice (some ⟨b2, o2, none⟩) 5 k2) := by go_simp
  have hcl : CleanZ ((w.alloc (.cells #[.string s, .slice av nr cv, .slice a0 nz k0, .slice a0 nz k0, .slice a1 5 k1, .slice (some ⟨b2, o2, none⟩) 5 k2] 95)).alloc (.cells #[.int .i64 0, .int .i64 0, .int .i64 0, .int .i64 0, .int .i64 0] 101)) (w.heap.size + 1) := ⟨⟨by go_simp, by go_simp, by go_simp, by go_simp, by go_simp⟩, by go_simp, by go_simp, by go_simp, by go_simp, by go_simp⟩
  clear hm0 hm1 hm2 hm3 hm4 hrows hbase hz hw5 hb5 hM hP hF n1 n2
  have HBA := Lib.hid hba
  clear hba
  generalize areaV (rs.getD 0 zR) = A at *
  go_enter Tryz.func43, Tryz.ntmps43
  go_wp2
  generalize ((w.alloc (.cells #[.string s, .slice av nr cv, .slice a0 nz k0, .slice a0 nz k0, .slice a1 5 k1, .slice (some ⟨b2, o2, none⟩) 5 k2] 95)).alloc (.cells #[.int .i64 0, .int .i64 0, .int .i64 0, .int .i64 0, .int .i64 0] 101)) = wA at *
  have HCL := Lib.hid (fun W (hW : Below wA.heap.size wA W) => cleanZ_kept hW hsz hcl)
  have HSK := Lib.hid (fun W (hW : Below wA.heap.size wA W) => show (W.cell? ⟨w.heap.size, 0, none⟩ = some (.string s) ∧ W.cell? ⟨w.heap.size, 1, none⟩ = some (.slice av nr cv) ∧ W.cell? ⟨w.heap.size, 2, none⟩ = some (.slice a0 nz k0) ∧ W.cell? ⟨w.heap.size, 3, none⟩ = some (.slice a0 nz k0) ∧ W.cell? ⟨w.heap.size, 4, none⟩ = some (.slice a1 5 k1) ∧ W.cell? ⟨w.heap.size, 5, none⟩ = some (.slice (some ⟨b2, o2, none⟩) 5 k2)) ∧ Below wA.heap.size wA W from ⟨⟨(below_cell hW _ _ (by omega)).trans z0, (below_cell hW _ _ (by omega)).trans z1, (below_cell hW _ _ (by omega)).trans z2, (below_cell hW _ _ (by omega)).trans z3, (below_cell hW _ _ (by omega)).trans z4, (below_cell hW _ _ (by omega)).trans z5⟩, hW⟩)
  refine wp_region_held_drew (S := fun W => (W.cell? ⟨w.heap.size, 0, none⟩ = some (.string s) ∧ W.cell? ⟨w.heap.size, 1, none⟩ = some (.slice av nr cv) ∧ W.cell? ⟨w.heap.size, 2, none⟩ = some (.slice a0 nz k0) ∧ W.cell? ⟨w.heap.size, 3, none⟩ = some (.slice a0 nz k0) ∧ W.cell? ⟨w.heap.size, 4, none⟩ = some (.slice a1 5 k1) ∧ W.cell? ⟨w.heap.size, 5, none⟩ = some (.slice (some ⟨b2, o2, none⟩) 5 k2)) ∧ Below wA.heap.size wA W) (by kernel_rfl) (HSK.out _ ⟨rfl, rfl, rfl, Nat.le_refl _, fun _ _ => rfl⟩) (fun hHeld => ?_)
  refine takeH 0 (some 7) (.agg #[.string s, .slice av nr cv, .slice a0 nz k0, .slice a0 nz k0, .slice a1 5 k1, .slice (some ⟨b2, o2, none⟩) 5 k2]) hHeld rfl rfl (by rfl) (by kernel_rfl) (by kernel_rfl) (by kernel_rfl) (fun _ _ _ h => h) (fun wS hSw => ?_) ?_
  · (obtain ⟨⟨u0, u1, u2, u3, u4, u5⟩, u6⟩ := hSw; go_simp; try rfl)
  simp only [Act.put, List.setIfInBounds_toArray, List.set_cons_zero, List.set_cons_succ]
  refine takeH 2 (some 9) (.agg #[.string s, .slice av nr cv, .slice a0 nz k0, .slice a0 nz k0, .slice a1 5 k1, .slice (some ⟨b2, o2, none⟩) 5 k2]) hHeld rfl rfl (by rfl) (by kernel_rfl) (by kernel_rfl) (by kernel_rfl) (fun _ _ _ h => h) (fun wS hSw => ?_) ?_
  · (obtain ⟨⟨u0, u1, u2, u3, u4, u5⟩, u6⟩ := hSw; go_simp; try rfl)
  simp only [Act.put, List.setIfInBounds_toArray, List.set_cons_zero, List.set_cons_succ]
  refine wpAnyH_ready (rs := [1, 4]) (by kernel_rfl) (by simp) ?_
  refine AllReadyH.cons rfl (fun K hK => ?_) ?_
  · go_simp
    go_at_call 69
    refine (HWE.out _ (below_of HBA.out hHeld.2 HBA.out.size)).mono ?_
    rintro e wc1 ⟨rfl, hb⟩
    have hbn := below_of hHeld.2 hb hHeld.2.size
    clear hb
    refine hK.out _ _ (HSK.out _ hbn) (fun hH2 => ?_)
    clear hK K hHeld
    have hHeld := hH2
    clear hH2
    refine wpAnyH_ready (rs := [3, 4]) (by kernel_rfl) (by simp) ?_
    refine AllReadyH.cons rfl (fun K hK => ?_) ?_
    · go_simp
      go_at_call 70
      refine (HLS.out _ (below_of HBA.out hHeld.2 HBA.out.size)).mono ?_
      rintro e wc3 ⟨rfl, hb⟩
      have hbn := below_of hHeld.2 hb hHeld.2.size
      clear hb
      refine hK.out _ _ (HSK.out _ hbn) (fun hH2 => ?_)
      clear hK K hHeld
      have hHeld := hH2
      clear hH2
      refine wpAnyH_ready (rs := [4]) (by kernel_rfl) (by simp) ?_
      refine AllReadyH.cons rfl (fun K hK => ?_) ?_
      · go_simp
        have hbn : Below wA.heap.size wA (wc3.alloc (.cells #[.int .i64 0, .int .i64 0, .int .i64 0, .int .i64 0, .int .i64 0] 101)) := by have := hHeld.2.alloc hHeld.2.size (.cells #[.int .i64 0, .int .i64 0, .int .i64 0, .int .i64 0, .int .i64 0] 101); exact ⟨this.os, this.tape, this.output, this.size, this.block⟩
        have HR := Lib.hid (show (wc3.alloc (.cells #[.int .i64 0, .int .i64 0, .int .i64 0, .int .i64 0, .int .i64 0] 101)).ownsRow wA.heap.size 101 1 (.slice (some ⟨wc3.heap.size, 0, none⟩) 5 5) 5 (i64s [0, 0, 0, 0, 0]) from (World.ownsRow_lit (e := 101) (size := 1) wc3 (i64s [0, 0, 0, 0, 0]).toArray 5 hHeld.2.size (by decide) rfl))
        refine hK.out _ _ (HSK.out _ hbn) (fun hH2 => ?_)
        clear hK K hHeld
        have hHeld := hH2
        clear hH2
        generalize (wc3.alloc (.cells #[.int .i64 0, .int .i64 0, .int .i64 0, .int .i64 0, .int .i64 0] 101)) = wg at *
        generalize wc3.heap.size = G at *
        have hrow := HR.out
        have hGb := (hrow.lt _ rfl).1
        have y0 := hrow.cellAt 0 (by omega)
        have y1 := hrow.cellAt 1 (by omega)
        have y2 := hrow.cellAt 2 (by omega)
        have y3 := hrow.cellAt 3 (by omega)
        have y4 := hrow.cellAt 4 (by omega)
        have f0 := hrow.frozenAt 0
        have f1 := hrow.frozenAt 1
        have f2 := hrow.frozenAt 2
        have f3 := hrow.frozenAt 3
        have f4 := hrow.frozenAt 4
        simp only [i64s, List.map_cons, List.map_nil, List.getElem?_cons_zero, List.getElem?_cons_succ] at y0 y1 y2 y3 y4
        have HR5 := Lib.hid ((((((hrow.stored 0 (.int .i64 m0)).1.stored 1 (.int .i64 m1)).1.stored 2 (.int .i64 m2)).1.stored 3 (.int .i64 m3)).1.stored 4 (.int .i64 m4)).1)
        have hbn := set5 hHeld.2 hGb (.int .i64 m0) (.int .i64 m1) (.int .i64 m2) (.int .i64 m3) (.int .i64 m4)
        clear hrow
        refine wpAnyH_ready (rs := [5]) (by kernel_rfl) (by simp) (AllReadyH.cons rfl (fun K hK => ?_) AllReadyH.nil)
        go_simp
        refine hK.out _ _ (HSK.out _ hbn) (fun hH4 => ?_)
        clear hK K hHeld hbn y0 y1 y2 y3 y4 f0 f1 f2 f3 f4
        refine wpAnyH_ready (rs := [6]) (by kernel_rfl) (by simp) (AllReadyH.cons rfl (fun K hK => ?_) AllReadyH.nil)
        go_simp
        refine hK.out _ _ hH4 (fun hH5 => ?_)
        clear hK K hH5
        refine wpAnyH_done (by kernel_rfl) ?_ _
        have HRF := Lib.hid (show (((((wg.setCell ⟨G, 0, none⟩ (.int .i64 m0)).setCell ⟨G, 1, none⟩ (.int .i64 m1)).setCell ⟨G, 2, none⟩ (.int .i64 m2)).setCell ⟨G, 3, none⟩ (.int .i64 m3)).setCell ⟨G, 4, none⟩ (.int .i64 m4)).ownsRow wA.heap.size 101 1 (.slice (some ⟨G, 0, none⟩) 5 5) 5 (i64s (parZ (momF zs ws rs nz) (rawK zs ws bs rs) 0)) by rw [HP0.out]; have h5 := HR5.out; simp only [i64s, List.map_cons, List.map_nil, List.set_cons_zero, List.set_cons_succ] at h5; exact h5)
        obtain ⟨⟨-, -, -, -, -, s5⟩, hbelow⟩ := hH4
        have HBF := Lib.hid hbelow
        clear HR5 hbelow HR
        generalize (((((wg.setCell ⟨G, 0, none⟩ (.int .i64 m0)).setCell ⟨G, 1, none⟩ (.int .i64 m1)).setCell ⟨G, 2, none⟩ (.int .i64 m2)).setCell ⟨G, 3, none⟩ (.int .i64 m3)).setCell ⟨G, 4, none⟩ (.int .i64 m4)) = wf at *
        go_wp2
        go_loopw [15] (fun i wr => ∃ k : Nat, k ≤ 5 ∧ i = .int .i64 k ∧ Hid (Below wA.heap.size wA wr) ∧ Hid (wr.ownsRow wA.heap.size 101 1 (.slice (some ⟨G, 0, none⟩) 5 5) 5 (i64s (parZ (momF zs ws rs nz) (rawK zs ws bs rs) k)))) (fun i _ => 5 - (intOf i).toNat)
        case atStart => exact ⟨0, by omega, rfl, HBF, HRF⟩
        case round =>
          obtain ⟨k, hk, rfl, HG, HO⟩ := hrel
          by_cases hlt : k < 5
          · have y := (below_cell (below_of HBA.out HG.out HBA.out.size) _ _ hbl2).trans (HC2.out k (by rw [HB5.out]; exact hlt))
            have r2 : wr.cell? ⟨G, k, none⟩ = some (.int .i64 (momF zs ws rs nz k)) := by rw [HO.out.cellAt k (by omega), i64s_get _ k (by rw [parZ_len]; exact hlt), parZ_get _ _ _ hlt]
            obtain ⟨⟨t0, t1⟩, x0, x1⟩ := HBD.out k hlt
            obtain ⟨A0, A1⟩ := HAB.out
            have HN := Lib.hid (parZ_next (momF zs ws rs nz) (rawK zs ws bs rs) k hlt)
            have HKK := Lib.hid (HRK.out k)
            generalize hx : bs.getD k 0 = x at *
            generalize ht : momF zs ws rs nz k = t at *
            have hxt : 0 ≤ x * t ∧ x * t ≤ 1000000000 * 1200000000 := ⟨Int.mul_nonneg (by omega) t0, Int.mul_le_mul x1 t1 t0 (by omega)⟩
            have hw : IntKind.i64.wrap (x * t) = x * t := IntWalk.i64_in _ (by omega)
            have HT := Lib.hid (fun w => nearest_any (x * t) A w (by omega) (by omega))
            have hk0 : (0 : Int) ≤ (k : Int) := by omega
            have hk1 : (k : Int) < 5 := by omega
            clear hxt t0 t1 x0 x1 A0 A1 hx ht
            go_wp2_with fail
            refine (HT.out _).mono ?_
            rintro e w7 ⟨rfl, hb7⟩
            have HO7 := Lib.hid (row_keep1 hb7 HO.out)
            have HG7 := Lib.hid (below_of HG.out hb7 HG.out.size)
            obtain ⟨old, hold⟩ : ∃ old, w7.cell? ⟨G, k, none⟩ = some (.int .i64 old) := ⟨_, by rw [HO7.out.cellAt k (by omega)]; exact i64s_get _ k (by rw [parZ_len]; exact hlt)⟩
            have hf := HO7.out.frozenAt k
            have hGb := (HO7.out.lt _ rfl).1
            clear hb7 y r2
            rw [← HKK.out]
            generalize rawK zs ws bs rs k = q at *
            go_wp2
            go_roundw
            case rel =>
              refine ⟨k + 1, by omega, by go_num, Lib.hid (HG7.out.setCell (p := ⟨G, k, none⟩) hGb _), Lib.hid ?_⟩
              rw [← HN.out, ← i64s_setZ]
              exact (HO7.out.stored k (.int .i64 q)).1
            case measure => simp [intOf]; omega
          · obtain rfl : k = 5 := by omega
            have hown := HO.out
            rw [parZ_5] at hown
            have c0 := hown.cellAt 0 (by omega)
            have c1 := hown.cellAt 1 (by omega)
            have c2 := hown.cellAt 2 (by omega)
            have c3 := hown.cellAt 3 (by omega)
            have c4 := hown.cellAt 4 (by omega)
            simp only [i64s, List.map_cons, List.map_nil, List.getElem?_cons_zero, List.getElem?_cons_succ] at c0 c1 c2 c3 c4
            obtain ⟨⟨b0, b1, b2, b3, b4⟩, f0, f1, f2, f3, f4⟩ := HCL.out _ HG.out
            have HBE := Lib.hid (below_of HBA.out HG.out HBA.out.size)
            obtain ⟨q0, hq0⟩ : ∃ q, rawK zs ws bs rs 0 = q := ⟨_, rfl⟩
            rw [hq0] at c0
            have HQ0 := Lib.hid hq0
            obtain ⟨q1, hq1⟩ : ∃ q, rawK zs ws bs rs 1 = q := ⟨_, rfl⟩
            rw [hq1] at c1
            have HQ1 := Lib.hid hq1
            obtain ⟨q2, hq2⟩ : ∃ q, rawK zs ws bs rs 2 = q := ⟨_, rfl⟩
            rw [hq2] at c2
            have HQ2 := Lib.hid hq2
            obtain ⟨q3, hq3⟩ : ∃ q, rawK zs ws bs rs 3 = q := ⟨_, rfl⟩
            rw [hq3] at c3
            have HQ3 := Lib.hid hq3
            obtain ⟨q4, hq4⟩ : ∃ q, rawK zs ws bs rs 4 = q := ⟨_, rfl⟩
            rw [hq4] at c4
            have HQ4 := Lib.hid hq4
            clear hown HO HG hq0 hq1 hq2 hq3 hq4
            go_wp2
            try simp only [Exit.inBlock, Exit.then]
            refine bodyPost_ret_by (v := .agg #[.int .i64 q0, .int .i64 q1, .int .i64 q2, .int .i64 q3, .int .i64 q4]) (by rw [results_cellR rfl]; go_simp) rfl ?_
            exact ⟨by rw [HQ0.out, HQ1.out, HQ2.out, HQ3.out, HQ4.out], set5 HBE.out (by omega) _ _ _ _ _⟩
      exact AllReadyH.nil
    refine AllReadyH.cons rfl (fun K hK => ?_) ?_
    · go_simp
      have hbn : Below wA.heap.size wA (wc1.alloc (.cells #[.int .i64 0, .int .i64 0, .int .i64 0, .int .i64 0, .int .i64 0] 101)) := by have := hHeld.2.alloc hHeld.2.size (.cells #[.int .i64 0, .int .i64 0, .int .i64 0, .int .i64 0, .int .i64 0] 101); exact ⟨this.os, this.tape, this.output, this.size, this.block⟩
      have HR := Lib.hid (show (wc1.alloc (.cells #[.int .i64 0, .int .i64 0, .int .i64 0, .int .i64 0, .int .i64 0] 101)).ownsRow wA.heap.size 101 1 (.slice (some ⟨wc1.heap.size, 0, none⟩) 5 5) 5 (i64s [0, 0, 0, 0, 0]) from (World.ownsRow_lit (e := 101) (size := 1) wc1 (i64s [0, 0, 0, 0, 0]).toArray 5 hHeld.2.size (by decide) rfl))
      refine hK.out _ _ (HSK.out _ hbn) (fun hH2 => ?_)
      clear hK K hHeld
      have hHeld := hH2
      clear hH2
      generalize (wc1.alloc (.cells #[.int .i64 0, .int .i64 0, .int .i64 0, .int .i64 0, .int .i64 0] 101)) = wg at *
      generalize wc1.heap.size = G at *
      refine wpAnyH_ready (rs := [3]) (by kernel_rfl) (by simp) ?_
      refine AllReadyH.cons rfl (fun K hK => ?_) ?_
      · go_simp
        go_at_call 70
        refine (HLS.out _ (below_of HBA.out hHeld.2 HBA.out.size)).mono ?_
        rintro e wc3 ⟨rfl, hb⟩
        have hbn := below_of hHeld.2 hb hHeld.2.size
        have HR := Lib.hid (row_keep1 hb HR.out)
        clear hb
        refine hK.out _ _ (HSK.out _ hbn) (fun hH2 => ?_)
        clear hK K hHeld
        have hHeld := hH2
        clear hH2
        have hrow := HR.out
        have hGb := (hrow.lt _ rfl).1
        have y0 := hrow.cellAt 0 (by omega)
        have y1 := hrow.cellAt 1 (by omega)
        have y2 := hrow.cellAt 2 (by omega)
        have y3 := hrow.cellAt 3 (by omega)
        have y4 := hrow.cellAt 4 (by omega)
        have f0 := hrow.frozenAt 0
        have f1 := hrow.frozenAt 1
        have f2 := hrow.frozenAt 2
        have f3 := hrow.frozenAt 3
        have f4 := hrow.frozenAt 4
        simp only [i64s, List.map_cons, List.map_nil, List.getElem?_cons_zero, List.getElem?_cons_succ] at y0 y1 y2 y3 y4
        have HR5 := Lib.hid ((((((hrow.stored 0 (.int .i64 m0)).1.stored 1 (.int .i64 m1)).1.stored 2 (.int .i64 m2)).1.stored 3 (.int .i64 m3)).1.stored 4 (.int .i64 m4)).1)
        have hbn := set5 hHeld.2 hGb (.int .i64 m0) (.int .i64 m1) (.int .i64 m2) (.int .i64 m3) (.int .i64 m4)
        clear hrow
        refine wpAnyH_ready (rs := [5]) (by kernel_rfl) (by simp) (AllReadyH.cons rfl (fun K hK => ?_) AllReadyH.nil)
        go_simp
        refine hK.out _ _ (HSK.out _ hbn) (fun hH4 => ?_)
        clear hK K hHeld hbn y0 y1 y2 y3 y4 f0 f1 f2 f3 f4
        refine wpAnyH_ready (rs := [6]) (by kernel_rfl) (by simp) (AllReadyH.cons rfl (fun K hK => ?_) AllReadyH.nil)
        go_simp
        refine hK.out _ _ hH4 (fun hH5 => ?_)
        clear hK K hH5
        refine wpAnyH_done (by kernel_rfl) ?_ _
        have HRF := Lib.hid (show (((((wc3.setCell ⟨G, 0, none⟩ (.int .i64 m0)).setCell ⟨G, 1, none⟩ (.int .i64 m1)).setCell ⟨G, 2, none⟩ (.int .i64 m2)).setCell ⟨G, 3, none⟩ (.int .i64 m3)).setCell ⟨G, 4, none⟩ (.int .i64 m4)).ownsRow wA.heap.size 101 1 (.slice (some ⟨G, 0, none⟩) 5 5) 5 (i64s (parZ (momF zs ws rs nz) (rawK zs ws bs rs) 0)) by rw [HP0.out]; have h5 := HR5.out; simp only [i64s, List.map_cons, List.map_nil, List.set_cons_zero, List.set_cons_succ] at h5; exact h5)
        obtain ⟨⟨-, -, -, -, -, s5⟩, hbelow⟩ := hH4
        have HBF := Lib.hid hbelow
        clear HR5 hbelow HR
        generalize (((((wc3.setCell ⟨G, 0, none⟩ (.int .i64 m0)).setCell ⟨G, 1, none⟩ (.int .i64 m1)).setCell ⟨G, 2, none⟩ (.int .i64 m2)).setCell ⟨G, 3, none⟩ (.int .i64 m3)).setCell ⟨G, 4, none⟩ (.int .i64 m4)) = wf at *
        go_wp2
        go_loopw [15] (fun i wr => ∃ k : Nat, k ≤ 5 ∧ i = .int .i64 k ∧ Hid (Below wA.heap.size wA wr) ∧ Hid (wr.ownsRow wA.heap.size 101 1 (.slice (some ⟨G, 0, none⟩) 5 5) 5 (i64s (parZ (momF zs ws rs nz) (rawK zs ws bs rs) k)))) (fun i _ => 5 - (intOf i).toNat)
        case atStart => exact ⟨0, by omega, rfl, HBF, HRF⟩
        case round =>
          obtain ⟨k, hk, rfl, HG, HO⟩ := hrel
          by_cases hlt : k < 5
          · have y := (below_cell (below_of HBA.out HG.out HBA.out.size) _ _ hbl2).trans (HC2.out k (by rw [HB5.out]; exact hlt))
            have r2 : wr.cell? ⟨G, k, none⟩ = some (.int .i64 (momF zs ws rs nz k)) := by rw [HO.out.cellAt k (by omega), i64s_get _ k (by rw [parZ_len]; exact hlt), parZ_get _ _ _ hlt]
            obtain ⟨⟨t0, t1⟩, x0, x1⟩ := HBD.out k hlt
            obtain ⟨A0, A1⟩ := HAB.out
            have HN := Lib.hid (parZ_next (momF zs ws rs nz) (rawK zs ws bs rs) k hlt)
            have HKK := Lib.hid (HRK.out k)
            generalize hx : bs.getD k 0 = x at *
            generalize ht : momF zs ws rs nz k = t at *
            have hxt : 0 ≤ x * t ∧ x * t ≤ 1000000000 * 1200000000 := ⟨Int.mul_nonneg (by omega) t0, Int.mul_le_mul x1 t1 t0 (by omega)⟩
            have hw : IntKind.i64.wrap (x * t) = x * t := IntWalk.i64_in _ (by omega)
            have HT := Lib.hid (fun w => nearest_any (x * t) A w (by omega) (by omega))
            have hk0 : (0 : Int) ≤ (k : Int) := by omega
            have hk1 : (k : Int) < 5 := by omega
            clear hxt t0 t1 x0 x1 A0 A1 hx ht
            go_wp2_with fail
            refine (HT.out _).mono ?_
            rintro e w7 ⟨rfl, hb7⟩
            have HO7 := Lib.hid (row_keep1 hb7 HO.out)
            have HG7 := Lib.hid (below_of HG.out hb7 HG.out.size)
            obtain ⟨old, hold⟩ : ∃ old, w7.cell? ⟨G, k, none⟩ = some (.int .i64 old) := ⟨_, by rw [HO7.out.cellAt k (by omega)]; exact i64s_get _ k (by rw [parZ_len]; exact hlt)⟩
            have hf := HO7.out.frozenAt k
            have hGb := (HO7.out.lt _ rfl).1
            clear hb7 y r2
            rw [← HKK.out]
            generalize rawK zs ws bs rs k = q at *
            go_wp2
            go_roundw
            case rel =>
              refine ⟨k + 1, by omega, by go_num, Lib.hid (HG7.out.setCell (p := ⟨G, k, none⟩) hGb _), Lib.hid ?_⟩
              rw [← HN.out, ← i64s_setZ]
              exact (HO7.out.stored k (.int .i64 q)).1
            case measure => simp [intOf]; omega
          · obtain rfl : k = 5 := by omega
            have hown := HO.out
            rw [parZ_5] at hown
            have c0 := hown.cellAt 0 (by omega)
            have c1 := hown.cellAt 1 (by omega)
            have c2 := hown.cellAt 2 (by omega)
            have c3 := hown.cellAt 3 (by omega)
            have c4 := hown.cellAt 4 (by omega)
            simp only [i64s, List.map_cons, List.map_nil, List.getElem?_cons_zero, List.getElem?_cons_succ] at c0 c1 c2 c3 c4
            obtain ⟨⟨b0, b1, b2, b3, b4⟩, f0, f1, f2, f3, f4⟩ := HCL.out _ HG.out
            have HBE := Lib.hid (below_of HBA.out HG.out HBA.out.size)
            obtain ⟨q0, hq0⟩ : ∃ q, rawK zs ws bs rs 0 = q := ⟨_, rfl⟩
            rw [hq0] at c0
            have HQ0 := Lib.hid hq0
            obtain ⟨q1, hq1⟩ : ∃ q, rawK zs ws bs rs 1 = q := ⟨_, rfl⟩
            rw [hq1] at c1
            have HQ1 := Lib.hid hq1
            obtain ⟨q2, hq2⟩ : ∃ q, rawK zs ws bs rs 2 = q := ⟨_, rfl⟩
            rw [hq2] at c2
            have HQ2 := Lib.hid hq2
            obtain ⟨q3, hq3⟩ : ∃ q, rawK zs ws bs rs 3 = q := ⟨_, rfl⟩
            rw [hq3] at c3
            have HQ3 := Lib.hid hq3
            obtain ⟨q4, hq4⟩ : ∃ q, rawK zs ws bs rs 4 = q := ⟨_, rfl⟩
            rw [hq4] at c4
            have HQ4 := Lib.hid hq4
            clear hown HO HG hq0 hq1 hq2 hq3 hq4
            go_wp2
            try simp only [Exit.inBlock, Exit.then]
            refine bodyPost_ret_by (v := .agg #[.int .i64 q0, .int .i64 q1, .int .i64 q2, .int .i64 q3, .int .i64 q4]) (by rw [results_cellR rfl]; go_simp) rfl ?_
            exact ⟨by rw [HQ0.out, HQ1.out, HQ2.out, HQ3.out, HQ4.out], set5 HBE.out (by omega) _ _ _ _ _⟩
      exact AllReadyH.nil
    exact AllReadyH.nil
  refine AllReadyH.cons rfl (fun K hK => ?_) ?_
  · go_simp
    have hbn : Below wA.heap.size wA (wA.alloc (.cells #[.int .i64 0, .int .i64 0, .int .i64 0, .int .i64 0, .int .i64 0] 101)).drew := by have := hHeld.2.alloc hHeld.2.size (.cells #[.int .i64 0, .int .i64 0, .int .i64 0, .int .i64 0, .int .i64 0] 101); exact ⟨this.os, this.tape, this.output, this.size, this.block⟩
    have HR := Lib.hid (show (wA.alloc (.cells #[.int .i64 0, .int .i64 0, .int .i64 0, .int .i64 0, .int .i64 0] 101)).drew.ownsRow wA.heap.size 101 1 (.slice (some ⟨wA.heap.size, 0, none⟩) 5 5) 5 (i64s [0, 0, 0, 0, 0]) from World.ownsRow.drew (World.ownsRow_lit (e := 101) (size := 1) wA (i64s [0, 0, 0, 0, 0]).toArray 5 hHeld.2.size (by decide) rfl))
    refine hK.out _ _ (HSK.out _ hbn) (fun hH2 => ?_)
    clear hK K hHeld
    have hHeld := hH2
    clear hH2
    generalize (wA.alloc (.cells #[.int .i64 0, .int .i64 0, .int .i64 0, .int .i64 0, .int .i64 0] 101)).drew = wg at *
    obtain ⟨G, hG⟩ : ∃ G, wA.heap.size = G := ⟨_, rfl⟩
    have HR := Lib.hid (show wg.ownsRow wA.heap.size 101 1 (.slice (some ⟨G, 0, none⟩) 5 5) 5 (i64s [0, 0, 0, 0, 0]) by rw [← hG]; exact HR.out)
    rw [show (Value.pointer (some ⟨wA.heap.size, 0, none⟩)) = .pointer (some ⟨G, 0, none⟩) by rw [hG]]
    clear hG
    refine wpAnyH_ready (rs := [1]) (by kernel_rfl) (by simp) ?_
    refine AllReadyH.cons rfl (fun K hK => ?_) ?_
    · go_simp
      go_at_call 69
      refine (HWE.out _ (below_of HBA.out hHeld.2 HBA.out.size)).mono ?_
      rintro e wc1 ⟨rfl, hb⟩
      have hbn := below_of hHeld.2 hb hHeld.2.size
      have HR := Lib.hid (row_keep1 hb HR.out)
      clear hb
      refine hK.out _ _ (HSK.out _ hbn) (fun hH2 => ?_)
      clear hK K hHeld
      have hHeld := hH2
      clear hH2
      refine wpAnyH_ready (rs := [3]) (by kernel_rfl) (by simp) ?_
      refine AllReadyH.cons rfl (fun K hK => ?_) ?_
      · go_simp
        go_at_call 70
        refine (HLS.out _ (below_of HBA.out hHeld.2 HBA.out.size)).mono ?_
        rintro e wc3 ⟨rfl, hb⟩
        have hbn := below_of hHeld.2 hb hHeld.2.size
        have HR := Lib.hid (row_keep1 hb HR.out)
        clear hb
        refine hK.out _ _ (HSK.out _ hbn) (fun hH2 => ?_)
        clear hK K hHeld
        have hHeld := hH2
        clear hH2
        have hrow := HR.out
        have hGb := (hrow.lt _ rfl).1
        have y0 := hrow.cellAt 0 (by omega)
        have y1 := hrow.cellAt 1 (by omega)
        have y2 := hrow.cellAt 2 (by omega)
        have y3 := hrow.cellAt 3 (by omega)
        have y4 := hrow.cellAt 4 (by omega)
        have f0 := hrow.frozenAt 0
        have f1 := hrow.frozenAt 1
        have f2 := hrow.frozenAt 2
        have f3 := hrow.frozenAt 3
        have f4 := hrow.frozenAt 4
        simp only [i64s, List.map_cons, List.map_nil, List.getElem?_cons_zero, List.getElem?_cons_succ] at y0 y1 y2 y3 y4
        have HR5 := Lib.hid ((((((hrow.stored 0 (.int .i64 m0)).1.stored 1 (.int .i64 m1)).1.stored 2 (.int .i64 m2)).1.stored 3 (.int .i64 m3)).1.stored 4 (.int .i64 m4)).1)
        have hbn := set5 hHeld.2 hGb (.int .i64 m0) (.int .i64 m1) (.int .i64 m2) (.int .i64 m3) (.int .i64 m4)
        clear hrow
        refine wpAnyH_ready (rs := [5]) (by kernel_rfl) (by simp) (AllReadyH.cons rfl (fun K hK => ?_) AllReadyH.nil)
        go_simp
        refine hK.out _ _ (HSK.out _ hbn) (fun hH4 => ?_)
        clear hK K hHeld hbn y0 y1 y2 y3 y4 f0 f1 f2 f3 f4
        refine wpAnyH_ready (rs := [6]) (by kernel_rfl) (by simp) (AllReadyH.cons rfl (fun K hK => ?_) AllReadyH.nil)
        go_simp
        refine hK.out _ _ hH4 (fun hH5 => ?_)
        clear hK K hH5
        refine wpAnyH_done (by kernel_rfl) ?_ _
        have HRF := Lib.hid (show (((((wc3.setCell ⟨G, 0, none⟩ (.int .i64 m0)).setCell ⟨G, 1, none⟩ (.int .i64 m1)).setCell ⟨G, 2, none⟩ (.int .i64 m2)).setCell ⟨G, 3, none⟩ (.int .i64 m3)).setCell ⟨G, 4, none⟩ (.int .i64 m4)).ownsRow wA.heap.size 101 1 (.slice (some ⟨G, 0, none⟩) 5 5) 5 (i64s (parZ (momF zs ws rs nz) (rawK zs ws bs rs) 0)) by rw [HP0.out]; have h5 := HR5.out; simp only [i64s, List.map_cons, List.map_nil, List.set_cons_zero, List.set_cons_succ] at h5; exact h5)
        obtain ⟨⟨-, -, -, -, -, s5⟩, hbelow⟩ := hH4
        have HBF := Lib.hid hbelow
        clear HR5 hbelow HR
        generalize (((((wc3.setCell ⟨G, 0, none⟩ (.int .i64 m0)).setCell ⟨G, 1, none⟩ (.int .i64 m1)).setCell ⟨G, 2, none⟩ (.int .i64 m2)).setCell ⟨G, 3, none⟩ (.int .i64 m3)).setCell ⟨G, 4, none⟩ (.int .i64 m4)) = wf at *
        go_wp2
        go_loopw [15] (fun i wr => ∃ k : Nat, k ≤ 5 ∧ i = .int .i64 k ∧ Hid (Below wA.heap.size wA wr) ∧ Hid (wr.ownsRow wA.heap.size 101 1 (.slice (some ⟨G, 0, none⟩) 5 5) 5 (i64s (parZ (momF zs ws rs nz) (rawK zs ws bs rs) k)))) (fun i _ => 5 - (intOf i).toNat)
        case atStart => exact ⟨0, by omega, rfl, HBF, HRF⟩
        case round =>
          obtain ⟨k, hk, rfl, HG, HO⟩ := hrel
          by_cases hlt : k < 5
          · have y := (below_cell (below_of HBA.out HG.out HBA.out.size) _ _ hbl2).trans (HC2.out k (by rw [HB5.out]; exact hlt))
            have r2 : wr.cell? ⟨G, k, none⟩ = some (.int .i64 (momF zs ws rs nz k)) := by rw [HO.out.cellAt k (by omega), i64s_get _ k (by rw [parZ_len]; exact hlt), parZ_get _ _ _ hlt]
            obtain ⟨⟨t0, t1⟩, x0, x1⟩ := HBD.out k hlt
            obtain ⟨A0, A1⟩ := HAB.out
            have HN := Lib.hid (parZ_next (momF zs ws rs nz) (rawK zs ws bs rs) k hlt)
            have HKK := Lib.hid (HRK.out k)
            generalize hx : bs.getD k 0 = x at *
            generalize ht : momF zs ws rs nz k = t at *
            have hxt : 0 ≤ x * t ∧ x * t ≤ 1000000000 * 1200000000 := ⟨Int.mul_nonneg (by omega) t0, Int.mul_le_mul x1 t1 t0 (by omega)⟩
            have hw : IntKind.i64.wrap (x * t) = x * t := IntWalk.i64_in _ (by omega)
            have HT := Lib.hid (fun w => nearest_any (x * t) A w (by omega) (by omega))
            have hk0 : (0 : Int) ≤ (k : Int) := by omega
            have hk1 : (k : Int) < 5 := by omega
            clear hxt t0 t1 x0 x1 A0 A1 hx ht
            go_wp2_with fail
            refine (HT.out _).mono ?_
            rintro e w7 ⟨rfl, hb7⟩
            have HO7 := Lib.hid (row_keep1 hb7 HO.out)
            have HG7 := Lib.hid (below_of HG.out hb7 HG.out.size)
            obtain ⟨old, hold⟩ : ∃ old, w7.cell? ⟨G, k, none⟩ = some (.int .i64 old) := ⟨_, by rw [HO7.out.cellAt k (by omega)]; exact i64s_get _ k (by rw [parZ_len]; exact hlt)⟩
            have hf := HO7.out.frozenAt k
            have hGb := (HO7.out.lt _ rfl).1
            clear hb7 y r2
            rw [← HKK.out]
            generalize rawK zs ws bs rs k = q at *
            go_wp2
            go_roundw
            case rel =>
              refine ⟨k + 1, by omega, by go_num, Lib.hid (HG7.out.setCell (p := ⟨G, k, none⟩) hGb _), Lib.hid ?_⟩
              rw [← HN.out, ← i64s_setZ]
              exact (HO7.out.stored k (.int .i64 q)).1
            case measure => simp [intOf]; omega
          · obtain rfl : k = 5 := by omega
            have hown := HO.out
            rw [parZ_5] at hown
            have c0 := hown.cellAt 0 (by omega)
            have c1 := hown.cellAt 1 (by omega)
            have c2 := hown.cellAt 2 (by omega)
            have c3 := hown.cellAt 3 (by omega)
            have c4 := hown.cellAt 4 (by omega)
            simp only [i64s, List.map_cons, List.map_nil, List.getElem?_cons_zero, List.getElem?_cons_succ] at c0 c1 c2 c3 c4
            obtain ⟨⟨b0, b1, b2, b3, b4⟩, f0, f1, f2, f3, f4⟩ := HCL.out _ HG.out
            have HBE := Lib.hid (below_of HBA.out HG.out HBA.out.size)
            obtain ⟨q0, hq0⟩ : ∃ q, rawK zs ws bs rs 0 = q := ⟨_, rfl⟩
            rw [hq0] at c0
            have HQ0 := Lib.hid hq0
            obtain ⟨q1, hq1⟩ : ∃ q, rawK zs ws bs rs 1 = q := ⟨_, rfl⟩
            rw [hq1] at c1
            have HQ1 := Lib.hid hq1
            obtain ⟨q2, hq2⟩ : ∃ q, rawK zs ws bs rs 2 = q := ⟨_, rfl⟩
            rw [hq2] at c2
            have HQ2 := Lib.hid hq2
            obtain ⟨q3, hq3⟩ : ∃ q, rawK zs ws bs rs 3 = q := ⟨_, rfl⟩
            rw [hq3] at c3
            have HQ3 := Lib.hid hq3
            obtain ⟨q4, hq4⟩ : ∃ q, rawK zs ws bs rs 4 = q := ⟨_, rfl⟩
            rw [hq4] at c4
            have HQ4 := Lib.hid hq4
            clear hown HO HG hq0 hq1 hq2 hq3 hq4
            go_wp2
            try simp only [Exit.inBlock, Exit.then]
            refine bodyPost_ret_by (v := .agg #[.int .i64 q0, .int .i64 q1, .int .i64 q2, .int .i64 q3, .int .i64 q4]) (by rw [results_cellR rfl]; go_simp) rfl ?_
            exact ⟨by rw [HQ0.out, HQ1.out, HQ2.out, HQ3.out, HQ4.out], set5 HBE.out (by omega) _ _ _ _ _⟩
      exact AllReadyH.nil
    exact AllReadyH.nil
  exact AllReadyH.nil
end Go.Proofs.YtpjopfhkgegahaaGreat
