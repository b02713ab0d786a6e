/- The walls of zones: the program. -/
import Derived.Test.YtpjopfhkgegahaaGreatWallMath
import Derived.Test.YtpjopfhkgegahaaGreatSumWall
import Derived.Test.YtpjopfhkgegahaaGreatDiv
import Derived.Test.YtpjopfhkgegahaaGreatModImpl
import Derived.Test.YtpjopfhkgegahaaGreatRowsLaw
import Derived.Test.YtpjopfhkgegahaaGreatG2
import Derived.Test.YtpjopfhkgegahaaGreatRingsW
set_option linter.unusedVariables false
namespace Go.Proofs.YtpjopfhkgegahaaGreat
open Go.ChangeShapes Go.WideShapes Go.ChangeAt Go.RowKit

theorem rings_sub {w : World} {b off : Nat} {rs : List Rg} (hc : ∀ i, i < rs.length → RingIn w b (off + i * 3) (rs.getD i zR)) (be l : Nat) (hl : be + l ≤ rs.length) : ∀ i, i < l → RingIn w b (off + be * 3 + i * 3) ((rs.drop be).getD i zR) := by
  intro i hi
  have h := hc (be + i) (by omega)
  have e : off + (be + i) * 3 = off + be * 3 + i * 3 := by omega
  rw [e] at h
  have e2 : (rs.drop be).getD i zR = rs.getD (be + i) zR := by
    rw [List.getD_eq_getElem?_getD, List.getD_eq_getElem?_getD, List.getElem?_drop]
  rw [e2]
  exact h
theorem sumV_walls (rs : List Rg) (be : Nat) (u : Nat → Pr) (k : Nat) (hu : ∀ j, j < k → (u j).1 = rs.getD (be + j) zR) : sumV (fun x => x.1.1 - x.1.2.1) (uptoV u k) = wallsTo rs be k := by
  induction k with
  | zero => simp [uptoV, sumV, wallsTo]
  | succ k ih =>
    rw [uptoV_succ, sumV_snoc, ih (fun j hj => hu j (by omega)), wallsTo, hu k (by omega)]
set_option maxRecDepth 20000 in
set_option maxHeartbeats 2000000 in
theorem part_any (zs : List Int) (rs : List Rg) (b off cap bz oz cz z : Nat) (w : World) (hfit : fitB rs.length zs = true) (hz : z < zs.length) (hb : b < w.heap.size) (hcap : rs.length ≤ cap) (h32 : rs.length ≤ 32) (hcz : ∀ j, j < zs.length → w.cell? ⟨bz, oz + j, none⟩ = some (.int .i64 (zs.getD j 0))) :
    Calls Tryz.prog 124 #[.slice (some ⟨bz, oz, none⟩) zs.length cz, .slice (some ⟨b, off, none⟩) rs.length cap, .int .i64 z] w fun e w' => (∃ c, e = .returned (.slice (some ⟨b, off + zBeg zs z * 3, none⟩) (zLen zs rs.length z) c)) ∧ Below w.heap.size w w' := by
  obtain ⟨⟨m1, m8⟩, -, -, -⟩ := fit_facts hfit
  have hbe := zbeg_int hfit z hz
  have hsp := zone_span hfit z hz
  have x0 : w.cell? ⟨bz, oz + z, none⟩ = some (.int .i64 (zBeg zs z : Int)) := by rw [hbe.1]; exact hcz z hz
  have HX1 := Lib.hid (fun (hl : z + 1 < zs.length) => show w.cell? ⟨bz, oz + (z + 1), none⟩ = some (.int .i64 (zBeg zs (z + 1) : Int)) by rw [(zbeg_int hfit (z + 1) hl).1]; exact hcz (z + 1) hl)
  have HE := Lib.hid (show zEnd zs rs.length z = if z + 1 < zs.length then zBeg zs (z + 1) else rs.length from rfl)
  have HL := Lib.hid (show zLen zs rs.length z = zEnd zs rs.length z - zBeg zs z from rfl)
  clear hcz hfit
  generalize zLen zs rs.length z = ll at *
  generalize zEnd zs rs.length z = en at *
  generalize rs.length = n at *
  generalize zs.length = m at *
  generalize zBeg zs (z + 1) = b1 at *
  generalize zBeg zs z = be at *
  have hz0 : (0 : Int) ≤ (z : Int) := by omega
  have hz1 : (z : Int) < (m : Int) := by omega
  have hb0 : (0 : Int) ≤ (be : Int) := by omega
  have hbc : (be : Int) ≤ (cap : Int) := by omega
  have hbn : (be : Int) ≤ (n : Int) := by omega
  have HBE := Lib.hid hbe.2
  clear hbe
  by_cases hl : z + 1 < m
  · have hEN : en = b1 := by rw [HE.out, if_pos hl]
    have x1 := HX1.out hl
    have hq : ((z : Int) == (m : Int) - 1) = false := beq_eq_false_iff_ne.2 (by omega)
    have h1 : (be : Int) ≤ (b1 : Int) := by omega
    have h2 : (b1 : Int) ≤ (cap : Int) := by omega
    have h3 : (0 : Int) ≤ (b1 : Int) := by omega
    have h4 : (z : Int) + 1 < (m : Int) := by omega
    have HLL := Lib.hid (show ll = b1 - be by rw [HL.out, hEN])
    have hne : ¬ cap = be := by omega
    clear hEN
    go_enter Tryz.func124, Tryz.ntmps124
    go_wp2
    go_quiet (fail)
    go_wp2
    go_ret
    exact ⟨⟨cap - be, by rw [HLL.out]; rfl⟩, below_drewN _ _⟩
  · have hEN : en = n := by rw [HE.out, if_neg hl]
    have hq : ((z : Int) == (m : Int) - 1) = true := beq_iff_eq.2 (by omega)
    have HLL := Lib.hid (show ll = n - be by rw [HL.out, hEN])
    have hne : ¬ cap = be := by omega
    clear hEN
    go_enter Tryz.func124, Tryz.ntmps124
    go_wp2
    go_ret
    exact ⟨⟨cap - be, by rw [HLL.out]; rfl⟩, Below.refl _ _⟩
set_option maxRecDepth 100000 in
set_option maxHeartbeats 4000000 in
theorem walls_any (s : ByteArray) (v vz : Value) (rs : List Rg) (zs : List Int) (w : World) (hv : Hid (RingsW w v rs)) (hz : IntsAt w vz zs) (hR : ∀ i, i < rs.length → ringB (rs.getD i zR) = true) (h32 : 1 ≤ rs.length ∧ rs.length ≤ 32) (hfit : fitB rs.length zs = true) :
    Calls Tryz.prog 102 #[.agg #[.string s, v, vz]] w fun e w' => (∃ v, e = .returned v ∧ OwnInts w' w.heap.size v (zWalls rs zs)) ∧ Below w.heap.size w w' := by
  obtain ⟨i0, hi, hz0, hz1, hz2⟩ := info_parts infoI64
  obtain ⟨⟨m1, m8⟩, -, -, -⟩ := fit_facts hfit
  obtain ⟨bz, oz, cz, rfl, hbz, hcz⟩ := ints_cells hz (by omega)
  obtain ⟨b, off, cap, rfl, hbl, hcap, hc⟩ := ringsW_cells hv.out (by omega)
  obtain ⟨u0, hu0⟩ := pr_ex rs hR
  have HU0 := Lib.hid hu0
  have HPART := Lib.hid (fun (z : Nat) (hz : z < zs.length) (W : World) (hW : Below w.heap.size w W) => part_any zs rs b off cap bz oz cz z W hfit hz (Nat.lt_of_lt_of_le hbl hW.size) hcap h32.2 (fun j hj => (below_cell hW _ _ hbz).trans (hcz j hj)))
  have HSUB := Lib.hid (fun (W : World) (hW : Below w.heap.size w W) be l hl => rings_sub (w := W) (b := b) (off := off) (rs := rs) (fun i hi => ⟨(below_cell hW _ _ hbl).trans (hc i hi).c0, (below_cell hW _ _ hbl).trans (hc i hi).c1, (below_cell hW _ _ hbl).trans (hc i hi).c2⟩) be l hl)
  have HSP := Lib.hid (fun z hz => zone_span hfit z hz)
  have HWB := Lib.hid (fun a k hk => wallsTo_bd hR a k hk)
  have HLL := Lib.hid (zWalls_len rs zs)
  have HG := Lib.hid (fun j h => zWalls_get rs zs j h)
  have HNX := Lib.hid (copied_next (zWalls rs zs))
  have HCL := Lib.hid (copied_len (zWalls rs zs))
  have HZL := Lib.hid (fun z => show zLen zs rs.length z = zEnd zs rs.length z - zBeg zs z from rfl)
  have HZW := Lib.hid (fun z => show zWall rs zs z = nq (wallsTo rs (zBeg zs z) (zLen zs rs.length z)) (zLen zs rs.length z) from rfl)
  clear hcz hc hu0 hv hfit hR hz
  obtain ⟨n1, n32⟩ := h32
  obtain ⟨n, hn⟩ : ∃ n, rs.length = n := ⟨_, rfl⟩
  obtain ⟨m, hm⟩ : ∃ m, zs.length = m := ⟨_, rfl⟩
  rw [hn] at HPART HSUB HSP HWB HZL HZW HU0 n1 n32 hcap
  rw [hm] at HPART HSP HLL HG m1 m8
  rw [hn, hm]
  have HN := Lib.hid hn
  have HM := Lib.hid hm
  clear hn hm
  have hba := (Below.refl w.heap.size w).alloc (Nat.le_refl _) (.cells #[.string s, .slice (some ⟨b, off, none⟩) n cap, .slice (some ⟨bz, oz, none⟩) m cz] 93)
  have hal : w.heap.size < (w.alloc (.cells #[.string s, .slice (some ⟨b, off, none⟩) n cap, .slice (some ⟨bz, oz, none⟩) m cz] 93)).heap.size := by simp
  have q1 : (w.alloc (.cells #[.string s, .slice (some ⟨b, off, none⟩) n cap, .slice (some ⟨bz, oz, none⟩) m cz] 93)).cell? ⟨w.heap.size, 1, none⟩ = some (.slice (some ⟨b, off, none⟩) n cap) := by go_simp
  have q2 : (w.alloc (.cells #[.string s, .slice (some ⟨b, off, none⟩) n cap, .slice (some ⟨bz, oz, none⟩) m cz] 93)).cell? ⟨w.heap.size, 2, none⟩ = some (.slice (some ⟨bz, oz, none⟩) m cz) := by go_simp
  have HQ1 := Lib.hid q1
  have HQ2 := Lib.hid q2
  have HBA := Lib.hid hba
  have HAL := Lib.hid hal
  clear q1 q2 hba
  go_enter Tryz.func102, Tryz.ntmps102
  go_wp2_with (at_make; generalize w.alloc (.cells #[.string s, .slice (some ⟨b, off, none⟩) n cap, .slice (some ⟨bz, oz, none⟩) m cz] 93) = wA at *; refine wpList_make_full _ rfl _ _ 22 rfl wA.heap.size 2 i0 (.int .i64 0) 1 Tryz.underlying22 hi hz0 hz1 .i64 .i64 _ _ m rfl rfl rfl rfl (by rw [hz2]; omega) (by unfold maxLen; omega) (Nat.le_refl _) ?_; intro w0 hown hgrow)
  have HB0 := Lib.hid ((Below.refl wA.heap.size wA).grown hgrow (Nat.le_refl _) (fun k hk => by cases hk))
  rw [made_ints] at hown
  have HO0 := Lib.hid (show w0.ownsRow wA.heap.size 2 1 (.slice (some ⟨wA.heap.size, 0, none⟩) m m) m (i64s (copied (zWalls rs zs) 0)) by unfold copied; rw [HLL.out, Nat.sub_zero, List.take_zero, List.nil_append]; exact hown)
  clear hgrow hown
  go_wp2
  go_loopw [12] (fun i wr => ∃ k : Nat, k ≤ m ∧ i = .int .i64 k ∧ wr.ownsRow wA.heap.size 2 1 (.slice (some ⟨wA.heap.size, 0, none⟩) m m) m (i64s (copied (zWalls rs zs) k)) ∧ Below wA.heap.size wA wr) (fun i _ => m - (intOf i).toNat)
  case atStart => exact ⟨0, by omega, rfl, HO0.out, HB0.out⟩
  case round =>
    obtain ⟨k, hk, rfl, hown, hbw⟩ := hrel
    have HO := Lib.hid hown
    have HB := Lib.hid hbw
    have c1 := (below_cell hbw _ _ HAL.out).trans HQ1.out
    have c2 := (below_cell hbw _ _ HAL.out).trans HQ2.out
    clear hown hbw
    by_cases hlt : k < m
    · have hk1 : (k : Int) < (m : Int) := by omega
      have hk0 : (0 : Int) ≤ (k : Int) := by omega
      have hsp := HSP.out k hlt
      have hzl := HZL.out k
      have HZK := Lib.hid (HZW.out k)
      have HGK := Lib.hid (HG.out k hlt)
      have HNK := Lib.hid (HNX.out k (by rw [HLL.out]; exact hlt))
      have HBW := Lib.hid (below_of HBA.out HB.out HBA.out.size)
      go_wp2_with fail
      refine (HPART.out k hlt _ HBW.out).mono ?_
      rintro e w1 ⟨⟨cc, rfl⟩, hb1⟩
      have HO1 := Lib.hid (row_keep1 hb1 HO.out)
      have HB1 := Lib.hid (below_of HB.out hb1 HB.out.size)
      have HBW1 := Lib.hid (below_of HBA.out HB1.out HBA.out.size)
      have HSV := Lib.hid (sumV_walls rs (zBeg zs k) (fun j => u0 (zBeg zs k + j)) (zLen zs n k) (fun j hj => HU0.out _ (by omega)))
      have hwb := HWB.out (zBeg zs k) (zLen zs n k) (by omega)
      have HRI := Lib.hid (fun (W : World) (hW : Below w.heap.size w W) => HSUB.out W hW (zBeg zs k) (zLen zs n k) (by omega))
      have HUU := Lib.hid (fun (j : Nat) (hj : j < zLen zs n k) => show (u0 (zBeg zs k + j)).1 = (rs.drop (zBeg zs k)).getD j zR by
        rw [HU0.out _ (by omega), List.getD_eq_getElem?_getD, List.getD_eq_getElem?_getD, List.getElem?_drop])
      clear hb1 c1 c2
      generalize hll : zLen zs n k = ll at *
      generalize hbe : zBeg zs k = be at *
      clear hll hbe
      have hl32 : ll ≤ 32 := by omega
      have hl1 : 1 ≤ ll := by omega
      clear hsp hzl
      go_wp2_with fail
      refine (values_any _ _ _ _).mono ?_
      rintro e w2 ⟨rfl, rfl⟩
      have hbx := (Below.refl w1.heap.size w1).alloc (Nat.le_refl _) (.cells #[.slice (some ⟨b, off + be * 3, none⟩) ll cc] 40)
      have hxl : w1.heap.size < (w1.alloc (.cells #[.slice (some ⟨b, off + be * 3, none⟩) ll cc] 40)).heap.size := by simp
      have hxc : (w1.alloc (.cells #[.slice (some ⟨b, off + be * 3, none⟩) ll cc] 40)).cell? ⟨w1.heap.size, 0, none⟩ = some (.slice (some ⟨b, off + be * 3, none⟩) ll cc) := by go_simp
      have HO2 := Lib.hid (row_keep1 hbx HO1.out)
      have HB2 := Lib.hid (below_of HB1.out hbx HB1.out.size)
      have HBW2 := Lib.hid (below_of HBA.out HB2.out HBA.out.size)
      have hblx := Nat.lt_of_lt_of_le hbl HBW2.out.size
      clear hbx
      go_wp2_with fail
      generalize w1.alloc (.cells #[.slice (some ⟨b, off + be * 3, none⟩) ll cc] 40) = wx at *
      refine (sum_wall (fun x => x.1.1 - x.1.2.1) 150000 (by omega) (fun x => by have := ring_iff.1 x.2; omega) w1.heap.size b (off + be * 3) ll cc (rs.drop be) (fun j => u0 (be + j)) HUU.out hl32 wx (fun x W _ => wall_any _ _ _ x.2 W) hxl hblx hxc (HRI.out _ HBW2.out)).mono ?_
      rintro e w3 ⟨rfl, hb3⟩
      rw [HSV.out]
      have HO3 := Lib.hid (row_keep1 hb3 HO2.out)
      have HB3 := Lib.hid (below_of HB2.out hb3 HB2.out.size)
      clear hb3 hxc hxl hblx
      generalize wallsTo rs be ll = sm at *
      go_wp2_with fail
      refine (nearest_any sm (ll : Int) _ (by omega) (by omega)).mono ?_
      rintro e w4 ⟨rfl, hb4⟩
      have HO4 := Lib.hid (row_keep1 hb4 HO3.out)
      have HB4 := Lib.hid (below_of HB3.out hb4 HB3.out.size)
      clear hb4
      have hf := HO4.out.frozenAt k
      have hat : w4.cell? ⟨wA.heap.size, k, none⟩ = (i64s (copied (zWalls rs zs) k))[k]? := HO4.out.cellAt k (by omega)
      rw [i64s_get _ _ (by rw [HCL.out _ (by rw [HLL.out]; omega), HLL.out]; exact hlt)] at hat
      have HS := Lib.hid (HO4.out.stored k (.int .i64 (nq sm (ll : Int)))).1
      have HFN := Lib.hid (show (i64s (copied (zWalls rs zs) k)).set k (.int .i64 (nq sm (ll : Int))) = i64s (copied (zWalls rs zs) (k + 1)) by rw [← HNK.out, HGK.out, HZK.out])
      generalize (copied (zWalls rs zs) k).getD k 0 = old at *
      generalize nq sm (ll : Int) = qq at *
      go_wp2
      go_roundw
      case rel => exact ⟨k + 1, by omega, by go_num, by rw [← HFN.out]; exact HS.out, HB4.out.setCell (by exact Nat.le_refl _) _⟩
      case measure => simp [intOf]; omega
    · obtain rfl : k = m := by omega
      have hc2 : copied (zWalls rs zs) k = zWalls rs zs := by unfold copied; rw [HLL.out, Nat.sub_self]; rw [List.take_of_length_le (by rw [HLL.out]; exact Nat.le_refl _)]; simp
      rw [hc2] at HO
      have HBF := Lib.hid (below_of HBA.out HB.out HBA.out.size)
      have hlt9 := HO.out.lt _ rfl
      have hwa := HBA.out.size
      clear hc2 c1 c2
      go_wp2
      go_ret
      exact ⟨⟨.slice (some ⟨wA.heap.size, 0, none⟩) k k, rfl, ownInts_base (B := wA.heap.size) ⟨wA.heap.size, k, by rw [HLL.out], Nat.le_refl _, hlt9.2, by rw [HLL.out]; exact HO.out⟩ hwa⟩, HBF.out⟩
end Go.Proofs.YtpjopfhkgegahaaGreat
