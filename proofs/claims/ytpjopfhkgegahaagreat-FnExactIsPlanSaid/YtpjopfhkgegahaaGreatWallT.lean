/- The mean walls of zones: the reference model. -/
import Derived.Test.YtpjopfhkgegahaaGreatWallS
import Derived.Deep.AppendLies
import Derived.Deep.QuietTactic
import Derived.BigQuiet
namespace Go.Proofs.YtpjopfhkgegahaaGreat
open Go.ChangeShapes Go.WideShapes Go.ChangeAt Go.RowKit

theorem cell_oneI {w : World} {x : Int} {T : TypeId} : ∀ j u, ([Value.int .i64 x] : List Value)[j]? = some u → (w.alloc (.cells #[.int .i64 x] T)).cell? ((⟨w.heap.size, 0, none⟩ : Addr).add j) = some u := by
  intro j u hu
  match j, hu with
  | 0, hu => simp at hu; subst hu; simp [Addr.add]
  | j + 1, hu => simp at hu
set_option maxRecDepth 100000 in
set_option maxHeartbeats 2000000 in
theorem l08Walls_any (p : Nat) (s : ByteArray) (v vz : Value) (rs : List Rg) (zs : List Int) (w : World) (hpl : p < w.heap.size) (hp : ProfIn w p s v) (hv : RingsAt w v rs) (hz : IntsAt w vz zs) (hR : ∀ i, i < rs.length → ringB (rs.getD i zR) = true) (h32 : 1 ≤ rs.length ∧ rs.length ≤ 32) (hfit : fitB rs.length zs = true) :
    Calls Tryz.prog 79 #[.pointer (some ⟨p, 0, none⟩), vz] w fun e w' => (∃ v, e = .returned v ∧ OwnInts w' w.heap.size v (zWalls rs zs)) ∧ Below w.heap.size w w' := by
  obtain ⟨i0, hi, hz0, hz1, hz2⟩ := info_parts infoI64
  obtain ⟨p0, p1⟩ := hp
  obtain ⟨⟨m1, m8⟩, -, -, -⟩ := fit_facts hfit
  obtain ⟨bz, oz, cz, rfl, hbz, hcz⟩ := ints_cells hz (by omega)
  obtain ⟨-, ⟨a', c', hv', h0⟩ | ⟨b, off, cap, rfl, hbl, hc⟩⟩ := hv
  · exfalso; rw [h0] at h32; simp at h32
  have HC := Lib.hid (fun i (hi : i < rs.length) => ring_in hc i hi)
  have HCZ := Lib.hid hcz
  have HR := Lib.hid hR
  have HFIT := Lib.hid hfit
  have HLL := Lib.hid (zWalls_len rs zs)
  have HP1 := Lib.hid p1
  have HA0 := Lib.hid (show (w.alloc (.cells #[] 2)).ownsRow w.heap.size 2 1 (.slice (some ⟨w.heap.size, 0, none⟩) 0 0) 0 [] from World.ownsRow_made w #[] 0 (Nat.le_refl _) (by simp) (by simp))
  clear hz hc hcz hR hfit p0
  obtain ⟨n1, n32⟩ := h32
  obtain ⟨n, hn⟩ : ∃ n, rs.length = n := ⟨_, rfl⟩
  obtain ⟨m, hm⟩ : ∃ m, zs.length = m := ⟨_, rfl⟩
  have HN := Lib.hid hn
  have HM := Lib.hid hm
  rw [hn] at p1 HC HFIT HP1 n1 n32
  rw [hm] at HCZ m1 m8
  rw [hm]
  clear hn hm
  go_enter Tryz.func79, Tryz.ntmps79
  go_wp2
  clear p1
  go_loopw [5, 6] (fun v i wr => ∃ k : Nat, k ≤ m ∧ i = .int .i64 k ∧ wr.ownsRow w.heap.size 2 1 v k (i64s ((zWalls rs zs).take k)) ∧ Below w.heap.size w wr) (fun _ i _ => m - (intOf i).toNat)
  case atStart => exact ⟨0, by omega, rfl, by simpa [i64s] using HA0.out, (Below.refl _ _).alloc (Nat.le_refl _) _⟩
  case round =>
    obtain ⟨k, hk, rfl, hown, hbw⟩ := hrel
    generalize hwo : wr = wo at *
    clear hwo
    have HO := Lib.hid hown
    have HB := Lib.hid hbw
    have p1 := (below_cell hbw _ _ hpl).trans HP1.out
    have hws := hbw.size
    clear hown hbw
    by_cases hlt : k < m
    · have HKM := Lib.hid hlt
      have hk1 : (k : Int) < (m : Int) := by omega
      have hk0 : (0 : Int) ≤ (k : Int) := by omega
      have x0 : wo.cell? ⟨bz, oz + k, none⟩ = some (.int .i64 (zs.getD k 0)) := (below_cell HB.out _ _ hbz).trans (HCZ.out k hlt)
      have X0D := Lib.hid (show ∀ W, Below w.heap.size w W → W.cell? ⟨bz, oz + k, none⟩ = some (.int .i64 (zBeg zs k : Int)) from fun W hW => by
        rw [(zbeg_int HFIT.out k (by rw [HM.out]; exact hlt)).1]
        exact (below_cell hW _ _ hbz).trans (HCZ.out k hlt))
      by_cases hl : k + 1 < m
      · have X1 := Lib.hid (show wo.cell? ⟨bz, oz + (k + 1), none⟩ = some (.int .i64 (zEnd zs n k : Int)) by
          unfold zEnd
          rw [if_pos (by rw [HM.out]; exact hl), (zbeg_int HFIT.out (k + 1) (by rw [HM.out]; exact hl)).1]
          exact (below_cell HB.out _ _ hbz).trans (HCZ.out (k + 1) hl))
        have HE := Lib.hid (zone_span HFIT.out k (by rw [HM.out]; exact hlt))
        have hbi := zbeg_int HFIT.out k (by rw [HM.out]; exact hlt)
        have hze : (zBeg zs k : Int) = zs.getD k 0 := hbi.1
        rw [← hze] at x0
        have HZW := Lib.hid (show zWall rs zs k = nq (wallsTo rs (zBeg zs k) (zEnd zs n k - zBeg zs k)) ((zEnd zs n k : Int) - (zBeg zs k : Int)) by
          unfold zWall zLen
          rw [HN.out]
          congr 1
          have := HE.out
          omega)
        have HTK := Lib.hid (show (zWalls rs zs).take (k + 1) = (zWalls rs zs).take k ++ [zWall rs zs k] from zWalls_take rs zs k (by rw [HM.out]; exact hlt))
        have HWB := Lib.hid (fun q hq => wallsTo_bd (rs := rs) HR.out (zBeg zs k) q hq)
        have HWS := Lib.hid (fun q => show wallsTo rs (zBeg zs k) (q + 1) = wallsTo rs (zBeg zs k) q + ((rs.getD (zBeg zs k + q) zR).1 - (rs.getD (zBeg zs k + q) zR).2.1) from rfl)
        have HW0 := Lib.hid (show wallsTo rs (zBeg zs k) 0 = 0 from rfl)
        have x1 := X1.out
        have hkl : (k : Int) + 1 < (m : Int) := by omega
        clear hbi hze
        generalize hbe : zBeg zs k = be at *
        generalize hen : zEnd zs n k = en at *
        clear hbe hen
        have hee := HE.out
        go_wp2
        go_loopw [8, 9] (fun s i wt => ∃ q mm : Nat, be + q ≤ en ∧ i = .int .i64 ((be + q : Nat) : Int) ∧ s = .int .i64 (wallsTo rs be q) ∧ wt = wo.drewN mm) (fun _ i _ => en - (intOf i).toNat)
        case atStart => exact ⟨0, 0, by omega, rfl, by rw [HW0.out], rfl⟩
        case round =>
          obtain ⟨q, mm, hq, rfl, rfl, rfl⟩ := hrel
          by_cases hq2 : be + q < en
          · have hr := HC.out (be + q) (by omega)
            have b1 := HWB.out q (by rw [HN.out]; omega)
            have b2 := HWB.out (q + 1) (by rw [HN.out]; omega)
            have hx := HWS.out q
            have hrb := ring_iff.1 (HR.out (be + q) (by rw [HN.out]; omega))
            obtain ⟨⟨x, y, z⟩, hxyz⟩ : ∃ r, rs.getD (be + q) zR = r := ⟨_, rfl⟩
            rw [hxyz] at hr hx hrb
            have e0 : wo.cell? ⟨b, off + (be + q) * 3, none⟩ = some (.int .i64 x) := (below_cell HB.out _ _ hbl).trans hr.c0
            have e1 : wo.cell? ⟨b, off + (be + q) * 3 + 1, none⟩ = some (.int .i64 y) := (below_cell HB.out _ _ hbl).trans hr.c1
            have HX := Lib.hid hx
            simp only at hrb hx
            rw [hx] at b2
            generalize wallsTo rs be q = sm at *
            have hw1 : IntKind.i64.wrap (x - y) = x - y := IntWalk.i64_in _ (by omega)
            have hw2 : IntKind.i64.wrap (sm + (x - y)) = sm + (x - y) := IntWalk.i64_in _ (by omega)
            have hi1 : ((be + q : Nat) : Int) < (en : Int) := by omega
            have hi2 : ((be + q : Nat) : Int) < (n : Int) := by omega
            have hi0 : (0 : Int) ≤ ((be + q : Nat) : Int) := by omega
            clear hr hx hxyz b1 b2 hrb
            generalize hj : be + q = j at *
            have HJ := Lib.hid hj
            clear hj
            go_wp2
            go_quiet (fail)
            go_wp2
            go_roundw
            case rel => exact ⟨q + 1, _, by have := HJ.out; omega, by have := HJ.out; congr 1; omega, by rw [HX.out], rfl⟩
            case measure => simp [intOf]; omega
          · obtain ⟨hqe⟩ : Nonempty (q = en - be) := ⟨by omega⟩
            have hi1 : ¬ ((be + q : Nat) : Int) < (en : Int) := by omega
            have hsb := HWB.out q (by rw [HN.out]; omega)
            have HZ2 := Lib.hid (show zWall rs zs k = nq (wallsTo rs be q) ((en : Int) - (be : Int)) by rw [HZW.out, hqe])
            generalize wallsTo rs be q = sm at *
            have hwd : IntKind.i64.wrap ((en : Int) - (be : Int)) = (en : Int) - (be : Int) := IntWalk.i64_in _ (by omega)
            have HT := Lib.hid (fun w => specDiv_any sm ((en : Int) - (be : Int)) w (by omega) (by omega) (by omega))
            have HOd := Lib.hid (row_keep1 (below_drewN wo mm) HO.out)
            have HBd := Lib.hid (below_of HB.out (below_drewN wo mm) HB.out.size)
            generalize wo.drewN mm = wd at *
            have x0d : wd.cell? ⟨bz, oz + k, none⟩ = some (.int .i64 (be : Int)) := X0D.out wd HBd.out
            have HOa := Lib.hid (HOd.out.alloc (.cells #[.int .i64 (nq sm ((en : Int) - (be : Int)))] 2))
            have HBa := Lib.hid (HBd.out.alloc HBd.out.size (.cells #[.int .i64 (nq sm ((en : Int) - (be : Int)))] 2))
            have hsa : w.heap.size ≤ (wd.alloc (.cells #[.int .i64 (nq sm ((en : Int) - (be : Int)))] 2)).heap.size := HBa.out.size
            clear hqe hq2 hsb
            go_wp2_with (first
              | (go_at_call 80; refine (HT.out _).mono ?_; rintro e w' ⟨rfl, rfl⟩)
              | (at_builtin; refine wpList_append_own_at _ rfl _ _ 22 rfl w.heap.size 2 i0 _ 1 8 Tryz.underlying22 hi hz0 hz1 hz2 rfl (by omega) _ k (i64s ((zWalls rs zs).take k)) rfl HOa.out ⟨wd.heap.size, 0, none⟩ 1 1 [.int .i64 (nq sm ((en : Int) - (be : Int)))] rfl rfl cell_oneI (by intro u hu; simp at hu; subst hu; rfl) (by unfold maxLen; omega) (by omega) hsa ?_; intro v3 w3 hown3 hgrow3 hnil3 hat3))
            have HO4 := Lib.hid (show w3.ownsRow w.heap.size 2 1 v3 (k + 1) (i64s ((zWalls rs zs).take (k + 1))) from by rw [HTK.out, ints_snocW, HZ2.out]; exact hown3)
            have HB4 := Lib.hid (HBa.out.grown hgrow3 hsa (fun k hk => (HOa.out.lt k hk).1))
            clear hown3 hgrow3 hnil3 hat3
            go_wp2
            go_roundw
            case rel => exact ⟨k + 1, by have := HKM.out; omega, by go_num, HO4.out, HB4.out⟩
            case measure => simp [intOf]; omega
      · have HE := Lib.hid (zone_span HFIT.out k (by rw [HM.out]; exact hlt))
        have hbi := zbeg_int HFIT.out k (by rw [HM.out]; exact hlt)
        have hze : (zBeg zs k : Int) = zs.getD k 0 := hbi.1
        rw [← hze] at x0
        have HZW := Lib.hid (show zWall rs zs k = nq (wallsTo rs (zBeg zs k) (zEnd zs n k - zBeg zs k)) ((zEnd zs n k : Int) - (zBeg zs k : Int)) by
          unfold zWall zLen
          rw [HN.out]
          congr 1
          have := HE.out
          omega)
        have HTK := Lib.hid (show (zWalls rs zs).take (k + 1) = (zWalls rs zs).take k ++ [zWall rs zs k] from zWalls_take rs zs k (by rw [HM.out]; exact hlt))
        have HWB := Lib.hid (fun q hq => wallsTo_bd (rs := rs) HR.out (zBeg zs k) q hq)
        have HWS := Lib.hid (fun q => show wallsTo rs (zBeg zs k) (q + 1) = wallsTo rs (zBeg zs k) q + ((rs.getD (zBeg zs k + q) zR).1 - (rs.getD (zBeg zs k + q) zR).2.1) from rfl)
        have HW0 := Lib.hid (show wallsTo rs (zBeg zs k) 0 = 0 from rfl)
        have hEQ : n = zEnd zs n k := by unfold zEnd; rw [if_neg (by rw [HM.out]; exact hl)]
        have hkl : ¬ (k : Int) + 1 < (m : Int) := by omega
        clear hbi hze
        generalize hbe : zBeg zs k = be at *
        generalize hen : zEnd zs n k = en at *
        clear hbe hen
        have hEQ2 := hEQ.symm
        subst hEQ2
        obtain ⟨n, hnn⟩ : ∃ n, n = en := ⟨_, rfl⟩
        have hee := HE.out
        go_wp2
        go_loopw [8, 9] (fun s i wt => ∃ q mm : Nat, be + q ≤ en ∧ i = .int .i64 ((be + q : Nat) : Int) ∧ s = .int .i64 (wallsTo rs be q) ∧ wt = wo.drewN mm) (fun _ i _ => en - (intOf i).toNat)
        case atStart => exact ⟨0, 0, by omega, rfl, by rw [HW0.out], rfl⟩
        case round =>
          obtain ⟨q, mm, hq, rfl, rfl, rfl⟩ := hrel
          by_cases hq2 : be + q < en
          · have hr := HC.out (be + q) (by omega)
            have b1 := HWB.out q (by rw [HN.out]; omega)
            have b2 := HWB.out (q + 1) (by rw [HN.out]; omega)
            have hx := HWS.out q
            have hrb := ring_iff.1 (HR.out (be + q) (by rw [HN.out]; omega))
            obtain ⟨⟨x, y, z⟩, hxyz⟩ : ∃ r, rs.getD (be + q) zR = r := ⟨_, rfl⟩
            rw [hxyz] at hr hx hrb
            have e0 : wo.cell? ⟨b, off + (be + q) * 3, none⟩ = some (.int .i64 x) := (below_cell HB.out _ _ hbl).trans hr.c0
            have e1 : wo.cell? ⟨b, off + (be + q) * 3 + 1, none⟩ = some (.int .i64 y) := (below_cell HB.out _ _ hbl).trans hr.c1
            have HX := Lib.hid hx
            simp only at hrb hx
            rw [hx] at b2
            generalize wallsTo rs be q = sm at *
            have hw1 : IntKind.i64.wrap (x - y) = x - y := IntWalk.i64_in _ (by omega)
            have hw2 : IntKind.i64.wrap (sm + (x - y)) = sm + (x - y) := IntWalk.i64_in _ (by omega)
            have hi1 : ((be + q : Nat) : Int) < (en : Int) := by omega
            have hi2 : ((be + q : Nat) : Int) < (n : Int) := by omega
            have hi0 : (0 : Int) ≤ ((be + q : Nat) : Int) := by omega
            clear hr hx hxyz b1 b2 hrb
            generalize hj : be + q = j at *
            have HJ := Lib.hid hj
            clear hj
            go_wp2
            go_quiet (fail)
            go_wp2
            go_roundw
            case rel => exact ⟨q + 1, _, by have := HJ.out; omega, by have := HJ.out; congr 1; omega, by rw [HX.out], rfl⟩
            case measure => simp [intOf]; omega
          · obtain ⟨hqe⟩ : Nonempty (q = en - be) := ⟨by omega⟩
            have hi1 : ¬ ((be + q : Nat) : Int) < (en : Int) := by omega
            have hsb := HWB.out q (by rw [HN.out]; omega)
            have HZ2 := Lib.hid (show zWall rs zs k = nq (wallsTo rs be q) ((en : Int) - (be : Int)) by rw [HZW.out, hqe])
            generalize wallsTo rs be q = sm at *
            have hwd : IntKind.i64.wrap ((en : Int) - (be : Int)) = (en : Int) - (be : Int) := IntWalk.i64_in _ (by omega)
            have HT := Lib.hid (fun w => specDiv_any sm ((en : Int) - (be : Int)) w (by omega) (by omega) (by omega))
            have HOd := Lib.hid (row_keep1 (below_drewN wo mm) HO.out)
            have HBd := Lib.hid (below_of HB.out (below_drewN wo mm) HB.out.size)
            generalize wo.drewN mm = wd at *
            have x0d : wd.cell? ⟨bz, oz + k, none⟩ = some (.int .i64 (be : Int)) := X0D.out wd HBd.out
            have HOa := Lib.hid (HOd.out.alloc (.cells #[.int .i64 (nq sm ((en : Int) - (be : Int)))] 2))
            have HBa := Lib.hid (HBd.out.alloc HBd.out.size (.cells #[.int .i64 (nq sm ((en : Int) - (be : Int)))] 2))
            have hsa : w.heap.size ≤ (wd.alloc (.cells #[.int .i64 (nq sm ((en : Int) - (be : Int)))] 2)).heap.size := HBa.out.size
            clear hqe hq2 hsb
            go_wp2_with (first
              | (go_at_call 80; refine (HT.out _).mono ?_; rintro e w' ⟨rfl, rfl⟩)
              | (at_builtin; refine wpList_append_own_at _ rfl _ _ 22 rfl w.heap.size 2 i0 _ 1 8 Tryz.underlying22 hi hz0 hz1 hz2 rfl (by omega) _ k (i64s ((zWalls rs zs).take k)) rfl HOa.out ⟨wd.heap.size, 0, none⟩ 1 1 [.int .i64 (nq sm ((en : Int) - (be : Int)))] rfl rfl cell_oneI (by intro u hu; simp at hu; subst hu; rfl) (by unfold maxLen; omega) (by omega) hsa ?_; intro v3 w3 hown3 hgrow3 hnil3 hat3))
            have HO4 := Lib.hid (show w3.ownsRow w.heap.size 2 1 v3 (k + 1) (i64s ((zWalls rs zs).take (k + 1))) from by rw [HTK.out, ints_snocW, HZ2.out]; exact hown3)
            have HB4 := Lib.hid (HBa.out.grown hgrow3 hsa (fun k hk => (HOa.out.lt k hk).1))
            clear hown3 hgrow3 hnil3 hat3
            go_wp2
            go_roundw
            case rel => exact ⟨k + 1, by have := HKM.out; omega, by go_num, HO4.out, HB4.out⟩
            case measure => simp [intOf]; omega
    · obtain rfl : k = m := by omega
      have hown := HO.out
      rw [List.take_of_length_le (by rw [HLL.out, HM.out]; exact Nat.le_refl _)] at hown
      obtain ⟨g5, cap5, rfl, -, -⟩ := hown.form (by omega)
      have hg5 := hown.lt _ rfl
      have HOF := Lib.hid hown
      clear hown
      go_wp2
      go_ret
      exact ⟨⟨.slice (some ⟨g5, 0, none⟩) k cap5, rfl, g5, cap5, by rw [HLL.out, HM.out], hg5.1, hg5.2, by rw [HLL.out, HM.out]; exact HOF.out⟩, HB.out⟩
end Go.Proofs.YtpjopfhkgegahaaGreat
