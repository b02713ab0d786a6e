/- A profile with steps of its zones taken away: the program's. -/
import Derived.Test.YtpjopfhkgegahaaGreatG3
import Derived.Test.YtpjopfhkgegahaaGreatRingsI
import Derived.Deep.RegionHeld3
set_option linter.unusedVariables false
namespace Go.Proofs.YtpjopfhkgegahaaGreat
open Go.ChangeShapes Go.WideShapes Go.ChangeAt Go.RowKit Go.Maps

set_option maxHeartbeats 1000000 in
theorem turned_any (x y z t q : Int) (w : World) (hq : Hid (q = y + 10 * t)) (hy : -150000 ≤ y ∧ y ≤ 1000000) (ht : -100000 ≤ t ∧ t ≤ 100000) :
    Calls Tryz.prog 114 #[.agg #[.int .i64 x, .int .i64 y, .int .i64 z], .int .i64 t] w fun e w' => e = .returned (.agg #[.int .i64 x, .int .i64 q, .int .i64 z]) ∧ Below w.heap.size w w' := by
  have hw1 : IntKind.i64.wrap (t * 10) = t * 10 := IntWalk.i64_in _ (by omega)
  have hw2 : IntKind.i64.wrap (y + t * 10) = y + t * 10 := IntWalk.i64_in _ (by omega)
  have HQ := Lib.hid (show y + t * 10 = q by have := hq.out; omega)
  clear hy ht
  go_enter Tryz.func114, Tryz.ntmps114
  go_wp2
  try simp only [Exit.inBlock, Exit.then]
  refine bodyPost_ret_by (v := .agg #[.int .i64 x, .int .i64 (y + t * 10), .int .i64 z]) (by rw [results_cellR rfl]; go_simp) rfl ?_
  refine ⟨by rw [HQ.out], ?_⟩
  first
    | exact (((below_al _ _).alloc (by simp) _).setCell (by simp) _)
    | exact ((((below_al _ _).setCell (by simp) _).alloc (by simp) _))
    | exact ((below_al _ _).alloc (by simp) _)
theorem far3 {w : World} {g k b o : Nat} {u v x : Value} (h : b ≠ g) : (((w.setCell ⟨g, k, none⟩ u).setCell ⟨g, k + 1, none⟩ v).setCell ⟨g, k + 2, none⟩ x).cell? ⟨b, o, none⟩ = w.cell? ⟨b, o, none⟩ := by
  rw [World.cell?_setCell_far _ _ _ _ (by simpa using h.symm), World.cell?_setCell_far _ _ _ _ (by simpa using h.symm), World.cell?_setCell_far _ _ _ _ (by simpa using h.symm)]
theorem set3 {w w1 : World} {g k : Nat} (h : Below w.heap.size w w1) (hg : w.heap.size ≤ g) (a b c : Value) : Below w.heap.size w (((w1.setCell ⟨g, k, none⟩ a).setCell ⟨g, k + 1, none⟩ b).setCell ⟨g, k + 2, none⟩ c) :=
  ((h.setCell (p := ⟨g, k, none⟩) hg _).setCell (p := ⟨g, k + 1, none⟩) hg _).setCell (p := ⟨g, k + 2, none⟩) hg _
theorem res_rvI {w : World} {B : Nat} {v : Value} {l : List Rg} {s : ByteArray} (h : Rv w B v l) : Rv w B (if profB s l = true then v else .slice none 0 0) (resL l (resC s l)) := by
  by_cases hp : profB s l = true
  · rw [if_pos hp]
    unfold resL resC
    rw [if_pos hp, if_pos rfl]; exact h
  · rw [if_neg hp]
    unfold resL resC
    rw [if_neg hp, if_neg (by omega)]; exact .inl ⟨rfl, rfl⟩
theorem ret_apI {s s2 : ByteArray} {v : Value} {a b : Int} (h1 : s = s2) (h : a = b) : Ending.returned (.tuple #[.agg #[.string s, v], .int .i64 a]) = .returned (.tuple #[.agg #[.string s2, v], .int .i64 b]) := by rw [h1, h]
/-- Ring i's steps, out of the map. -/
def mapStep (f : Int → Int) (zs : List Int) (i : Nat) : Int := f ((zoneN zs (i : Int) zs.length : Nat) : Int)
set_option maxRecDepth 20000 in
set_option maxHeartbeats 4000000 in
theorem cutI_any (s : ByteArray) (v vz : Value) (b m : Nat) (f : Int → Int) (rs : List Rg) (zs : List Int) (w : World) (hv : RingsAt w v rs) (hs : s.size ≤ maxLen) (hz : IntsAt w vz zs) (hM : MapF w b m f) (hP : lathB s rs zs = true) (hf : ∀ z : Nat, z < zs.length → 0 ≤ f (z : Int) ∧ f (z : Int) ≤ 1000) :
    Calls Tryz.prog 92 #[.agg #[.string s, v, vz], .map (some b)] w (ProfU (resS s (resC s (turnL (mapStep f zs) rs rs.length))) (resL (turnL (mapStep f zs) rs rs.length) (resC s (turnL (mapStep f zs) rs rs.length))) (resC s (turnL (mapStep f zs) rs rs.length)) w) := by
  obtain ⟨hprof, hfit⟩ := lath_iff.1 hP
  obtain ⟨n1, n32⟩ := (prof_iff.1 hprof).2.1
  obtain ⟨z1, z8⟩ := (fit_facts hfit).1
  have hz0 := (fit_facts hfit).2.1
  have HVR := Lib.hid (fun i hi => prof_ring hprof i hi)
  have hbm := mapF_lt hM
  obtain ⟨bz, oz, cz, rfl, hbz, hcz⟩ := ints_cellsT hz z1
  have hba := (below_al w (.cells #[.string s, v, .slice (some ⟨bz, oz, none⟩) zs.length cz] 93)).alloc (by simp) (.cells #[.string ⟨#[]⟩, .slice none 0 0] 42)
  have hbl := blankP_alloc (w.alloc (.cells #[.string s, v, .slice (some ⟨bz, oz, none⟩) zs.length cz] 93)) 42
  rw [World.size_alloc] at hbl
  have hl : w.heap.size + 1 < ((w.alloc (.cells #[.string s, v, .slice (some ⟨bz, oz, none⟩) zs.length cz] 93)).alloc (.cells #[.string ⟨#[]⟩, .slice none 0 0] 42)).heap.size := by simp
  have q0 : ((w.alloc (.cells #[.string s, v, .slice (some ⟨bz, oz, none⟩) zs.length cz] 93)).alloc (.cells #[.string ⟨#[]⟩, .slice none 0 0] 42)).cell? ⟨w.heap.size, 0, none⟩ = some (.string s) := by go_simp
  have q1 : ((w.alloc (.cells #[.string s, v, .slice (some ⟨bz, oz, none⟩) zs.length cz] 93)).alloc (.cells #[.string ⟨#[]⟩, .slice none 0 0] 42)).cell? ⟨w.heap.size, 1, none⟩ = some v := by go_simp
  have q2 : ((w.alloc (.cells #[.string s, v, .slice (some ⟨bz, oz, none⟩) zs.length cz] 93)).alloc (.cells #[.string ⟨#[]⟩, .slice none 0 0] 42)).cell? ⟨w.heap.size, 2, none⟩ = some (.slice (some ⟨bz, oz, none⟩) zs.length cz) := by go_simp
  have HRC := Lib.hid (ringsCopy_any s v rs _ (rings_kept hba hv) n1 n32 rs.length (Lib.hid rfl))
  have HOF := Lib.hid (fun (k : Nat) W (hW : Below w.heap.size w W) => zonesOf_any zs (k : Int) bz oz cz zs.length W (by omega) z1 (by rw [hz0]; omega) (fun j hj => (below_cell hW _ _ hbz).trans (hcz j hj)))
  have HZL := Lib.hid (fun (i : Int) => zoneN_lt zs i zs.length z1)
  have HMK := Lib.hid (fun W (hW : Below w.heap.size w W) => mapF_kept hW hM)
  have HFB := Lib.hid hf
  have HMS := Lib.hid (fun (i : Nat) => show mapStep f zs i = f ((zoneN zs (i : Int) zs.length : Nat) : Int) from rfl)
  have HPN := Lib.hid (fun k (hk : k < rs.length) => turnL_next (mapStep f zs) rs k hk)
  have HPG := Lib.hid (fun k (hk : k < rs.length) => show (turnL (mapStep f zs) rs k).getD k zR = rs.getD k zR by rw [turnL_get _ _ _ _ hk, if_neg (by omega)])
  have HPL := Lib.hid (turnL_len (mapStep f zs) rs)
  have HP0 := Lib.hid (turnL_zero (mapStep f zs) rs)
  have HBL := Lib.hid hbl
  have HBA := Lib.hid hba
  obtain ⟨av, cv, rfl⟩ := rings_form hv
  clear hv hz hM hP hf hprof hfit hcz hba hbl hz0
  obtain ⟨n, hn⟩ : ∃ n, rs.length = n := ⟨_, rfl⟩
  obtain ⟨nz, hnz⟩ : ∃ nz, zs.length = nz := ⟨_, rfl⟩
  rw [hn] at HRC HPN HPG HPL HVR n1 n32 q1 q2 HBL HBA hl q0 ⊢
  rw [hnz] at HOF HZL HFB HMS z1 z8 q1 q2 HRC HBL HBA hl q0 ⊢
  have HN := Lib.hid hn
  clear hn hnz
  go_enter Tryz.func92, Tryz.ntmps92
  go_wp2_with fail
  generalize ((w.alloc (.cells #[.string s, .slice av n cv, .slice (some ⟨bz, oz, none⟩) nz cz] 93)).alloc (.cells #[.string ⟨#[]⟩, .slice none 0 0] 42)) = wA at *
  refine HRC.out.mono ?_
  rintro e w3 ⟨g, rfl, hg, hrow, hb⟩
  have HB3 := Lib.hid hb
  have HO3 := Lib.hid (show w3.ownsRow wA.heap.size 113 3 (.slice (some ⟨g, 0, none⟩) n (n + 1)) n (i64s (flat (turnL (mapStep f zs) rs 0))) by
    rw [HP0.out]
    have hfl : (i64s (flat rs)).length = n * 3 := by rw [i64s_length, flat_len, HN.out]
    refine rowAt_own hrow (by rw [List.length_append, hfl]; show n * 3 + 3 = _; omega) (by rw [List.take_append_of_le_length (by omega), List.take_of_length_le (by omega)]) (by omega) (by unfold maxLen; omega) hg)
  clear hrow hb
  go_wp2
  go_loopw [14] (fun i wr => ∃ k : Nat, k ≤ n ∧ i = .int .i64 k ∧ Hid (wr.ownsRow wA.heap.size 113 3 (.slice (some ⟨g, 0, none⟩) n (n + 1)) n (i64s (flat (turnL (mapStep f zs) rs k)))) ∧ Hid (Below wA.heap.size wA wr)) (fun i _ => n - (intOf i).toNat)
  case atStart => exact ⟨0, by omega, rfl, HO3, HB3⟩
  case round =>
    obtain ⟨k, hk, rfl, HO, HB⟩ := hrel
    by_cases hlt : k < n
    · have hrb := (ring_iff.1 (HVR.out k hlt)).2.1
      have hro := (ring_iff.1 (HVR.out k hlt)).1
      have hri := own_in (by rw [HPL.out]) HO.out k hlt
      rw [HPG.out k hlt] at hri
      obtain ⟨q, hq⟩ : ∃ q, zoneN zs (k : Int) nz = q := ⟨_, rfl⟩
      have hql : q < nz := by rw [← hq]; exact HZL.out (k : Int)
      have hfb := HFB.out q hql
      have HSK := Lib.hid (show mapStep f zs k = f (q : Int) by rw [HMS.out, hq])
      have HNX := Lib.hid (HPN.out k hlt)
      have HST := Lib.hid (fun W (hW : Below wr.heap.size wr W) => store3 (row_keepR hW HO.out) k (turnR (mapStep f zs k) (rs.getD k zR)))
      rw [HNX.out] at HST
      obtain ⟨⟨x, y, z⟩, hxyz⟩ : ∃ r, rs.getD k zR = r := ⟨_, rfl⟩
      obtain ⟨t, ht⟩ : ∃ t, f (q : Int) = t := ⟨_, rfl⟩
      rw [hxyz] at hri hrb hro HST
      rw [HSK.out, ht] at HST
      rw [ht] at hfb
      simp only at hrb hro
      obtain ⟨y2, hy2⟩ : ∃ y2, y + 10 * t = y2 := ⟨_, rfl⟩
      have HTR := Lib.hid (show turnR t (x, y, z) = (x, y2, z) by unfold turnR; rw [hy2])
      rw [HTR.out] at HST
      have HY2 := Lib.hid hy2.symm
      have e0 : wr.cell? ⟨g, k * 3, none⟩ = some (.int .i64 x) := by simpa using hri.c0
      have e1 : wr.cell? ⟨g, k * 3 + 1, none⟩ = some (.int .i64 y) := by simpa using hri.c1
      have e2 : wr.cell? ⟨g, k * 3 + 2, none⟩ = some (.int .i64 z) := by simpa using hri.c2
      have HTU := Lib.hid (fun W => turned_any x y z t y2 W HY2 (by omega) (by omega))
      have hgl := HO.out.lt g rfl
      have hbd := below_al wr (.cells #[.int .i64 x, .int .i64 y, .int .i64 z] 113)
      have k0 : (wr.alloc (.cells #[.int .i64 x, .int .i64 y, .int .i64 z] 113)).cell? ⟨wr.heap.size, 0, none⟩ = some (.int .i64 x) := by go_simp
      have k1 : (wr.alloc (.cells #[.int .i64 x, .int .i64 y, .int .i64 z] 113)).cell? ⟨wr.heap.size, 1, none⟩ = some (.int .i64 y) := by go_simp
      have k2 : (wr.alloc (.cells #[.int .i64 x, .int .i64 y, .int .i64 z] 113)).cell? ⟨wr.heap.size, 2, none⟩ = some (.int .i64 z) := by go_simp
      have hlB := alloc_lt2 wr (.cells #[.int .i64 x, .int .i64 y, .int .i64 z] 113)
      have HBB := Lib.hid (below_of HB.out hbd HB.out.size)
      have c2 := (below_cell HBB.out w.heap.size 2 (by omega)).trans q2
      have g0 := (below_cell hbd _ _ hgl.2).trans e0
      have g1 := (below_cell hbd _ _ hgl.2).trans e1
      have g2 := (below_cell hbd _ _ hgl.2).trans e2
      have r0 := (below_frozen hbd _ _ hgl.2).trans (HO.out.frozenAt (k * 3))
      have r1 := (below_frozen hbd _ _ hgl.2).trans (HO.out.frozenAt (k * 3 + 1))
      have r2 := (below_frozen hbd _ _ hgl.2).trans (HO.out.frozenAt (k * 3 + 2))
      have HQ := Lib.hid hq
      have HT := Lib.hid ht
      have hgB := Nat.lt_of_lt_of_le hgl.2 hbd.size
      have HBD := Lib.hid hbd
      have HOFK := Lib.hid (fun W (hW : Below w.heap.size w W) => (HOF.out k W hW).mono fun e w' h => show e = .returned (.int .i64 (q : Int)) ∧ W = w' from ⟨by rw [h.1, HQ.out], h.2⟩)
      have HGLB := Lib.hid hgl.1
      have HGLW := Lib.hid hgl.2
      clear hri hq ht hxyz hy2 hbd hgl
      have hkn : (k : Int) < (n : Int) := by omega
      have hk0 : (0 : Int) ≤ (k : Int) := by omega
      have hwq : (Lit.int .i64 (q : Int)).wf = true := WalkArith.wf_i64 (by omega)
      clear hrb hro hfb
      go_wp2
      generalize wr.alloc (.cells #[.int .i64 x, .int .i64 y, .int .i64 z] 113) = wB at *
      have hbd : Below wB.heap.size wB wB.drew := ⟨rfl, rfl, rfl, Nat.le_refl _, fun _ _ => rfl⟩
      have HLK := Lib.hid (fun W (hW : Below wA.heap.size wA W) => show (Instr.lookup 74 (.map (some b)) (.int .i64 (q : Int)) false).run Tryz.prog W = .ok (.int .i64 t) W from by
        obtain ⟨D, ho, hsm⟩ := HMK.out W (below_of HBA.out hW HBA.out.size)
        obtain ⟨c, hrun, hat, -⟩ := ho.lookup_int lawZ Tryz.underlying74 Tryz.underlying2 (zeroZ _) (keyOf_int_mk Tryz.underlying2 hwq)
        have hc : f (q : Int) = c := lit_of_some ((hsm.at' (q : Int)).symm.trans hat)
        rw [hrun, ← hc, HT.out])
      have HSS := Lib.hid (fun W (hW : Below wB.heap.size wB W) => show W.cell? ⟨wr.heap.size, 0, none⟩ = some (.int .i64 x) ∧ W.cell? ⟨wr.heap.size, 1, none⟩ = some (.int .i64 y) ∧ W.cell? ⟨wr.heap.size, 2, none⟩ = some (.int .i64 z) ∧ W.cell? ⟨w.heap.size, 2, none⟩ = some (.slice (some ⟨bz, oz, none⟩) nz cz) ∧ (Instr.lookup 74 (.map (some b)) (.int .i64 (q : Int)) false).run Tryz.prog W = .ok (.int .i64 t) W ∧ Below wA.heap.size wA W from ⟨(below_cell hW _ _ hlB).trans k0, (below_cell hW _ _ hlB).trans k1, (below_cell hW _ _ hlB).trans k2, (below_cell hW _ _ (by have := HBB.out.size; omega)).trans c2, HLK.out W (below_of HBB.out hW HBB.out.size), below_of HBB.out hW HBB.out.size⟩)
      have HS3 := Lib.hid (fun W (hW : Below wB.heap.size wB W) => show (((W.setCell ⟨g, k * 3, none⟩ (.int .i64 x)).setCell ⟨g, k * 3 + 1, none⟩ (.int .i64 y2)).setCell ⟨g, k * 3 + 2, none⟩ (.int .i64 z)).cell? ⟨wr.heap.size, 0, none⟩ = some (.int .i64 x) ∧ (((W.setCell ⟨g, k * 3, none⟩ (.int .i64 x)).setCell ⟨g, k * 3 + 1, none⟩ (.int .i64 y2)).setCell ⟨g, k * 3 + 2, none⟩ (.int .i64 z)).cell? ⟨wr.heap.size, 1, none⟩ = some (.int .i64 y) ∧ (((W.setCell ⟨g, k * 3, none⟩ (.int .i64 x)).setCell ⟨g, k * 3 + 1, none⟩ (.int .i64 y2)).setCell ⟨g, k * 3 + 2, none⟩ (.int .i64 z)).cell? ⟨wr.heap.size, 2, none⟩ = some (.int .i64 z) ∧ (((W.setCell ⟨g, k * 3, none⟩ (.int .i64 x)).setCell ⟨g, k * 3 + 1, none⟩ (.int .i64 y2)).setCell ⟨g, k * 3 + 2, none⟩ (.int .i64 z)).cell? ⟨w.heap.size, 2, none⟩ = some (.slice (some ⟨bz, oz, none⟩) nz cz) ∧ (Instr.lookup 74 (.map (some b)) (.int .i64 (q : Int)) false).run Tryz.prog (((W.setCell ⟨g, k * 3, none⟩ (.int .i64 x)).setCell ⟨g, k * 3 + 1, none⟩ (.int .i64 y2)).setCell ⟨g, k * 3 + 2, none⟩ (.int .i64 z)) = .ok (.int .i64 t) (((W.setCell ⟨g, k * 3, none⟩ (.int .i64 x)).setCell ⟨g, k * 3 + 1, none⟩ (.int .i64 y2)).setCell ⟨g, k * 3 + 2, none⟩ (.int .i64 z)) ∧ Below wA.heap.size wA (((W.setCell ⟨g, k * 3, none⟩ (.int .i64 x)).setCell ⟨g, k * 3 + 1, none⟩ (.int .i64 y2)).setCell ⟨g, k * 3 + 2, none⟩ (.int .i64 z)) from by
        obtain ⟨j0, j1, j2, j3, -, j5⟩ := HSS.out W hW
        have hgr : wr.heap.size ≠ g := by have := HGLW.out; omega
        have hgw : w.heap.size ≠ g := by have := HGLB.out; omega
        have j6 := set3 (k := k * 3) j5 HGLB.out (.int .i64 x) (.int .i64 y2) (.int .i64 z)
        exact ⟨(far3 hgr).trans j0, (far3 hgr).trans j1, (far3 hgr).trans j2, (far3 hgw).trans j3, HLK.out _ j6, j6⟩)
      have HG := Lib.hid (fun W (hW : Below wB.heap.size wB W) => show (W.cell? ⟨g, k * 3, none⟩ = some (.int .i64 x) ∧ W.cell? ⟨g, k * 3 + 1, none⟩ = some (.int .i64 y) ∧ W.cell? ⟨g, k * 3 + 2, none⟩ = some (.int .i64 z)) ∧ W.frozen? ⟨g, k * 3, none⟩ = false ∧ W.frozen? ⟨g, k * 3 + 1, none⟩ = false ∧ W.frozen? ⟨g, k * 3 + 2, none⟩ = false from ⟨⟨(below_cell hW _ _ hgB).trans g0, (below_cell hW _ _ hgB).trans g1, (below_cell hW _ _ hgB).trans g2⟩, (below_frozen hW _ _ hgB).trans r0, (below_frozen hW _ _ hgB).trans r1, (below_frozen hW _ _ hgB).trans r2⟩)
      clear k0 k1 k2 c2 g0 g1 g2 r0 r1 r2 e0 e1 e2
      go_region_held3 (fun W => W.cell? ⟨wr.heap.size, 0, none⟩ = some (.int .i64 x) ∧ W.cell? ⟨wr.heap.size, 1, none⟩ = some (.int .i64 y) ∧ W.cell? ⟨wr.heap.size, 2, none⟩ = some (.int .i64 z) ∧ W.cell? ⟨w.heap.size, 2, none⟩ = some (.slice (some ⟨bz, oz, none⟩) nz cz) ∧ (Instr.lookup 74 (.map (some b)) (.int .i64 (q : Int)) false).run Tryz.prog W = .ok (.int .i64 t) W ∧ Below wA.heap.size wA W)
        (first | exact HSS.out _ hbd | exact HSS.out _ hbq | exact HS3.out _ hbq | assumption)
        (first
          | (go_at_call 115; refine (HOFK.out _ (below_of HBA.out (below_of HBB.out hbd HBB.out.size) HBA.out.size)).mono ?_; rintro e wq ⟨rfl, rfl⟩)
          | (go_at_call 114; refine (HTU.out _).mono ?_; rintro e w5 ⟨rfl, hb5⟩; have hbq := below_of hbd hb5 hbd.size; obtain ⟨⟨g0, g1, g2⟩, r0, r1, r2⟩ := HG.out _ hbq))
      have HON := Lib.hid (HST.out w5 (below_of HBD.out hbq HBD.out.size))
      have HBN := Lib.hid (set3 (k := k * 3) (below_of HBB.out hbq HBB.out.size) HGLB.out (.int .i64 x) (.int .i64 y2) (.int .i64 z))
      clear hb5 hbq g0 g1 g2 r0 r1 r2 hbd
      go_wp2
      go_roundw
      case rel => exact ⟨k + 1, by omega, by go_num, HON, HBN⟩
      case measure => simp [intOf]; omega
    · obtain rfl : k = n := by omega
      have c0 := (below_cell HB.out w.heap.size 0 (by omega)).trans q0
      have c1 := (below_cell HB.out w.heap.size 1 (by omega)).trans q1
      have HRV := Lib.hid (show Rv wr wA.heap.size (.slice (some ⟨g, 0, none⟩) k (k + 1)) (turnL (mapStep f zs) rs k) from .inr ⟨g, k + 1, by rw [HPL.out], hg, by rw [HPL.out]; exact HO.out⟩)
      have HLL := Lib.hid (show (turnL (mapStep f zs) rs k).length ≤ 1048576 by rw [HPL.out]; omega)
      clear q0 q1 q2
      generalize turnL (mapStep f zs) rs k = l at *
      go_wp2_with fail
      refine (withRings_any s av k cv _ l _ (rv_rings HLL.out HRV.out) hs).mono ?_
      rintro e w4 ⟨rfl, hb⟩
      have HRV4 := Lib.hid (res_rvI (s := s) (rv_kept hb HRV.out))
      have HB4 := Lib.hid (below_of HBA.out (below_of HB.out hb HB.out.size) HBA.out.size)
      obtain ⟨⟨b0, b1⟩, f0, f1⟩ := blankP_kept (below_of HB.out hb HB.out.size) hl HBL.out
      have hrin := rv_in HRV4.out
      clear hb
      generalize (if profB s l = true then Value.slice (some ⟨g, 0, none⟩) k (k + 1) else Value.slice none 0 0) = vf at *
      obtain ⟨af, cf, rfl⟩ := rv_form HRV4.out
      obtain ⟨cc, hcc⟩ : ∃ cc, resC s l = cc := ⟨_, rfl⟩
      obtain ⟨ss, hss⟩ : ∃ ss, resS s cc = ss := ⟨_, rfl⟩
      obtain ⟨rl, hrl⟩ : ∃ rl, resL l cc = rl := ⟨_, rfl⟩
      rw [hcc] at HRV4 hrin ⊢
      rw [hss]
      rw [hrl] at HRV4 hrin ⊢
      have HCC := Lib.hid hcc
      have HSS := Lib.hid hss
      have HRLd := Lib.hid hrl
      clear hcc hss hrl c0 c1
      go_wp2
      try simp only [Exit.inBlock, Exit.then]
      refine bodyPost_ret_by (v := .tuple #[.agg #[.string ss, .slice af rl.length cf], .int .i64 cc]) (by rw [results_cellP rfl]; go_simp) rfl ?_
      refine ⟨_, ret_apI (by rw [HCC.out, HSS.out]) HCC.out.symm, ?_, (HB4.out.setCell (by show _ ≤ w.heap.size + 1; omega) _).setCell (by show _ ≤ w.heap.size + 1; omega) _⟩
      rw [HCC.out, HRLd.out]
      exact rv_grown (gb_set _ _ (gb_set _ _ (gb_refl _ (some (w.heap.size + 1))))) (rv_base HRV4.out (by omega)) (apart_of hrin (fun k hk => by cases hk; exact ⟨Nat.le_refl _, Nat.lt_succ_self _⟩) (by omega))
end Go.Proofs.YtpjopfhkgegahaaGreat
