/- A profile with a model: the program's. -/
import Derived.Test.YtpjopfhkgegahaaGreatModPar
import Derived.Test.YtpjopfhkgegahaaGreatModImpl
set_option linter.unusedVariables false
namespace Go.Proofs.YtpjopfhkgegahaaGreat
open Go.ChangeShapes Go.WideShapes Go.ChangeAt Go.RowKit

def BlankM (w : World) (g : Nat) : Prop := (w.cell? ⟨g, 0, none⟩ = some (.string ⟨#[]⟩) ∧ w.cell? ⟨g, 1, none⟩ = some (.slice none 0 0) ∧ w.cell? ⟨g, 2, none⟩ = some (.slice none 0 0) ∧ w.cell? ⟨g, 3, none⟩ = some (.slice none 0 0) ∧ w.cell? ⟨g, 4, none⟩ = some (.slice none 0 0) ∧ w.cell? ⟨g, 5, none⟩ = some (.slice none 0 0)) ∧ w.frozen? ⟨g, 0, none⟩ = false ∧ w.frozen? ⟨g, 1, none⟩ = false ∧ w.frozen? ⟨g, 2, none⟩ = false ∧ w.frozen? ⟨g, 3, none⟩ = false ∧ w.frozen? ⟨g, 4, none⟩ = false ∧ w.frozen? ⟨g, 5, none⟩ = false
theorem blankM_kept {w w' : World} {g : Nat} (hb : Below w.heap.size w w') (hg : g < w.heap.size) (h : BlankM w g) : BlankM w' g := by
  obtain ⟨⟨a, b, c, d, e, f⟩, g0, g1, g2, g3, g4, g5⟩ := h
  exact ⟨⟨(below_cell hb _ _ hg).trans a, (below_cell hb _ _ hg).trans b, (below_cell hb _ _ hg).trans c, (below_cell hb _ _ hg).trans d, (below_cell hb _ _ hg).trans e, (below_cell hb _ _ hg).trans f⟩, (below_frozen hb _ _ hg).trans g0, (below_frozen hb _ _ hg).trans g1, (below_frozen hb _ _ hg).trans g2, (below_frozen hb _ _ hg).trans g3, (below_frozen hb _ _ hg).trans g4, (below_frozen hb _ _ hg).trans g5⟩
theorem set6 {w w1 : World} {g : Nat} (h : Below w.heap.size w w1) (hg : w.heap.size ≤ g) (a b c d e f : Value) : Below w.heap.size w ((((((w1.setCell ⟨g, 0, none⟩ a).setCell ⟨g, 1, none⟩ b).setCell ⟨g, 2, none⟩ c).setCell ⟨g, 3, none⟩ d).setCell ⟨g, 4, none⟩ e).setCell ⟨g, 5, none⟩ f) :=
  (((((h.setCell (p := ⟨g, 0, none⟩) hg _).setCell (p := ⟨g, 1, none⟩) hg _).setCell (p := ⟨g, 2, none⟩) hg _).setCell (p := ⟨g, 3, none⟩) hg _).setCell (p := ⟨g, 4, none⟩) hg _).setCell (p := ⟨g, 5, none⟩) hg _
theorem ask_zw {zs : List Int} {ws : List (List Int)} {bs : List Int} {s : ByteArray} {rs : List Rg} (h : modB zs ws bs = true) : askM zs ws bs s rs = zwC s rs zs := by
  unfold askM zwC
  by_cases h2 : profB s rs = true
  · rw [if_pos ⟨h, h2⟩, if_pos h2]
  · rw [if_neg (fun q => h2 q.2), if_neg h2]
set_option maxRecDepth 20000 in
set_option maxHeartbeats 4000000 in
theorem modelled_bad (v0 v1 v2 v : Value) (zs : List Int) (ws : List (List Int)) (bs : List Int) (s : ByteArray) (w : World) (h0 : IntsAt w v0 zs) (h1 : RowsAt w v1 ws) (h2 : IntsAt w v2 bs) (hv : ∃ a n c, v = .slice a n c) (hM : Hid (modB zs ws bs = false)) :
    Calls Tryz.prog 54 #[.agg #[v0, v1, v2], .agg #[.string s, v]] w fun e w' => e = .returned (.tuple #[.agg #[.string ⟨#[]⟩, .slice none 0 0, .slice none 0 0, .slice none 0 0, .slice none 0 0, .slice none 0 0], .int .i64 1]) ∧ Below w.heap.size w w' := by
  have H0 := Lib.hid h0
  have H1 := Lib.hid h1
  have H2 := Lib.hid h2
  obtain ⟨a0, k0, rfl⟩ := ints_form h0
  obtain ⟨a1, k1, rfl⟩ := mrows_form h1
  obtain ⟨a2, k2, rfl⟩ := ints_form h2
  obtain ⟨av, nv, cv, rfl⟩ := hv
  clear h0 h1 h2
  generalize zs.length = l0 at *
  generalize ws.length = l1 at *
  generalize bs.length = l2 at *
  have hba : Below w.heap.size w (((w.alloc (.cells #[.slice a0 l0 k0, .slice a1 l1 k1, .slice a2 l2 k2] 38)).alloc (.cells #[.string s, .slice av nv cv] 42)).alloc (.cells #[.string ⟨#[]⟩, .slice none 0 0, .slice none 0 0, .slice none 0 0, .slice none 0 0, .slice none 0 0] 95)) := ((below_al _ _).alloc (by simp) _).alloc (by simp; omega) _
  have hbm : BlankM (((w.alloc (.cells #[.slice a0 l0 k0, .slice a1 l1 k1, .slice a2 l2 k2] 38)).alloc (.cells #[.string s, .slice av nv cv] 42)).alloc (.cells #[.string ⟨#[]⟩, .slice none 0 0, .slice none 0 0, .slice none 0 0, .slice none 0 0, .slice none 0 0] 95)) (w.heap.size + 2) := ⟨⟨by go_simp, by go_simp, by go_simp, by go_simp, by go_simp, by go_simp⟩, by go_simp, by go_simp, by go_simp, by go_simp, by go_simp, by go_simp⟩
  have hsz : w.heap.size + 2 < (((w.alloc (.cells #[.slice a0 l0 k0, .slice a1 l1 k1, .slice a2 l2 k2] 38)).alloc (.cells #[.string s, .slice av nv cv] 42)).alloc (.cells #[.string ⟨#[]⟩, .slice none 0 0, .slice none 0 0, .slice none 0 0, .slice none 0 0, .slice none 0 0] 95)).heap.size := by simp
  have HBA := Lib.hid hba
  have HV := Lib.hid (implValidM_any _ _ _ zs ws bs _ (ints_kept hba H0.out) (mrows_kept hba H1.out) (ints_kept hba H2.out))
  clear hba
  go_enter Tryz.func54, Tryz.ntmps54
  go_wp2_with fail
  generalize (((w.alloc (.cells #[.slice a0 l0 k0, .slice a1 l1 k1, .slice a2 l2 k2] 38)).alloc (.cells #[.string s, .slice av nv cv] 42)).alloc (.cells #[.string ⟨#[]⟩, .slice none 0 0, .slice none 0 0, .slice none 0 0, .slice none 0 0, .slice none 0 0] 95)) = wA at *
  refine HV.out.mono ?_
  rintro e w1 ⟨rfl, hb⟩
  rw [hM.out]
  obtain ⟨⟨b0, b1, b2, b3, b4, b5⟩, f0, f1, f2, f3, f4, f5⟩ := blankM_kept hb hsz hbm
  have HB1 := Lib.hid (below_of HBA.out hb HBA.out.size)
  clear hb hbm
  go_wp2
  try simp only [Exit.inBlock, Exit.then]
  refine bodyPost_ret_by (v := .tuple #[.agg #[.string ⟨#[]⟩, .slice none 0 0, .slice none 0 0, .slice none 0 0, .slice none 0 0, .slice none 0 0], .int .i64 1]) (by rw [results_cell_tmp rfl]; go_simp) rfl ?_
  exact ⟨rfl, set6 HB1.out (by omega) _ _ _ _ _ _⟩
set_option maxRecDepth 20000 in
set_option maxHeartbeats 4000000 in
theorem modelled_ok (v0 v1 v2 v : Value) (zs : List Int) (ws : List (List Int)) (bs : List Int) (s : ByteArray) (rs : List Rg) (w : World) (h0 : IntsAt w v0 zs) (h1 : RowsAt w v1 ws) (h2 : IntsAt w v2 bs) (hv : RingsAt w v rs) (hs : s.size ≤ maxLen) (hM : Hid (modB zs ws bs = true)) (hP : profB s rs = true) (hF : fitB rs.length zs = true) :
    Calls Tryz.prog 54 #[.agg #[v0, v1, v2], .agg #[.string s, v]] w fun e w' => e = .returned (.tuple #[.agg #[.string s, v, v0, v0, v1, v2], .int .i64 0]) ∧ Below w.heap.size w w' := by
  have H0 := Lib.hid h0
  have H1 := Lib.hid h1
  have H2 := Lib.hid h2
  have H3 := Lib.hid hv
  have HZB := Lib.hid (zb_0 (v := v) (vz := v0) hP hF)
  have HZC := Lib.hid (zw_0 hP hF).2
  have HZ := Lib.hid (fun W (hW : Below w.heap.size w W) => zonedBy_any s v v0 rs zs W (rings_kept hW hv) hs (ints_kept hW h0))
  obtain ⟨a0, k0, rfl⟩ := ints_form h0
  obtain ⟨a1, k1, rfl⟩ := mrows_form h1
  obtain ⟨a2, k2, rfl⟩ := ints_form h2
  obtain ⟨av, cv, rfl⟩ := rings_form hv
  clear h0 h1 h2 hv hP hF
  have HLN := Lib.hid (And.intro (rfl : zs.length = zs.length) (And.intro (rfl : ws.length = ws.length) (And.intro (rfl : bs.length = bs.length) (rfl : rs.length = rs.length))))
  generalize zs.length = l0 at *
  generalize ws.length = l1 at *
  generalize bs.length = l2 at *
  generalize rs.length = nv at *
  have hba : Below w.heap.size w (((w.alloc (.cells #[.slice a0 l0 k0, .slice a1 l1 k1, .slice a2 l2 k2] 38)).alloc (.cells #[.string s, .slice av nv cv] 42)).alloc (.cells #[.string ⟨#[]⟩, .slice none 0 0, .slice none 0 0, .slice none 0 0, .slice none 0 0, .slice none 0 0] 95)) := ((below_al _ _).alloc (by simp) _).alloc (by simp; omega) _
  have hbm : BlankM (((w.alloc (.cells #[.slice a0 l0 k0, .slice a1 l1 k1, .slice a2 l2 k2] 38)).alloc (.cells #[.string s, .slice av nv cv] 42)).alloc (.cells #[.string ⟨#[]⟩, .slice none 0 0, .slice none 0 0, .slice none 0 0, .slice none 0 0, .slice none 0 0] 95)) (w.heap.size + 2) := ⟨⟨by go_simp, by go_simp, by go_simp, by go_simp, by go_simp, by go_simp⟩, by go_simp, by go_simp, by go_simp, by go_simp, by go_simp, by go_simp⟩
  have z0 : (((w.alloc (.cells #[.slice a0 l0 k0, .slice a1 l1 k1, .slice a2 l2 k2] 38)).alloc (.cells #[.string s, .slice av nv cv] 42)).alloc (.cells #[.string ⟨#[]⟩, .slice none 0 0, .slice none 0 0, .slice none 0 0, .slice none 0 0, .slice none 0 0] 95)).cell? ⟨w.heap.size, 0, none⟩ = some (.slice a0 l0 k0) := by go_simp
  have z1 : (((w.alloc (.cells #[.slice a0 l0 k0, .slice a1 l1 k1, .slice a2 l2 k2] 38)).alloc (.cells #[.string s, .slice av nv cv] 42)).alloc (.cells #[.string ⟨#[]⟩, .slice none 0 0, .slice none 0 0, .slice none 0 0, .slice none 0 0, .slice none 0 0] 95)).cell? ⟨w.heap.size, 1, none⟩ = some (.slice a1 l1 k1) := by go_simp
  have z2 : (((w.alloc (.cells #[.slice a0 l0 k0, .slice a1 l1 k1, .slice a2 l2 k2] 38)).alloc (.cells #[.string s, .slice av nv cv] 42)).alloc (.cells #[.string ⟨#[]⟩, .slice none 0 0, .slice none 0 0, .slice none 0 0, .slice none 0 0, .slice none 0 0] 95)).cell? ⟨w.heap.size, 2, none⟩ = some (.slice a2 l2 k2) := by go_simp
  have z3 : (((w.alloc (.cells #[.slice a0 l0 k0, .slice a1 l1 k1, .slice a2 l2 k2] 38)).alloc (.cells #[.string s, .slice av nv cv] 42)).alloc (.cells #[.string ⟨#[]⟩, .slice none 0 0, .slice none 0 0, .slice none 0 0, .slice none 0 0, .slice none 0 0] 95)).cell? ⟨w.heap.size + 1, 0, none⟩ = some (.string s) := by go_simp
  have z4 : (((w.alloc (.cells #[.slice a0 l0 k0, .slice a1 l1 k1, .slice a2 l2 k2] 38)).alloc (.cells #[.string s, .slice av nv cv] 42)).alloc (.cells #[.string ⟨#[]⟩, .slice none 0 0, .slice none 0 0, .slice none 0 0, .slice none 0 0, .slice none 0 0] 95)).cell? ⟨w.heap.size + 1, 1, none⟩ = some (.slice av nv cv) := by go_simp
  have hsz : w.heap.size + 2 < (((w.alloc (.cells #[.slice a0 l0 k0, .slice a1 l1 k1, .slice a2 l2 k2] 38)).alloc (.cells #[.string s, .slice av nv cv] 42)).alloc (.cells #[.string ⟨#[]⟩, .slice none 0 0, .slice none 0 0, .slice none 0 0, .slice none 0 0, .slice none 0 0] 95)).heap.size := by simp
  have HBA := Lib.hid hba
  have HV := Lib.hid (implValidM_any _ _ _ zs ws bs _ (ints_kept hba H0.out) (mrows_kept hba H1.out) (ints_kept hba H2.out))
  clear hba
  go_enter Tryz.func54, Tryz.ntmps54
  go_wp2_with fail
  generalize (((w.alloc (.cells #[.slice a0 l0 k0, .slice a1 l1 k1, .slice a2 l2 k2] 38)).alloc (.cells #[.string s, .slice av nv cv] 42)).alloc (.cells #[.string ⟨#[]⟩, .slice none 0 0, .slice none 0 0, .slice none 0 0, .slice none 0 0, .slice none 0 0] 95)) = wA at *
  refine HV.out.mono ?_
  rintro e w1 ⟨rfl, hb⟩
  rw [hM.out]
  have y0 := (below_cell hb _ _ (by omega)).trans z0
  have y1 := (below_cell hb _ _ (by omega)).trans z1
  have y2 := (below_cell hb _ _ (by omega)).trans z2
  have y3 := (below_cell hb _ _ (by omega)).trans z3
  have y4 := (below_cell hb _ _ (by omega)).trans z4
  have HBM := Lib.hid (blankM_kept hb hsz hbm)
  have hsz1 := Nat.lt_of_lt_of_le hsz hb.size
  have HB1 := Lib.hid (below_of HBA.out hb HBA.out.size)
  clear hb hbm z0 z1 z2 z3 z4
  go_wp2_with fail
  refine (HZ.out _ HB1.out).mono ?_
  rintro e w2 ⟨rfl, hb⟩
  rw [HZB.out, HZC.out]
  have hal := below_of hb (below_al w2 (.cells #[.string s, .slice av nv cv, .slice a0 l0 k0] 93)) hb.size
  have x0 := (below_cell hal _ _ (show w.heap.size < w1.heap.size by omega)).trans y0
  have x1 := (below_cell hal _ _ (show w.heap.size < w1.heap.size by omega)).trans y1
  have x2 := (below_cell hal _ _ (show w.heap.size < w1.heap.size by omega)).trans y2
  obtain ⟨⟨b0, b1, b2, b3, b4, b5⟩, f0, f1, f2, f3, f4, f5⟩ := blankM_kept hal hsz1 HBM.out
  have HB2 := Lib.hid (below_of HB1.out hal HB1.out.size)
  clear hb hal y0 y1 y2 y3 y4
  go_wp2
  try simp only [Exit.inBlock, Exit.then]
  refine bodyPost_ret_by (v := .tuple #[.agg #[.string s, .slice av nv cv, .slice a0 l0 k0, .slice a0 l0 k0, .slice a1 l1 k1, .slice a2 l2 k2], .int .i64 0]) (by rw [results_cell_tmp rfl]; go_simp) rfl ?_
  exact ⟨rfl, set6 HB2.out (by omega) _ _ _ _ _ _⟩
set_option maxRecDepth 20000 in
set_option maxHeartbeats 4000000 in
theorem modelled_no (v0 v1 v2 v : Value) (zs : List Int) (ws : List (List Int)) (bs : List Int) (s : ByteArray) (rs : List Rg) (w : World) (h0 : IntsAt w v0 zs) (h1 : RowsAt w v1 ws) (h2 : IntsAt w v2 bs) (hv : RingsAt w v rs) (hs : s.size ≤ maxLen) (hM : Hid (modB zs ws bs = true)) (hC : ¬ (profB s rs = true ∧ fitB rs.length zs = true)) :
    Calls Tryz.prog 54 #[.agg #[v0, v1, v2], .agg #[.string s, v]] w fun e w' => e = .returned (.tuple #[.agg #[.string ⟨#[]⟩, .slice none 0 0, .slice none 0 0, .slice none 0 0, .slice none 0 0, .slice none 0 0], .int .i64 (zwC s rs zs)]) ∧ Below w.heap.size w w' := by
  have H0 := Lib.hid h0
  have H1 := Lib.hid h1
  have H2 := Lib.hid h2
  have H3 := Lib.hid hv
  have HZB := Lib.hid (zb_1 (v := v) (vz := v0) hC)
  have HNE := Lib.hid (show zwC s rs zs ≠ 0 from fun h => hC (by
    unfold zwC at h
    split at h
    · rename_i q1
      split at h
      · rename_i q2; exact ⟨q1, q2⟩
      · cases h
    · cases h))
  have HZ := Lib.hid (fun W (hW : Below w.heap.size w W) => zonedBy_any s v v0 rs zs W (rings_kept hW hv) hs (ints_kept hW h0))
  obtain ⟨a0, k0, rfl⟩ := ints_form h0
  obtain ⟨a1, k1, rfl⟩ := mrows_form h1
  obtain ⟨a2, k2, rfl⟩ := ints_form h2
  obtain ⟨av, cv, rfl⟩ := rings_form hv
  clear h0 h1 h2 hv hC
  obtain ⟨z, hz⟩ : ∃ z, zwC s rs zs = z := ⟨_, rfl⟩
  have HCZ := Lib.hid hz
  rw [hz] at HNE HZ
  have hne : (z != 0) = true := bne_iff_ne.2 HNE.out
  clear hz
  have HLN := Lib.hid (And.intro (rfl : zs.length = zs.length) (And.intro (rfl : ws.length = ws.length) (And.intro (rfl : bs.length = bs.length) (rfl : rs.length = rs.length))))
  generalize zs.length = l0 at *
  generalize ws.length = l1 at *
  generalize bs.length = l2 at *
  generalize rs.length = nv at *
  have hba : Below w.heap.size w (((w.alloc (.cells #[.slice a0 l0 k0, .slice a1 l1 k1, .slice a2 l2 k2] 38)).alloc (.cells #[.string s, .slice av nv cv] 42)).alloc (.cells #[.string ⟨#[]⟩, .slice none 0 0, .slice none 0 0, .slice none 0 0, .slice none 0 0, .slice none 0 0] 95)) := ((below_al _ _).alloc (by simp) _).alloc (by simp; omega) _
  have hbm : BlankM (((w.alloc (.cells #[.slice a0 l0 k0, .slice a1 l1 k1, .slice a2 l2 k2] 38)).alloc (.cells #[.string s, .slice av nv cv] 42)).alloc (.cells #[.string ⟨#[]⟩, .slice none 0 0, .slice none 0 0, .slice none 0 0, .slice none 0 0, .slice none 0 0] 95)) (w.heap.size + 2) := ⟨⟨by go_simp, by go_simp, by go_simp, by go_simp, by go_simp, by go_simp⟩, by go_simp, by go_simp, by go_simp, by go_simp, by go_simp, by go_simp⟩
  have z0 : (((w.alloc (.cells #[.slice a0 l0 k0, .slice a1 l1 k1, .slice a2 l2 k2] 38)).alloc (.cells #[.string s, .slice av nv cv] 42)).alloc (.cells #[.string ⟨#[]⟩, .slice none 0 0, .slice none 0 0, .slice none 0 0, .slice none 0 0, .slice none 0 0] 95)).cell? ⟨w.heap.size, 0, none⟩ = some (.slice a0 l0 k0) := by go_simp
  have z1 : (((w.alloc (.cells #[.slice a0 l0 k0, .slice a1 l1 k1, .slice a2 l2 k2] 38)).alloc (.cells #[.string s, .slice av nv cv] 42)).alloc (.cells #[.string ⟨#[]⟩, .slice none 0 0, .slice none 0 0, .slice none 0 0, .slice none 0 0, .slice none 0 0] 95)).cell? ⟨w.heap.size, 1, none⟩ = some (.slice a1 l1 k1) := by go_simp
  have z2 : (((w.alloc (.cells #[.slice a0 l0 k0, .slice a1 l1 k1, .slice a2 l2 k2] 38)).alloc (.cells #[.string s, .slice av nv cv] 42)).alloc (.cells #[.string ⟨#[]⟩, .slice none 0 0, .slice none 0 0, .slice none 0 0, .slice none 0 0, .slice none 0 0] 95)).cell? ⟨w.heap.size, 2, none⟩ = some (.slice a2 l2 k2) := by go_simp
  have z3 : (((w.alloc (.cells #[.slice a0 l0 k0, .slice a1 l1 k1, .slice a2 l2 k2] 38)).alloc (.cells #[.string s, .slice av nv cv] 42)).alloc (.cells #[.string ⟨#[]⟩, .slice none 0 0, .slice none 0 0, .slice none 0 0, .slice none 0 0, .slice none 0 0] 95)).cell? ⟨w.heap.size + 1, 0, none⟩ = some (.string s) := by go_simp
  have z4 : (((w.alloc (.cells #[.slice a0 l0 k0, .slice a1 l1 k1, .slice a2 l2 k2] 38)).alloc (.cells #[.string s, .slice av nv cv] 42)).alloc (.cells #[.string ⟨#[]⟩, .slice none 0 0, .slice none 0 0, .slice none 0 0, .slice none 0 0, .slice none 0 0] 95)).cell? ⟨w.heap.size + 1, 1, none⟩ = some (.slice av nv cv) := by go_simp
  have hsz : w.heap.size + 2 < (((w.alloc (.cells #[.slice a0 l0 k0, .slice a1 l1 k1, .slice a2 l2 k2] 38)).alloc (.cells #[.string s, .slice av nv cv] 42)).alloc (.cells #[.string ⟨#[]⟩, .slice none 0 0, .slice none 0 0, .slice none 0 0, .slice none 0 0, .slice none 0 0] 95)).heap.size := by simp
  have HBA := Lib.hid hba
  have HV := Lib.hid (implValidM_any _ _ _ zs ws bs _ (ints_kept hba H0.out) (mrows_kept hba H1.out) (ints_kept hba H2.out))
  clear hba
  go_enter Tryz.func54, Tryz.ntmps54
  go_wp2_with fail
  generalize (((w.alloc (.cells #[.slice a0 l0 k0, .slice a1 l1 k1, .slice a2 l2 k2] 38)).alloc (.cells #[.string s, .slice av nv cv] 42)).alloc (.cells #[.string ⟨#[]⟩, .slice none 0 0, .slice none 0 0, .slice none 0 0, .slice none 0 0, .slice none 0 0] 95)) = wA at *
  refine HV.out.mono ?_
  rintro e w1 ⟨rfl, hb⟩
  rw [hM.out]
  have y0 := (below_cell hb _ _ (by omega)).trans z0
  have y1 := (below_cell hb _ _ (by omega)).trans z1
  have y2 := (below_cell hb _ _ (by omega)).trans z2
  have y3 := (below_cell hb _ _ (by omega)).trans z3
  have y4 := (below_cell hb _ _ (by omega)).trans z4
  have HBM := Lib.hid (blankM_kept hb hsz hbm)
  have hsz1 := Nat.lt_of_lt_of_le hsz hb.size
  have HB1 := Lib.hid (below_of HBA.out hb HBA.out.size)
  clear hb hbm z0 z1 z2 z3 z4
  go_wp2_with fail
  refine (HZ.out _ HB1.out).mono ?_
  rintro e w2 ⟨rfl, hb⟩
  rw [HZB.out]
  have hal := below_of hb (below_al w2 (.cells #[.string ⟨#[]⟩, .slice none 0 0, .slice none 0 0] 93)) hb.size
  have x0 := (below_cell hal _ _ (show w.heap.size < w1.heap.size by omega)).trans y0
  have x1 := (below_cell hal _ _ (show w.heap.size < w1.heap.size by omega)).trans y1
  have x2 := (below_cell hal _ _ (show w.heap.size < w1.heap.size by omega)).trans y2
  obtain ⟨⟨b0, b1, b2, b3, b4, b5⟩, f0, f1, f2, f3, f4, f5⟩ := blankM_kept hal hsz1 HBM.out
  have HB2 := Lib.hid (below_of HB1.out hal HB1.out.size)
  clear hb hal y0 y1 y2 y3 y4
  go_wp2
  try simp only [Exit.inBlock, Exit.then]
  refine bodyPost_ret_by (v := .tuple #[.agg #[.string ⟨#[]⟩, .slice none 0 0, .slice none 0 0, .slice none 0 0, .slice none 0 0, .slice none 0 0], .int .i64 z]) (by rw [results_cell_tmp rfl]; go_simp) rfl ?_
  exact ⟨by rw [HCZ.out], set6 HB2.out (by omega) _ _ _ _ _ _⟩
end Go.Proofs.YtpjopfhkgegahaaGreat
