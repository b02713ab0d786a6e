/- Zones of a profile, and their walls: both programs' answers. -/
import Derived.Test.YtpjopfhkgegahaaGreatWallT
import Derived.Test.YtpjopfhkgegahaaGreatWallI
import Derived.Test.YtpjopfhkgegahaaGreatIntRes
import Derived.Test.YtpjopfhkgegahaaGreatG2
import Derived.Deep.RegionHeld3
set_option linter.unusedVariables false
namespace Go.Proofs.YtpjopfhkgegahaaGreat
open Go.ChangeShapes Go.WideShapes Go.ChangeAt Go.RowKit

theorem below_dr0 (w : World) : Below w.heap.size w w.drew := ⟨rfl, rfl, rfl, Nat.le_refl _, fun _ _ => rfl⟩
def zwL (s : ByteArray) (rs : List Rg) (zs : List Int) : List Int := if profB s rs = true ∧ fitB rs.length zs = true then zWalls rs zs else []
def zwC (s : ByteArray) (rs : List Rg) (zs : List Int) : Int := if profB s rs = true then if fitB rs.length zs = true then 0 else 2 else 1
theorem zw_0 {s : ByteArray} {rs : List Rg} {zs : List Int} (h : profB s rs = true) (h2 : fitB rs.length zs = true) : zwL s rs zs = zWalls rs zs ∧ zwC s rs zs = 0 := by unfold zwL zwC; rw [if_pos ⟨h, h2⟩, if_pos h, if_pos h2]; exact ⟨rfl, rfl⟩
theorem zw_2 {s : ByteArray} {rs : List Rg} {zs : List Int} (h : profB s rs = true) (h2 : fitB rs.length zs = false) : zwL s rs zs = [] ∧ zwC s rs zs = 2 := by unfold zwL zwC; rw [if_neg (by rw [h2]; simp), if_pos h, if_neg (by rw [h2]; simp)]; exact ⟨rfl, rfl⟩
theorem zw_1 {s : ByteArray} {rs : List Rg} {zs : List Int} (h : profB s rs = false) : zwL s rs zs = [] ∧ zwC s rs zs = 1 := by unfold zwL zwC; rw [if_neg (by rw [h]; simp), if_neg (by rw [h]; simp)]; exact ⟨rfl, rfl⟩
theorem zw_len (s : ByteArray) (rs : List Rg) (zs : List Int) : (zwL s rs zs).length ≤ 64 := by
  unfold zwL
  by_cases h : profB s rs = true ∧ fitB rs.length zs = true
  · rw [if_pos h, zWalls_len]
    have := (fit_facts h.2).1
    omega
  · rw [if_neg h]; simp
theorem ret_iv {v : Value} {a b : Int} (h : a = b) : Ending.returned (.tuple #[v, .int .i64 a]) = .returned (.tuple #[v, .int .i64 b]) := by rw [h]
theorem held2Z {w W W2 : World} {b p : Nat} {o : Nat} {x y : Value} (hz : b < w.heap.size ∧ p < w.heap.size) (h1 : w.cell? ⟨b, o, none⟩ = some x) (h2 : w.cell? ⟨p, 1, none⟩ = some y) (hW : Below w.heap.size w W) (hb : Below W.heap.size W W2) :
    W2.cell? ⟨b, o, none⟩ = some x ∧ W2.cell? ⟨p, 1, none⟩ = some y ∧ Below w.heap.size w W2 := by
  have h := below_of hW hb hW.size
  exact ⟨(below_cell h _ _ hz.1).trans h1, (below_cell h _ _ hz.2).trans h2, h⟩
set_option maxRecDepth 20000 in
set_option maxHeartbeats 2000000 in
theorem areOf_any (s : ByteArray) (v vz : Value) (rs : List Rg) (zs : List Int) (w : World) (hv : ∃ a c, v = .slice a rs.length c) (hn32 : rs.length ≤ 1048576) (hz : IntsAt w vz zs) :
    Calls Tryz.prog 112 #[vz, .agg #[.string s, v]] w fun e w' => e = .returned (.bool (fitB rs.length zs)) ∧ Below w.heap.size w w' := by
  have hal := alloc_lt2 w (.cells #[.string s, v] 42)
  have hpa := prof_alloc w s v 42
  have hba := below_al w (.cells #[.string s, v] 42)
  have HV := Lib.hid (fun W (hW : Below (w.alloc (.cells #[.string s, v] 42)).heap.size (w.alloc (.cells #[.string s, v] 42)) W) => zvalid_any zs vz W (ints_kept hW (ints_kept hba hz)))
  have HBA := Lib.hid hba
  have HZI := Lib.hid (ints_kept hba hz)
  obtain ⟨a2, c2, rfl⟩ := hv
  rcases Bool.eq_false_or_eq_true (zonesB zs) with h1 | h1
  · have HZT := Lib.hid h1
    have hl := zones_len h1
    have HF := Lib.hid (show fitB rs.length zs = decide (zs.getD (zs.length - 1) 0 < rs.length) by unfold fitB; rw [h1]; rfl)
    obtain ⟨b, o, c, rfl, hb, hc⟩ := ints_cells HZI.out (by omega)
    obtain ⟨q, hq⟩ : ∃ q, zs.length = q + 1 := ⟨zs.length - 1, by omega⟩
    rw [hq, Nat.add_sub_cancel] at HF
    have x0 := hc q (by omega)
    obtain ⟨p0, p1⟩ := hpa
    generalize hm : zs.length = m at *
    have hw : IntKind.i64.wrap ((m : Int) - 1) = (q : Int) := by rw [show (m : Int) - 1 = (q : Int) by omega]; exact IntWalk.i64_in _ (by omega)
    have hq0 : (0 : Int) ≤ (q : Int) := by omega
    have hq1 : (q : Int) < (m : Int) := by omega
    clear h1 hc hz hq hm hl
    generalize rs.length = n at *
    generalize zs.getD q 0 = z at *
    go_enter Tryz.func112, Tryz.ntmps112
    go_wp2
    generalize w.alloc (.cells #[.string s, .slice a2 n c2] 42) = wA at *
    have hzz : b < wA.heap.size ∧ w.heap.size < wA.heap.size := ⟨hb, hal⟩
    go_region_held3 (fun w' => w'.cell? ⟨b, o + q, none⟩ = some (.int .i64 z) ∧ w'.cell? ⟨w.heap.size, 1, none⟩ = some (.slice a2 n c2) ∧ Below wA.heap.size wA w')
      (first | exact ⟨x0, p1, ⟨rfl, rfl, rfl, Nat.le_refl _, fun _ _ => rfl⟩⟩ | exact held2Z (W := wA.drew) hzz x0 p1 (below_dr0 wA) hb6 | assumption)
      (first | (go_at_call 109; refine (HV.out wA.drew (below_dr0 wA)).mono ?_; rintro e w6 ⟨rfl, hb6⟩; rw [HZT.out]))
    have HBF := Lib.hid (below_of HBA.out (below_of (below_dr0 wA) hb6 (below_dr0 wA).size) HBA.out.size)
    clear hb6
    go_wp2
    go_ret
    exact ⟨ret_bool HF.out.symm, HBF.out⟩
  · have HZT := Lib.hid h1
    have HF := Lib.hid (show fitB rs.length zs = false by unfold fitB; rw [h1]; rfl)
    obtain ⟨a, c, rfl⟩ := ints_form hz
    clear h1 hz hpa
    generalize rs.length = n at *
    generalize zs.length = m at *
    go_enter Tryz.func112, Tryz.ntmps112
    go_wp2
    generalize w.alloc (.cells #[.string s, .slice a2 n c2] 42) = wA at *
    refine wp_region_held_drew (S := (fun w' => Below wA.heap.size wA w')) (by kernel_rfl) (⟨rfl, rfl, rfl, Nat.le_refl _, fun _ _ => rfl⟩) (fun hHeld => ?_)
    refine takeH 0 (some 5) (.slice a m c) hHeld rfl rfl (by rfl) (by kernel_rfl) (by kernel_rfl) (by kernel_rfl) (fun _ _ _ h => h) (fun wS hSw => ?_) ?_
    · ((try dsimp only at hSw); go_simp; try with_reducible rfl)
    simp only [Act.put, List.setIfInBounds_toArray, List.set_cons_zero, List.set_cons_succ]
    refine loneH 1 (some 6) rfl rfl (by kernel_rfl) (by rfl) (fun K hK => ?_)
    go_simp; refine (HV.out wA.drew (below_dr0 wA)).mono ?_; rintro e w6 ⟨rfl, hb6⟩; rw [HZT.out]
    refine hK.out _ _ (below_of (below_dr0 wA) hb6 (below_dr0 wA).size) (fun hHeld2 => ?_)
    clear hK K hHeld
    have hHeld := hHeld2
    clear hHeld2
    simp only [Act.put, List.setIfInBounds_toArray, List.set_cons_zero, List.set_cons_succ]
    refine takeH 2 (some 7) (.bool false) hHeld rfl rfl (by rfl) (by kernel_rfl) (by kernel_rfl) (by kernel_rfl) (fun _ _ _ h => h) (fun wS hSw => ?_) ?_
    · ((try dsimp only at hSw); go_simp; try with_reducible rfl)
    simp only [Act.put, List.setIfInBounds_toArray, List.set_cons_zero, List.set_cons_succ]
    refine skipH 3 (some 8) hHeld rfl (by rfl) (by kernel_rfl) (by kernel_rfl) (by kernel_rfl) (fun _ _ _ h => h) ?_
    simp only [Act.put, List.setIfInBounds_toArray, List.set_cons_zero, List.set_cons_succ]
    refine skipH 4 (some 9) hHeld rfl (by rfl) (by kernel_rfl) (by kernel_rfl) (by kernel_rfl) (fun _ _ _ h => h) ?_
    simp only [Act.put, List.setIfInBounds_toArray, List.set_cons_zero, List.set_cons_succ]
    refine skipH 5 (some 10) hHeld rfl (by rfl) (by kernel_rfl) (by kernel_rfl) (by kernel_rfl) (fun _ _ _ h => h) ?_
    simp only [Act.put, List.setIfInBounds_toArray, List.set_cons_zero, List.set_cons_succ]
    refine skipH 6 (some 11) hHeld rfl (by rfl) (by kernel_rfl) (by kernel_rfl) (by kernel_rfl) (fun _ _ _ h => h) ?_
    simp only [Act.put, List.setIfInBounds_toArray, List.set_cons_zero, List.set_cons_succ]
    refine skipH 7 (some 12) hHeld rfl (by rfl) (by kernel_rfl) (by kernel_rfl) (by kernel_rfl) (fun _ _ _ h => h) ?_
    simp only [Act.put, List.setIfInBounds_toArray, List.set_cons_zero, List.set_cons_succ]
    refine skipH 8 (some 13) hHeld rfl (by rfl) (by kernel_rfl) (by kernel_rfl) (by kernel_rfl) (fun _ _ _ h => h) ?_
    simp only [Act.put, List.setIfInBounds_toArray, List.set_cons_zero, List.set_cons_succ]
    refine skipH 9 (some 14) hHeld rfl (by rfl) (by kernel_rfl) (by kernel_rfl) (by kernel_rfl) (fun _ _ _ h => h) ?_
    simp only [Act.put, List.setIfInBounds_toArray, List.set_cons_zero, List.set_cons_succ]
    refine skipH 10 (some 15) hHeld rfl (by rfl) (by kernel_rfl) (by kernel_rfl) (by kernel_rfl) (fun _ _ _ h => h) ?_
    simp only [Act.put, List.setIfInBounds_toArray, List.set_cons_zero, List.set_cons_succ]
    refine skipH 11 (some 16) hHeld rfl (by rfl) (by kernel_rfl) (by kernel_rfl) (by kernel_rfl) (fun _ _ _ h => h) ?_
    simp only [Act.put, List.setIfInBounds_toArray, List.set_cons_zero, List.set_cons_succ]
    refine skipH 12 (some 17) hHeld rfl (by rfl) (by kernel_rfl) (by kernel_rfl) (by kernel_rfl) (fun _ _ _ h => h) ?_
    simp only [Act.put, List.setIfInBounds_toArray, List.set_cons_zero, List.set_cons_succ]
    refine takeH 13 (some 18) (.bool false) hHeld rfl rfl (by rfl) (by kernel_rfl) (by kernel_rfl) (by kernel_rfl) (fun _ _ _ h => h) (fun wS hSw => ?_) ?_
    · ((try dsimp only at hSw); go_simp; try with_reducible rfl)
    simp only [Act.put, List.setIfInBounds_toArray, List.set_cons_zero, List.set_cons_succ]
    refine takeH 14 (some 4) (.bool false) hHeld rfl rfl (by rfl) (by kernel_rfl) (by kernel_rfl) (by kernel_rfl) (fun _ _ _ h => h) (fun wS hSw => ?_) ?_
    · ((try dsimp only at hSw); go_simp; try with_reducible rfl)
    simp only [Act.put, List.setIfInBounds_toArray, List.set_cons_zero, List.set_cons_succ]
    refine wpAnyH_done (by kernel_rfl) ?_ _
    obtain HBF := Lib.hid (below_of HBA.out hHeld HBA.out.size)
    go_wp2
    go_ret
    exact ⟨ret_bool HF.out.symm, HBF.out⟩
/-- What zonedBy answers. -/
def zbV (s : ByteArray) (v vz : Value) (rs : List Rg) (zs : List Int) : Value := if profB s rs = true ∧ fitB rs.length zs = true then .agg #[.string s, v, vz] else .agg #[.string ⟨#[]⟩, .slice none 0 0, .slice none 0 0]
theorem zb_0 {s : ByteArray} {v vz : Value} {rs : List Rg} {zs : List Int} (h : profB s rs = true) (h2 : fitB rs.length zs = true) : zbV s v vz rs zs = .agg #[.string s, v, vz] := by unfold zbV; rw [if_pos ⟨h, h2⟩]
theorem zb_1 {s : ByteArray} {v vz : Value} {rs : List Rg} {zs : List Int} (h : ¬ (profB s rs = true ∧ fitB rs.length zs = true)) : zbV s v vz rs zs = .agg #[.string ⟨#[]⟩, .slice none 0 0, .slice none 0 0] := by unfold zbV; rw [if_neg h]
theorem ret_zb {v v2 : Value} {a b : Int} (h : v = v2) (k : a = b) : Ending.returned (.tuple #[v, .int .i64 a]) = .returned (.tuple #[v2, .int .i64 b]) := by rw [h, k]
set_option maxRecDepth 20000 in
set_option maxHeartbeats 4000000 in
theorem zonedBy_any (s : ByteArray) (v vz : Value) (rs : List Rg) (zs : List Int) (w : World) (h : RingsAt w v rs) (hs : s.size ≤ maxLen) (hz : IntsAt w vz zs) :
    Calls Tryz.prog 88 #[.agg #[.string s, v], vz] w fun e w' => e = .returned (.tuple #[zbV s v vz rs zs, .int .i64 (zwC s rs zs)]) ∧ Below w.heap.size w w' := by
  have hrl := h.1
  have HI := Lib.hid h
  have HZI := Lib.hid hz
  obtain ⟨a, c, rfl⟩ := rings_form h
  obtain ⟨az, cz, rfl⟩ := ints_form hz
  have HZ0 := Lib.hid (fun h2 h3 => And.intro (zb_0 (v := .slice a rs.length c) (vz := .slice az zs.length cz) (s := s) (rs := rs) (zs := zs) h2 h3) (zw_0 (s := s) (rs := rs) (zs := zs) h2 h3).2)
  have HZ2 := Lib.hid (fun h2 h3 => And.intro (zb_1 (v := .slice a rs.length c) (vz := .slice az zs.length cz) (s := s) (rs := rs) (zs := zs) (fun h => by rw [h3] at h; exact absurd h.2 (by simp))) (zw_2 (s := s) (rs := rs) (zs := zs) h2 h3).2)
  have HZ1 := Lib.hid (fun h2 => And.intro (zb_1 (v := .slice a rs.length c) (vz := .slice az zs.length cz) (s := s) (rs := rs) (zs := zs) (fun h => by rw [h2] at h; exact absurd h.1 (by simp))) (zw_1 (s := s) (rs := rs) (zs := zs) h2).2)
  have HAR := Lib.hid (fun W (hW : Below w.heap.size w W) => areOf_any s (.slice a rs.length c) (.slice az zs.length cz) rs zs W ⟨_, _, rfl⟩ hrl (ints_kept hW HZI.out))
  have HVP := Lib.hid (fun W (hW : Below w.heap.size w W) => implValidP_any s (.slice a rs.length c) rs W (rings_kept hW HI.out) hs)
  clear h hz HI HZI
  generalize hn : rs.length = n at *
  generalize hm : zs.length = m at *
  clear hn hm
  go_enter Tryz.func88, Tryz.ntmps88
  go_wp2_with fail
  have hB2 := (below_al w (.cells #[.string s, .slice a n c] 42)).alloc (by simp) (.cells #[.string ⟨#[]⟩, .slice none 0 0, .slice none 0 0] 93)
  have hr0 : ((w.alloc (.cells #[.string s, .slice a n c] 42)).alloc (.cells #[.string ⟨#[]⟩, .slice none 0 0, .slice none 0 0] 93)).cell? ⟨w.heap.size + 1, 0, none⟩ = some (.string ⟨#[]⟩) := by go_simp
  have hr1 : ((w.alloc (.cells #[.string s, .slice a n c] 42)).alloc (.cells #[.string ⟨#[]⟩, .slice none 0 0, .slice none 0 0] 93)).cell? ⟨w.heap.size + 1, 1, none⟩ = some (.slice none 0 0) := by go_simp
  have hr2 : ((w.alloc (.cells #[.string s, .slice a n c] 42)).alloc (.cells #[.string ⟨#[]⟩, .slice none 0 0, .slice none 0 0] 93)).cell? ⟨w.heap.size + 1, 2, none⟩ = some (.slice none 0 0) := by go_simp
  have hf0 : ((w.alloc (.cells #[.string s, .slice a n c] 42)).alloc (.cells #[.string ⟨#[]⟩, .slice none 0 0, .slice none 0 0] 93)).frozen? ⟨w.heap.size + 1, 0, none⟩ = false := by go_simp
  have hf1 : ((w.alloc (.cells #[.string s, .slice a n c] 42)).alloc (.cells #[.string ⟨#[]⟩, .slice none 0 0, .slice none 0 0] 93)).frozen? ⟨w.heap.size + 1, 1, none⟩ = false := by go_simp
  have hf2 : ((w.alloc (.cells #[.string s, .slice a n c] 42)).alloc (.cells #[.string ⟨#[]⟩, .slice none 0 0, .slice none 0 0] 93)).frozen? ⟨w.heap.size + 1, 2, none⟩ = false := by go_simp
  have hp0 : ((w.alloc (.cells #[.string s, .slice a n c] 42)).alloc (.cells #[.string ⟨#[]⟩, .slice none 0 0, .slice none 0 0] 93)).cell? ⟨w.heap.size, 0, none⟩ = some (.string s) := by go_simp
  have hp1 : ((w.alloc (.cells #[.string s, .slice a n c] 42)).alloc (.cells #[.string ⟨#[]⟩, .slice none 0 0, .slice none 0 0] 93)).cell? ⟨w.heap.size, 1, none⟩ = some (.slice a n c) := by go_simp
  have hsz : w.heap.size + 2 ≤ ((w.alloc (.cells #[.string s, .slice a n c] 42)).alloc (.cells #[.string ⟨#[]⟩, .slice none 0 0, .slice none 0 0] 93)).heap.size := by simp
  have HBA := Lib.hid hB2
  clear hB2
  generalize (w.alloc (.cells #[.string s, .slice a n c] 42)).alloc (.cells #[.string ⟨#[]⟩, .slice none 0 0, .slice none 0 0] 93) = wA at *
  refine (HVP.out _ HBA.out).mono ?_
  rintro e w1 ⟨rfl, hb⟩
  have r0 := (below_cell hb _ _ (by omega)).trans hr0
  have r1 := (below_cell hb _ _ (by omega)).trans hr1
  have r2 := (below_cell hb _ _ (by omega)).trans hr2
  have f0 := (below_frozen hb _ _ (by omega)).trans hf0
  have f1 := (below_frozen hb _ _ (by omega)).trans hf1
  have f2 := (below_frozen hb _ _ (by omega)).trans hf2
  have p0 := (below_cell hb _ _ (by omega)).trans hp0
  have p1 := (below_cell hb _ _ (by omega)).trans hp1
  have HB1 := Lib.hid (below_of HBA.out hb HBA.out.size)
  have hsz1 : w.heap.size + 2 ≤ w1.heap.size := Nat.le_trans hsz hb.size
  clear hb hr0 hr1 hr2 hf0 hf1 hf2 hp0 hp1
  rcases Bool.eq_false_or_eq_true (profB s rs) with h1 | h1
  · rw [h1]
    have h0 := (below_cell (below_al w1 (.cells #[.string s, .slice a n c, .slice az m cz] 93)) _ 0 (show w.heap.size < w1.heap.size by omega)).trans p0
    have h0' := (below_cell (below_al w1 (.cells #[.string s, .slice a n c, .slice az m cz] 93)) _ 1 (show w.heap.size < w1.heap.size by omega)).trans p1
    go_wp2_with fail
    clear h0 h0'
    have hbx := below_al w1 (.cells #[.string s, .slice a n c, .slice az m cz] 93)
    have HBX := Lib.hid (below_of HB1.out hbx HB1.out.size)
    have x0 : (w1.alloc (.cells #[.string s, .slice a n c, .slice az m cz] 93)).cell? ⟨w1.heap.size, 0, none⟩ = some (.string s) := by go_simp
    have x1 : (w1.alloc (.cells #[.string s, .slice a n c, .slice az m cz] 93)).cell? ⟨w1.heap.size, 1, none⟩ = some (.slice a n c) := by go_simp
    have x2 : (w1.alloc (.cells #[.string s, .slice a n c, .slice az m cz] 93)).cell? ⟨w1.heap.size, 2, none⟩ = some (.slice az m cz) := by go_simp
    have g0 := (below_cell hbx _ _ (show w.heap.size + 1 < w1.heap.size by omega)).trans r0
    have g1 := (below_cell hbx _ _ (show w.heap.size + 1 < w1.heap.size by omega)).trans r1
    have g2 := (below_cell hbx _ _ (show w.heap.size + 1 < w1.heap.size by omega)).trans r2
    have e0 := (below_frozen hbx _ _ (show w.heap.size + 1 < w1.heap.size by omega)).trans f0
    have e1 := (below_frozen hbx _ _ (show w.heap.size + 1 < w1.heap.size by omega)).trans f1
    have e2 := (below_frozen hbx _ _ (show w.heap.size + 1 < w1.heap.size by omega)).trans f2
    have hsx : w1.heap.size < (w1.alloc (.cells #[.string s, .slice a n c, .slice az m cz] 93)).heap.size := alloc_lt2 _ _
    clear hbx r0 r1 r2 f0 f1 f2 p0 p1
    generalize w1.alloc (.cells #[.string s, .slice a n c, .slice az m cz] 93) = wx at *
    refine (HAR.out _ HBX.out).mono ?_
    rintro e w2 ⟨rfl, hb⟩
    have y0 := (below_cell hb _ _ hsx).trans x0
    have y1 := (below_cell hb _ _ hsx).trans x1
    have y2 := (below_cell hb _ _ hsx).trans x2
    have k0 := (below_cell hb _ _ (show w.heap.size + 1 < wx.heap.size by omega)).trans g0
    have k1 := (below_cell hb _ _ (show w.heap.size + 1 < wx.heap.size by omega)).trans g1
    have k2 := (below_cell hb _ _ (show w.heap.size + 1 < wx.heap.size by omega)).trans g2
    have l0 := (below_frozen hb _ _ (show w.heap.size + 1 < wx.heap.size by omega)).trans e0
    have l1 := (below_frozen hb _ _ (show w.heap.size + 1 < wx.heap.size by omega)).trans e1
    have l2 := (below_frozen hb _ _ (show w.heap.size + 1 < wx.heap.size by omega)).trans e2
    have HB2 := Lib.hid (below_of HBX.out hb HBX.out.size)
    clear hb x0 x1 x2 g0 g1 g2 e0 e1 e2
    rcases Bool.eq_false_or_eq_true (fitB n zs) with h2 | h2
    · have HR := Lib.hid (HZ0.out h1 h2)
      rw [h2]
      go_wp2
      try simp only [Exit.inBlock, Exit.then]
      refine bodyPost_ret_by (v := .tuple #[.agg #[.string s, .slice a n c, .slice az m cz], .int .i64 0]) (by rw [results_cell_tmp rfl]; go_simp) rfl ?_
      exact ⟨ret_zb HR.out.1.symm HR.out.2.symm, ((HB2.out.setCell (p := ⟨w.heap.size + 1, 0, none⟩) (by simp) _).setCell (p := ⟨w.heap.size + 1, 1, none⟩) (by simp) _).setCell (p := ⟨w.heap.size + 1, 2, none⟩) (by simp) _⟩
    · have HR := Lib.hid (HZ2.out h1 h2)
      rw [h2]
      go_wp2
      try simp only [Exit.inBlock, Exit.then]
      refine bodyPost_ret_by (v := .tuple #[.agg #[.string ⟨#[]⟩, .slice none 0 0, .slice none 0 0], .int .i64 2]) (by rw [results_cell_tmp rfl]; go_simp) rfl ?_
      exact ⟨ret_zb HR.out.1.symm HR.out.2.symm, ((HB2.out.setCell (p := ⟨w.heap.size + 1, 0, none⟩) (by simp) _).setCell (p := ⟨w.heap.size + 1, 1, none⟩) (by simp) _).setCell (p := ⟨w.heap.size + 1, 2, none⟩) (by simp) _⟩
  · have HR := Lib.hid (HZ1.out h1)
    rw [h1]
    go_wp2
    try simp only [Exit.inBlock, Exit.then]
    refine bodyPost_ret_by (v := .tuple #[.agg #[.string ⟨#[]⟩, .slice none 0 0, .slice none 0 0], .int .i64 1]) (by rw [results_cell_tmp rfl]; go_simp) rfl ?_
    exact ⟨ret_zb HR.out.1.symm HR.out.2.symm, ((HB1.out.setCell (p := ⟨w.heap.size + 1, 0, none⟩) (by simp) _).setCell (p := ⟨w.heap.size + 1, 1, none⟩) (by simp) _).setCell (p := ⟨w.heap.size + 1, 2, none⟩) (by simp) _⟩
end Go.Proofs.YtpjopfhkgegahaaGreat
