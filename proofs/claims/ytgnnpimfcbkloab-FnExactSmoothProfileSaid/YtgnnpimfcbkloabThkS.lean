/- A profile with a thicker wall: the reference model's walk. -/
import Derived.Test.YtgnnpimfcbkloabOwnP
import Derived.Test.YtgnnpimfcbkloabRenW
set_option linter.unusedVariables false
namespace Go.Proofs.Ytgnnpimfcbkloab
open Go.ChangeShapes Go.WideShapes Go.ChangeAt Go.RowKit

def thkR (by_ : Int) (r : Rg) : Rg := (r.1 + by_, r.2.1, r.2.2)
def thkC (s : ByteArray) (rs : List Rg) (d : Int) : Int := if profB s rs = true then (if inB d (-150000) 150000 = true then resC s (rs.map (thkR d)) else 2) else 1
theorem thkC_1 {s : ByteArray} {rs : List Rg} {d : Int} (h : profB s rs = false) : thkC s rs d = 1 := by unfold thkC; rw [h]; rfl
theorem thkC_2 {s : ByteArray} {rs : List Rg} {d : Int} (h : profB s rs = true) (h2 : inB d (-150000) 150000 = false) : thkC s rs d = 2 := by unfold thkC; rw [if_pos h, h2]; rfl
theorem thkC_3 {s : ByteArray} {rs : List Rg} {d : Int} (h : profB s rs = true) (h2 : inB d (-150000) 150000 = true) : thkC s rs d = resC s (rs.map (thkR d)) := by unfold thkC; rw [if_pos h, if_pos h2]
theorem thk_len (s : ByteArray) (rs : List Rg) (d : Int) : (resL (rs.map (thkR d)) (thkC s rs d)).length ≤ 64 := by
  rcases Bool.eq_false_or_eq_true (profB s rs) with h | h
  · have h2 := (prof_iff.1 h).2.1.2
    unfold resL
    split
    · rw [List.length_map]; omega
    · simp
  · rw [thkC_1 h]; simp [resL]
/-- The rings when k rounds are over. -/
def partR (f : Rg → Rg) (rs : List Rg) (k : Nat) : List Rg := (rs.take k).map f ++ rs.drop k
theorem partR_len (f : Rg → Rg) (rs : List Rg) (k : Nat) (hk : k ≤ rs.length) : (partR f rs k).length = rs.length := by simp [partR]; omega
theorem partR_get (f : Rg → Rg) (rs : List Rg) (k : Nat) (h : k < rs.length) : (partR f rs k).getD k zR = rs.getD k zR := by
  unfold partR
  rw [List.getD_eq_getElem?_getD, List.getElem?_append_right (by simp; omega)]
  simp [List.getD, h, Nat.min_eq_left (Nat.le_of_lt h)]
theorem partR_next (f : Rg → Rg) (rs : List Rg) (k : Nat) (h : k < rs.length) : (partR f rs k).set k (f (rs.getD k zR)) = partR f rs (k + 1) := by
  unfold partR
  rw [List.set_append_right _ _ (by simp; omega), List.take_succ_eq_append_getElem h, List.map_append, List.drop_eq_getElem_cons h]
  simp [List.getD, h, Nat.min_eq_left (Nat.le_of_lt h)]
  rw [List.drop_eq_getElem_cons h]
  rfl
theorem partR_all (f : Rg → Rg) (rs : List Rg) : partR f rs rs.length = rs.map f := by simp [partR]
theorem flat_set1 (rs : List Rg) (j : Nat) (v : Int) (h : j < rs.length) : (flat rs).set (j * 3) v = flat (rs.set j (v, (rs.getD j zR).2)) := by
  induction rs generalizing j with
  | nil => simp at h
  | cons r rs ih =>
    match j with
    | 0 => simp [flat]
    | j + 1 =>
      have := ih j (by simpa using h)
      rw [show (j + 1) * 3 = j * 3 + 1 + 1 + 1 by omega]
      simp [flat, this]
theorem store1 {w : World} {B g n cap : Nat} {rs : List Rg} (h : w.ownsRow B 54 3 (.slice (some ⟨g, 0, none⟩) n cap) n (i64s (flat rs))) (j : Nat) (v : Int) (hj : j < rs.length) :
    (w.setCell ⟨g, j * 3, none⟩ (.int .i64 v)).ownsRow B 54 3 (.slice (some ⟨g, 0, none⟩) n cap) n (i64s (flat (rs.set j (v, (rs.getD j zR).2)))) := by
  have h1 := (h.stored (j * 3) (.int .i64 v)).1
  rw [i64s_set, flat_set1 rs j v hj] at h1
  exact h1
set_option maxRecDepth 20000 in
set_option maxHeartbeats 4000000 in
theorem specThk_bad (s : ByteArray) (a : Option Addr) (n c : Nat) (rs : List Rg) (d : Int) (w : World) (hn : Hid (rs.length = n)) (HI : Hid (RingsAt w (.slice a n c) rs)) (hs : s.size ≤ maxLen) (HP : Hid (profB s rs = false)) :
    Calls Try.prog 23 #[.agg #[.string s, .slice a n c], .int .i64 d] w (ProfU ⟨#[]⟩ [] 1 w) := by
  have hBA := ((Below.refl w.heap.size w).alloc (Nat.le_refl _) (.cells #[.string s, .slice a n c] 31)).alloc (by simp) (.cells #[.string ⟨#[]⟩, .slice none 0 0] 31)
  have z0 : ((w.alloc (.cells #[.string s, .slice a n c] 31)).alloc (.cells #[.string ⟨#[]⟩, .slice none 0 0] 31)).cell? ⟨w.heap.size, 0, none⟩ = some (.string s) := by go_simp
  have z1 : ((w.alloc (.cells #[.string s, .slice a n c] 31)).alloc (.cells #[.string ⟨#[]⟩, .slice none 0 0] 31)).cell? ⟨w.heap.size, 1, none⟩ = some (.slice a n c) := by go_simp
  have zf : ((w.alloc (.cells #[.string s, .slice a n c] 31)).alloc (.cells #[.string ⟨#[]⟩, .slice none 0 0] 31)).frozen? ⟨w.heap.size, 0, none⟩ = false := by go_simp
  have hbl : BlankP ((w.alloc (.cells #[.string s, .slice a n c] 31)).alloc (.cells #[.string ⟨#[]⟩, .slice none 0 0] 31)) (w.heap.size + 1) := ⟨⟨by go_simp, by go_simp⟩, by go_simp, by go_simp⟩
  have hl1 : w.heap.size + 1 < ((w.alloc (.cells #[.string s, .slice a n c] 31)).alloc (.cells #[.string ⟨#[]⟩, .slice none 0 0] 31)).heap.size := by simp
  have HBA := Lib.hid hBA
  have HIA := Lib.hid (rings_kept hBA HI.out)
  go_enter Try.func23, Try.ntmps23
  go_wp2_with fail
  clear hBA
  generalize ((w.alloc (.cells #[.string s, .slice a n c] 31)).alloc (.cells #[.string ⟨#[]⟩, .slice none 0 0] 31)) = wA at *
  refine (l05Ok_any _ s _ rs _ ⟨z0, z1⟩ HIA.out hs).mono ?_
  rintro e w1 ⟨rfl, hb⟩
  rw [HP.out]
  have q0 := (below_cell hb _ _ (by omega)).trans z0
  have q1 := (below_cell hb _ _ (by omega)).trans z1
  have qf := (below_frozen hb w.heap.size 0 (by omega)).trans zf
  have HBL := Lib.hid (blankP_kept hb hl1 hbl)
  have hl2 := Nat.lt_of_lt_of_le hl1 hb.size
  have HI1 := Lib.hid (rings_kept hb HIA.out)
  have HB := Lib.hid (below_of HBA.out hb HBA.out.size)
  clear hb hbl z0 z1 zf
  obtain ⟨⟨b0, b1⟩, f0, f1⟩ := HBL.out
  go_wp2
  try simp only [Exit.inBlock, Exit.then]
  refine bodyPost_ret_by (v := .tuple #[.agg #[.string ⟨#[]⟩, .slice none 0 0], .int .i64 1]) (by rw [results_cellP rfl]; go_simp) rfl ?_
  refine ⟨_, rfl, .inl ⟨rfl, rfl⟩, ?_⟩
  exact (HB.out.setCell (by show _ ≤ w.heap.size + 1; omega) _).setCell (by show _ ≤ w.heap.size + 1; omega) _
set_option maxRecDepth 20000 in
set_option maxHeartbeats 4000000 in
theorem specThk_range (s : ByteArray) (a : Option Addr) (n c : Nat) (rs : List Rg) (d : Int) (w : World) (hn : Hid (rs.length = n)) (HI : Hid (RingsAt w (.slice a n c) rs)) (hs : s.size ≤ maxLen) (HP : Hid (profB s rs = true)) (HM : Hid (inB d (-150000) 150000 = false)) :
    Calls Try.prog 23 #[.agg #[.string s, .slice a n c], .int .i64 d] w (ProfU ⟨#[]⟩ [] 2 w) := by
  have hBA := ((Below.refl w.heap.size w).alloc (Nat.le_refl _) (.cells #[.string s, .slice a n c] 31)).alloc (by simp) (.cells #[.string ⟨#[]⟩, .slice none 0 0] 31)
  have z0 : ((w.alloc (.cells #[.string s, .slice a n c] 31)).alloc (.cells #[.string ⟨#[]⟩, .slice none 0 0] 31)).cell? ⟨w.heap.size, 0, none⟩ = some (.string s) := by go_simp
  have z1 : ((w.alloc (.cells #[.string s, .slice a n c] 31)).alloc (.cells #[.string ⟨#[]⟩, .slice none 0 0] 31)).cell? ⟨w.heap.size, 1, none⟩ = some (.slice a n c) := by go_simp
  have zf : ((w.alloc (.cells #[.string s, .slice a n c] 31)).alloc (.cells #[.string ⟨#[]⟩, .slice none 0 0] 31)).frozen? ⟨w.heap.size, 0, none⟩ = false := by go_simp
  have hbl : BlankP ((w.alloc (.cells #[.string s, .slice a n c] 31)).alloc (.cells #[.string ⟨#[]⟩, .slice none 0 0] 31)) (w.heap.size + 1) := ⟨⟨by go_simp, by go_simp⟩, by go_simp, by go_simp⟩
  have hl1 : w.heap.size + 1 < ((w.alloc (.cells #[.string s, .slice a n c] 31)).alloc (.cells #[.string ⟨#[]⟩, .slice none 0 0] 31)).heap.size := by simp
  have HBA := Lib.hid hBA
  have HIA := Lib.hid (rings_kept hBA HI.out)
  go_enter Try.func23, Try.ntmps23
  go_wp2_with fail
  clear hBA
  generalize ((w.alloc (.cells #[.string s, .slice a n c] 31)).alloc (.cells #[.string ⟨#[]⟩, .slice none 0 0] 31)) = wA at *
  refine (l05Ok_any _ s _ rs _ ⟨z0, z1⟩ HIA.out hs).mono ?_
  rintro e w1 ⟨rfl, hb⟩
  rw [HP.out]
  have q0 := (below_cell hb _ _ (by omega)).trans z0
  have q1 := (below_cell hb _ _ (by omega)).trans z1
  have qf := (below_frozen hb w.heap.size 0 (by omega)).trans zf
  have HBL := Lib.hid (blankP_kept hb hl1 hbl)
  have hl2 := Nat.lt_of_lt_of_le hl1 hb.size
  have HI1 := Lib.hid (rings_kept hb HIA.out)
  have HB := Lib.hid (below_of HBA.out hb HBA.out.size)
  clear hb hbl z0 z1 zf
  go_wp2_with fail
  refine (l00In_any d (-150000) 150000 _).mono ?_
  rintro e w' ⟨rfl, rfl⟩
  rw [HM.out]
  obtain ⟨⟨b0, b1⟩, f0, f1⟩ := HBL.out
  go_wp2
  try simp only [Exit.inBlock, Exit.then]
  refine bodyPost_ret_by (v := .tuple #[.agg #[.string ⟨#[]⟩, .slice none 0 0], .int .i64 2]) (by rw [results_cellP rfl]; go_simp) rfl ?_
  refine ⟨_, rfl, .inl ⟨rfl, rfl⟩, ?_⟩
  exact (HB.out.setCell (by show _ ≤ w.heap.size + 1; omega) _).setCell (by show _ ≤ w.heap.size + 1; omega) _
set_option maxRecDepth 20000 in
set_option maxHeartbeats 4000000 in
theorem specThk_main (s : ByteArray) (a : Option Addr) (n c : Nat) (rs : List Rg) (d : Int) (w : World) (hn : Hid (rs.length = n)) (h1 : 1 ≤ n) (h32 : n ≤ 32) (HI : Hid (RingsAt w (.slice a n c) rs)) (hs : s.size ≤ maxLen) (HP : Hid (profB s rs = true)) (HM : Hid (inB d (-150000) 150000 = true)) :
    Calls Try.prog 23 #[.agg #[.string s, .slice a n c], .int .i64 d] w (ProfU (resS s (resC s (rs.map (thkR d)))) (resL (rs.map (thkR d)) (resC s (rs.map (thkR d)))) (resC s (rs.map (thkR d))) w) := by
  have hBA := ((Below.refl w.heap.size w).alloc (Nat.le_refl _) (.cells #[.string s, .slice a n c] 31)).alloc (by simp) (.cells #[.string ⟨#[]⟩, .slice none 0 0] 31)
  have z0 : ((w.alloc (.cells #[.string s, .slice a n c] 31)).alloc (.cells #[.string ⟨#[]⟩, .slice none 0 0] 31)).cell? ⟨w.heap.size, 0, none⟩ = some (.string s) := by go_simp
  have z1 : ((w.alloc (.cells #[.string s, .slice a n c] 31)).alloc (.cells #[.string ⟨#[]⟩, .slice none 0 0] 31)).cell? ⟨w.heap.size, 1, none⟩ = some (.slice a n c) := by go_simp
  have zf : ((w.alloc (.cells #[.string s, .slice a n c] 31)).alloc (.cells #[.string ⟨#[]⟩, .slice none 0 0] 31)).frozen? ⟨w.heap.size, 0, none⟩ = false := by go_simp
  have hbl : BlankP ((w.alloc (.cells #[.string s, .slice a n c] 31)).alloc (.cells #[.string ⟨#[]⟩, .slice none 0 0] 31)) (w.heap.size + 1) := ⟨⟨by go_simp, by go_simp⟩, by go_simp, by go_simp⟩
  have hl1 : w.heap.size + 1 < ((w.alloc (.cells #[.string s, .slice a n c] 31)).alloc (.cells #[.string ⟨#[]⟩, .slice none 0 0] 31)).heap.size := by simp
  have HBA := Lib.hid hBA
  have HIA := Lib.hid (rings_kept hBA HI.out)
  go_enter Try.func23, Try.ntmps23
  go_wp2_with fail
  clear hBA
  generalize ((w.alloc (.cells #[.string s, .slice a n c] 31)).alloc (.cells #[.string ⟨#[]⟩, .slice none 0 0] 31)) = wA at *
  refine (l05Ok_any _ s _ rs _ ⟨z0, z1⟩ HIA.out hs).mono ?_
  rintro e w1 ⟨rfl, hb⟩
  rw [HP.out]
  have q0 := (below_cell hb _ _ (by omega)).trans z0
  have q1 := (below_cell hb _ _ (by omega)).trans z1
  have qf := (below_frozen hb w.heap.size 0 (by omega)).trans zf
  have HBL := Lib.hid (blankP_kept hb hl1 hbl)
  have hl2 := Nat.lt_of_lt_of_le hl1 hb.size
  have HI1 := Lib.hid (rings_kept hb HIA.out)
  have HB := Lib.hid (below_of HBA.out hb HBA.out.size)
  clear hb hbl z0 z1 zf
  go_wp2_with fail
  refine (l00In_any d (-150000) 150000 _).mono ?_
  rintro e w' ⟨rfl, rfl⟩
  rw [HM.out]
  obtain ⟨b, off, rfl, hbl, hsrc⟩ := src_lie hn.out h1 HI1.out
  have HOW := Lib.hid (l05Own_any w.heap.size b off n c s rs _ hn.out h1 h32 (by omega) hbl ⟨q0, q1⟩ hsrc)
  clear hsrc
  go_wp2_with fail
  refine HOW.out.mono ?_
  rintro e w3 ⟨g, cap, rfl, hg, hown, hb⟩
  have HBL3 := Lib.hid (blankP_kept hb hl2 HBL.out)
  have hl3 := Nat.lt_of_lt_of_le hl2 hb.size
  have HB3 := Lib.hid (below_of HB.out hb HB.out.size)
  have hw1 : w.heap.size + 2 ≤ w1.heap.size := hl2
  have hdb := inB_iff.1 HM.out
  have HVR := Lib.hid (fun i hi => prof_ring HP.out i hi)
  have hg2 : w.heap.size + 2 ≤ g := by omega
  have HO3 := Lib.hid (show (w3.alloc (.cells #[.string s, .slice (some ⟨g, 0, none⟩) n cap] 31)).ownsRow w1.heap.size 54 3 (.slice (some ⟨g, 0, none⟩) n cap) n (i64s (flat (partR (thkR d) rs 0))) from by
    have := hown.alloc (.cells #[.string s, .slice (some ⟨g, 0, none⟩) n cap] 31)
    simpa [partR] using this)
  have HGW := Lib.hid (hown.lt g rfl).2
  have o0 : (w3.alloc (.cells #[.string s, .slice (some ⟨g, 0, none⟩) n cap] 31)).cell? ⟨w3.heap.size, 0, none⟩ = some (.string s) := by go_simp
  have o1 : (w3.alloc (.cells #[.string s, .slice (some ⟨g, 0, none⟩) n cap] 31)).cell? ⟨w3.heap.size, 1, none⟩ = some (.slice (some ⟨g, 0, none⟩) n cap) := by go_simp
  have HBL4 := Lib.hid (blankP_kept (below_al w3 (.cells #[.string s, .slice (some ⟨g, 0, none⟩) n cap] 31)) hl3 HBL3.out)
  have HB4 := Lib.hid (HB3.out.alloc HB3.out.size (.cells #[.string s, .slice (some ⟨g, 0, none⟩) n cap] 31))
  have hl4 := alloc_lt2 w3 (.cells #[.string s, .slice (some ⟨g, 0, none⟩) n cap] 31)
  clear hown hb q0 q1 qf
  go_wp2
  generalize (w3.alloc (.cells #[.string s, .slice (some ⟨g, 0, none⟩) n cap] 31)) = w4 at *
  have hge : g < w3.heap.size := HGW.out
  go_loopw [7] (fun i wr => ∃ k : Nat, k ≤ n ∧ i = .int .i64 k ∧ (wr.cell? ⟨w3.heap.size, 0, none⟩ = some (.string s) ∧ wr.cell? ⟨w3.heap.size, 1, none⟩ = some (.slice (some ⟨g, 0, none⟩) n cap)) ∧ Hid (wr.ownsRow w1.heap.size 54 3 (.slice (some ⟨g, 0, none⟩) n cap) n (i64s (flat (partR (thkR d) rs k)))) ∧ Hid (BlankP wr (w.heap.size + 1)) ∧ Hid (Below w.heap.size w wr) ∧ w3.heap.size < wr.heap.size) (fun i _ => n - (intOf i).toNat)
  case atStart => exact ⟨0, by omega, rfl, ⟨o0, o1⟩, HO3, HBL4, HB4, hl4⟩
  case round =>
    obtain ⟨k, hk, rfl, ⟨c0, c1⟩, HO, HBK, HBW, hsz⟩ := hrel
    clear o0 o1
    by_cases hlt : k < n
    · have hlr : k < rs.length := by rw [hn.out]; exact hlt
      have hrb := HVR.out k hlr
      have HPL := Lib.hid (partR_len (thkR d) rs k (by omega))
      have HPN := Lib.hid (partR_next (thkR d) rs k hlr)
      have hpg := partR_get (thkR d) rs k hlr
      have hri := own_in (by rw [HPL.out, hn.out]) HO.out k hlt
      have HST := Lib.hid (store1 HO.out k ((rs.getD k zR).1 + d) (by rw [HPL.out]; exact hlr))
      have HF := Lib.hid (HO.out.frozenAt (k * 3))
      rw [hpg] at hri HST
      have HEQ := Lib.hid (show thkR d (rs.getD k zR) = ((rs.getD k zR).1 + d, (rs.getD k zR).2) from rfl)
      have e0 := hri.c0
      have r0 := (ring_iff.1 hrb).1
      clear hri hpg hrb
      rw [HEQ.out] at HPN
      obtain ⟨x, hx⟩ : ∃ x, (rs.getD k zR).1 = x := ⟨_, rfl⟩
      rw [hx] at e0 r0 HST HPN
      clear hx
      have hw : IntKind.i64.wrap (x + d) = x + d := IntWalk.i64_in _ (by omega)
      have hkn : (k : Int) < (n : Int) := by omega
      have hk0 : (0 : Int) ≤ (k : Int) := by omega
      have ff := HF.out
      have ho := HO.out
      go_wp2
      go_roundw
      case rel => exact ⟨k + 1, by omega, by go_num, ⟨(World.cell?_setCell_far _ _ _ _ (by simp only; omega)).trans c0, (World.cell?_setCell_far _ _ _ _ (by simp only; omega)).trans c1⟩, Lib.hid (by rw [← HPN.out]; exact HST.out), Lib.hid (blankP_gb (gb_set _ _ (gb_refl wr (some g))) (by omega) (by simp; omega) HBK.out), Lib.hid (HBW.out.setCell (by show _ ≤ g; omega) _), by simpa using hsz⟩
      case measure => simp [intOf]; omega
    · obtain rfl : k = n := by omega
      have hall : partR (thkR d) rs k = rs.map (thkR d) := by rw [← hn.out]; exact partR_all _ _
      have HOF := Lib.hid (show wr.ownsRow w1.heap.size 54 3 (.slice (some ⟨g, 0, none⟩) k cap) k (i64s (flat (rs.map (thkR d)))) by rw [← hall]; exact HO.out)
      have HML := Lib.hid (show (rs.map (thkR d)).length = k by rw [List.length_map]; exact hn.out)
      have HRV := Lib.hid (show Rv wr w.heap.size (.slice (some ⟨g, 0, none⟩) k cap) (rs.map (thkR d)) from .inr ⟨g, cap, by rw [HML.out], by omega, by rw [HML.out]; exact row_baseR HOF.out (by omega)⟩)
      have HRI := Lib.hid (rv_rings (by rw [HML.out]; omega) HRV.out)
      generalize rs.map (thkR d) = l at *
      go_wp2_with fail
      refine (l07Done_any s _ l _ HRI.out hs).mono ?_
      rintro e w5 ⟨rfl, hb5⟩
      have HRV5 := Lib.hid (rv_kept hb5 HRV.out)
      have HB5 := Lib.hid (below_of HBW.out hb5 HBW.out.size)
      obtain ⟨⟨b0, b1⟩, f0, f1⟩ := blankP_kept hb5 (by omega) HBK.out
      clear hb5
      rcases Bool.eq_false_or_eq_true (profB s l) with hq | hq
      · have HC := Lib.hid (show resC s l = 0 by unfold resC; rw [if_pos hq])
        rw [hq, HC.out, show resS s 0 = s from rfl]
        clear hq
        skip
        go_wp2
        try simp only [Exit.inBlock, Exit.then]
        refine bodyPost_ret_by (v := .tuple #[.agg #[.string s, .slice (some ⟨g, 0, none⟩) k cap], .int .i64 0]) (by rw [results_cellP rfl]; go_simp) rfl ?_
        rw [HC.out]
        refine ⟨_, rfl, ?_, (HB5.out.setCell (by show _ ≤ w.heap.size + 1; omega) _).setCell (by show _ ≤ w.heap.size + 1; omega) _⟩
        obtain ⟨e', -⟩ | ⟨g', c', e', h1', h2'⟩ := HRV5.out
        · cases e'
        · refine rv_own (ownR_set2 (zs := l) ⟨g', c', e', h1', (h2'.lt g' rfl).2, by rw [e']; exact h2'⟩ (w.heap.size + 1) _ _ (fun q o n' c'' e'' => by simp only [Value.slice.injEq, Option.some.injEq, Addr.mk.injEq] at e''; omega))
      · have HC := Lib.hid (show resC s l = 6 by unfold resC; rw [hq]; rfl)
        rw [hq, HC.out, show resS s 6 = ⟨#[]⟩ from rfl]
        clear hq
        skip
        go_wp2
        try simp only [Exit.inBlock, Exit.then]
        refine bodyPost_ret_by (v := .tuple #[.agg #[.string ⟨#[]⟩, .slice none 0 0], .int .i64 6]) (by rw [results_cellP rfl]; go_simp) rfl ?_
        rw [HC.out]
        exact ⟨_, rfl, .inl ⟨rfl, rfl⟩, (HB5.out.setCell (by show _ ≤ w.heap.size + 1; omega) _).setCell (by show _ ≤ w.heap.size + 1; omega) _⟩
theorem specThk_any (s : ByteArray) (v : Value) (rs : List Rg) (d : Int) (w : World) (h : RingsAt w v rs) (hs : s.size ≤ maxLen) :
    Calls Try.prog 23 #[.agg #[.string s, v], .int .i64 d] w (ProfU (resS s (thkC s rs d)) (resL (rs.map (thkR d)) (thkC s rs d)) (thkC s rs d) w) := by
  have HI := Lib.hid h
  obtain ⟨a, c, rfl⟩ := rings_form h
  rcases Bool.eq_false_or_eq_true (profB s rs) with hp | hp
  · obtain ⟨-, ⟨n1, n2⟩, -, -⟩ := prof_iff.1 hp
    rcases Bool.eq_false_or_eq_true (inB d (-150000) 150000) with hq | hq
    · rw [thkC_3 hp hq]
      exact specThk_main s a rs.length c rs d w (Lib.hid rfl) n1 n2 HI hs (Lib.hid hp) (Lib.hid hq)
    · rw [thkC_2 hp hq]
      exact specThk_range s a rs.length c rs d w (Lib.hid rfl) HI hs (Lib.hid hp) (Lib.hid hq)
  · rw [thkC_1 hp]
    exact specThk_bad s a rs.length c rs d w (Lib.hid rfl) HI hs (Lib.hid hp)
end Go.Proofs.Ytgnnpimfcbkloab
