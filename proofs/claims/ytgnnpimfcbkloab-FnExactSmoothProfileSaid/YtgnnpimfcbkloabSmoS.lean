/- A smoothed profile: the reference model's walk. -/
import Derived.Test.YtgnnpimfcbkloabThkS
import Derived.Test.YtgnnpimfcbkloabDiv
import Derived.Deep.RegionHeld3
import Derived.BigRegion
set_option linter.unusedVariables false
namespace Go.Proofs.Ytgnnpimfcbkloab
open Go.ChangeShapes Go.WideShapes Go.ChangeAt Go.RowKit

def meanV (a b c : Int) : Int := nq (a + 2 * b + c) 4
def smoR (rs : List Rg) (j : Nat) : Rg := (meanV (rs.getD (j - 1) zR).1 (rs.getD j zR).1 (rs.getD (j + 1) zR).1, meanV (rs.getD (j - 1) zR).2.1 (rs.getD j zR).2.1 (rs.getD (j + 1) zR).2.1, (rs.getD j zR).2.2)
/-- The rings when those before i are smoothed. -/
def smoK (rs : List Rg) (i : Nat) : List Rg := (List.range rs.length).map fun j => if 1 ≤ j ∧ j < i then smoR rs j else rs.getD j zR
def smoL (rs : List Rg) : List Rg := smoK rs (rs.length - 1)
theorem smoK_len (rs : List Rg) (i : Nat) : (smoK rs i).length = rs.length := by simp [smoK]
theorem smoK_one (rs : List Rg) : smoK rs 1 = rs := by
  apply List.ext_getElem
  · simp [smoK]
  · intro i h1 h2
    simp [smoK, List.getD, h2]
    omega
theorem smoK_get (rs : List Rg) (i : Nat) (h : i < rs.length) : (smoK rs i).getD i zR = rs.getD i zR := by
  simp [smoK, List.getD, h]
theorem smoK_next (rs : List Rg) (i : Nat) (h0 : 1 ≤ i) (h : i < rs.length) : (smoK rs i).set i (smoR rs i) = smoK rs (i + 1) := by
  apply List.ext_getElem
  · simp [smoK]
  · intro j h1 h2
    rw [List.getElem_set]
    by_cases e : i = j
    · subst e
      rw [if_pos rfl]
      simp [smoK, h0]
    · rw [if_neg e]
      simp only [smoK, List.getElem_map, List.getElem_range]
      by_cases hj : 1 ≤ j ∧ j < i
      · rw [if_pos hj, if_pos (by omega)]
      · rw [if_neg hj, if_neg (by omega)]
theorem smoK_end (rs : List Rg) (i : Nat) (h0 : 1 ≤ i) (h1 : i ≤ max 1 (rs.length - 1)) (h : ¬ i + 1 < rs.length) : smoK rs i = smoL rs := by
  unfold smoL
  by_cases e : i = rs.length - 1
  · rw [e]
  · have h2 : i = 1 := by omega
    have h3 : rs.length - 1 = 0 := by omega
    rw [h2, smoK_one, h3]
    apply List.ext_getElem
    · simp [smoK]
    · intro j q1 q2
      simp [smoK, List.getD, q1]
theorem smoL_len (rs : List Rg) : (smoL rs).length = rs.length := smoK_len _ _
def smoC (s : ByteArray) (rs : List Rg) : Int := if profB s rs = true then resC s (smoL rs) else 1
theorem smoC_1 {s : ByteArray} {rs : List Rg} (h : profB s rs = false) : smoC s rs = 1 := by unfold smoC; rw [h]; rfl
theorem smoC_3 {s : ByteArray} {rs : List Rg} (h : profB s rs = true) : smoC s rs = resC s (smoL rs) := by unfold smoC; rw [if_pos h]
theorem smo_len (s : ByteArray) (rs : List Rg) : (resL (smoL rs) (smoC s rs)).length ≤ 64 := by
  rcases Bool.eq_false_or_eq_true (profB s rs) with h | h
  · have h2 := (prof_iff.1 h).2.1.2
    unfold resL
    split
    · rw [smoL_len]; omega
    · simp
  · rw [smoC_1 h]; simp [resL]
theorem flat_set2 (rs : List Rg) (j : Nat) (v u : Int) (h : j < rs.length) : ((flat rs).set (j * 3) v).set (j * 3 + 1) u = flat (rs.set j (v, u, (rs.getD j zR).2.2)) := by
  induction rs generalizing j with
  | nil => simp at h
  | cons r rs ih =>
    match j with
    | 0 => simp [flat]
    | j + 1 =>
      have := ih j (by simpa using h)
      rw [show (j + 1) * 3 = j * 3 + 1 + 1 + 1 by omega]
      simp [flat, this]
theorem store2 {w : World} {B g n cap : Nat} {rs : List Rg} (h : w.ownsRow B 54 3 (.slice (some ⟨g, 0, none⟩) n cap) n (i64s (flat rs))) (j : Nat) (v u : Int) (hj : j < rs.length) :
    ((w.setCell ⟨g, j * 3, none⟩ (.int .i64 v)).setCell ⟨g, j * 3 + 1, none⟩ (.int .i64 u)).ownsRow B 54 3 (.slice (some ⟨g, 0, none⟩) n cap) n (i64s (flat (rs.set j (v, u, (rs.getD j zR).2.2)))) := by
  have h1 := (h.stored (j * 3) (.int .i64 v)).1
  have h2 := (h1.stored (j * 3 + 1) (.int .i64 u)).1
  rw [i64s_set, i64s_set, flat_set2 rs j v u hj] at h2
  exact h2
theorem l07Mean_any (a b c : Int) (w : World) (ha : 0 ≤ a ∧ a ≤ 150000) (hb : 0 ≤ b ∧ b ≤ 150000) (hc : 0 ≤ c ∧ c ≤ 150000) :
    Calls Try.prog 89 #[.int .i64 a, .int .i64 b, .int .i64 c] w fun e w' => e = .returned (.int .i64 (meanV a b c)) ∧ w = w' := by
  have HM := Lib.hid (show meanV a b c = nq (a + 2 * b + c) 4 from rfl)
  go_enter Try.func89, Try.ntmps89
  go_wp2_with (go_at_call 62; refine (specDiv_any (a + 2 * b + c) 4 _ (by omega) (by omega) (by omega)).mono ?_; rintro e w' ⟨rfl, rfl⟩)
  go_ret
  exact ⟨ret_i64 HM.out.symm, rfl⟩
theorem k4s {W : World} {o h1 h2 h3 f : Nat} {v x y z : Value} (hS : W.cell? ⟨o, 1, none⟩ = some v ∧ W.cell? ⟨h1, f, none⟩ = some x ∧ W.cell? ⟨h2, f, none⟩ = some y ∧ W.cell? ⟨h3, f, none⟩ = some z) (p : Addr) (u : Value) (n0 : p.block ≠ o) (n1 : p.block ≠ h1) (n2 : p.block ≠ h2) (n3 : p.block ≠ h3) :
    (W.setCell p u).cell? ⟨o, 1, none⟩ = some v ∧ (W.setCell p u).cell? ⟨h1, f, none⟩ = some x ∧ (W.setCell p u).cell? ⟨h2, f, none⟩ = some y ∧ (W.setCell p u).cell? ⟨h3, f, none⟩ = some z :=
  ⟨(World.cell?_setCell_far _ _ _ _ n0).trans hS.1, (World.cell?_setCell_far _ _ _ _ n1).trans hS.2.1, (World.cell?_setCell_far _ _ _ _ n2).trans hS.2.2.1, (World.cell?_setCell_far _ _ _ _ n3).trans hS.2.2.2⟩
set_option maxRecDepth 20000 in
set_option maxHeartbeats 4000000 in
theorem specSmo_bad (s : ByteArray) (a : Option Addr) (n c : Nat) (rs : List Rg) (w : World) (hn : Hid (rs.length = n)) (HI : Hid (RingsAt w (.slice a n c) rs)) (hs : s.size ≤ maxLen) (HP : Hid (profB s rs = false)) :
    Calls Try.prog 30 #[.agg #[.string s, .slice a n c]] w (ProfU ⟨#[]⟩ [] 1 w) := by
  have hBA := ((Below.refl w.heap.size w).alloc (Nat.le_refl _) (.cells #[.string s, .slice a n c] 31)).alloc (by simp) (.cells #[.string ⟨#[]⟩, .slice none 0 0] 31)
  have z0 : ((w.alloc (.cells #[.string s, .slice a n c] 31)).alloc (.cells #[.string ⟨#[]⟩, .slice none 0 0] 31)).cell? ⟨w.heap.size, 0, none⟩ = some (.string s) := by go_simp
  have z1 : ((w.alloc (.cells #[.string s, .slice a n c] 31)).alloc (.cells #[.string ⟨#[]⟩, .slice none 0 0] 31)).cell? ⟨w.heap.size, 1, none⟩ = some (.slice a n c) := by go_simp
  have zf : ((w.alloc (.cells #[.string s, .slice a n c] 31)).alloc (.cells #[.string ⟨#[]⟩, .slice none 0 0] 31)).frozen? ⟨w.heap.size, 0, none⟩ = false := by go_simp
  have hbl : BlankP ((w.alloc (.cells #[.string s, .slice a n c] 31)).alloc (.cells #[.string ⟨#[]⟩, .slice none 0 0] 31)) (w.heap.size + 1) := ⟨⟨by go_simp, by go_simp⟩, by go_simp, by go_simp⟩
  have hl1 : w.heap.size + 1 < ((w.alloc (.cells #[.string s, .slice a n c] 31)).alloc (.cells #[.string ⟨#[]⟩, .slice none 0 0] 31)).heap.size := by simp
  have HBA := Lib.hid hBA
  have HIA := Lib.hid (rings_kept hBA HI.out)
  go_enter Try.func30, Try.ntmps30
  go_wp2_with fail
  clear hBA
  generalize ((w.alloc (.cells #[.string s, .slice a n c] 31)).alloc (.cells #[.string ⟨#[]⟩, .slice none 0 0] 31)) = wA at *
  refine (l05Ok_any _ s _ rs _ ⟨z0, z1⟩ HIA.out hs).mono ?_
  rintro e w1 ⟨rfl, hb⟩
  rw [HP.out]
  have q0 := (below_cell hb _ _ (by omega)).trans z0
  have q1 := (below_cell hb _ _ (by omega)).trans z1
  have qf := (below_frozen hb w.heap.size 0 (by omega)).trans zf
  have HBL := Lib.hid (blankP_kept hb hl1 hbl)
  have hl2 := Nat.lt_of_lt_of_le hl1 hb.size
  have HI1 := Lib.hid (rings_kept hb HIA.out)
  have HB := Lib.hid (below_of HBA.out hb HBA.out.size)
  clear hb hbl z0 z1 zf
  obtain ⟨⟨b0, b1⟩, f0, f1⟩ := HBL.out
  go_wp2
  try simp only [Exit.inBlock, Exit.then]
  refine bodyPost_ret_by (v := .tuple #[.agg #[.string ⟨#[]⟩, .slice none 0 0], .int .i64 1]) (by rw [results_cellP rfl]; go_simp) rfl ?_
  refine ⟨_, rfl, .inl ⟨rfl, rfl⟩, ?_⟩
  exact (HB.out.setCell (by show _ ≤ w.heap.size + 1; omega) _).setCell (by show _ ≤ w.heap.size + 1; omega) _
set_option maxRecDepth 20000 in
set_option maxHeartbeats 4000000 in
theorem specSmo_main (s : ByteArray) (a : Option Addr) (n c : Nat) (rs : List Rg) (w : World) (hn : Hid (rs.length = n)) (h1 : 1 ≤ n) (h32 : n ≤ 32) (HI : Hid (RingsAt w (.slice a n c) rs)) (hs : s.size ≤ maxLen) (HP : Hid (profB s rs = true)) :
    Calls Try.prog 30 #[.agg #[.string s, .slice a n c]] w (ProfU (resS s (resC s (smoL rs))) (resL (smoL rs) (resC s (smoL rs))) (resC s (smoL rs)) w) := by
  have hBA := ((Below.refl w.heap.size w).alloc (Nat.le_refl _) (.cells #[.string s, .slice a n c] 31)).alloc (by simp) (.cells #[.string ⟨#[]⟩, .slice none 0 0] 31)
  have z0 : ((w.alloc (.cells #[.string s, .slice a n c] 31)).alloc (.cells #[.string ⟨#[]⟩, .slice none 0 0] 31)).cell? ⟨w.heap.size, 0, none⟩ = some (.string s) := by go_simp
  have z1 : ((w.alloc (.cells #[.string s, .slice a n c] 31)).alloc (.cells #[.string ⟨#[]⟩, .slice none 0 0] 31)).cell? ⟨w.heap.size, 1, none⟩ = some (.slice a n c) := by go_simp
  have zf : ((w.alloc (.cells #[.string s, .slice a n c] 31)).alloc (.cells #[.string ⟨#[]⟩, .slice none 0 0] 31)).frozen? ⟨w.heap.size, 0, none⟩ = false := by go_simp
  have hbl : BlankP ((w.alloc (.cells #[.string s, .slice a n c] 31)).alloc (.cells #[.string ⟨#[]⟩, .slice none 0 0] 31)) (w.heap.size + 1) := ⟨⟨by go_simp, by go_simp⟩, by go_simp, by go_simp⟩
  have hl1 : w.heap.size + 1 < ((w.alloc (.cells #[.string s, .slice a n c] 31)).alloc (.cells #[.string ⟨#[]⟩, .slice none 0 0] 31)).heap.size := by simp
  have HBA := Lib.hid hBA
  have HIA := Lib.hid (rings_kept hBA HI.out)
  go_enter Try.func30, Try.ntmps30
  go_wp2_with fail
  clear hBA
  generalize ((w.alloc (.cells #[.string s, .slice a n c] 31)).alloc (.cells #[.string ⟨#[]⟩, .slice none 0 0] 31)) = wA at *
  refine (l05Ok_any _ s _ rs _ ⟨z0, z1⟩ HIA.out hs).mono ?_
  rintro e w1 ⟨rfl, hb⟩
  rw [HP.out]
  have q0 := (below_cell hb _ _ (by omega)).trans z0
  have q1 := (below_cell hb _ _ (by omega)).trans z1
  have qf := (below_frozen hb w.heap.size 0 (by omega)).trans zf
  have HBL := Lib.hid (blankP_kept hb hl1 hbl)
  have hl2 := Nat.lt_of_lt_of_le hl1 hb.size
  have HI1 := Lib.hid (rings_kept hb HIA.out)
  have HB := Lib.hid (below_of HBA.out hb HBA.out.size)
  clear hb hbl z0 z1 zf
  obtain ⟨b, off, rfl, hbl, hsrc⟩ := src_lie hn.out h1 HI1.out
  have HCS := Lib.hid (fun i (hi : i < n) => (show RingIn w1 b (off + i * 3) (rs.getD i zR) from by have := ring_in (w := w1) (b := b) (off := off) (rs := rs) (fun j hj => hsrc j (by rw [← hn.out]; exact hj)) i (by rw [hn.out]; exact hi); exact this))
  have hq1 := q1
  have HOW := Lib.hid (l05Own_any w.heap.size b off n c s rs _ hn.out h1 h32 (by omega) hbl ⟨q0, q1⟩ hsrc)
  clear hsrc
  go_wp2_with fail
  refine HOW.out.mono ?_
  rintro e w3 ⟨g, cap, rfl, hg, hown, hb⟩
  have HBL3 := Lib.hid (blankP_kept hb hl2 HBL.out)
  have hl3 := Nat.lt_of_lt_of_le hl2 hb.size
  have HB3 := Lib.hid (below_of HB.out hb HB.out.size)
  have hw1 : w.heap.size + 2 ≤ w1.heap.size := hl2
  have HVR := Lib.hid (fun i hi => prof_ring HP.out i hi)
  have hg2 : w.heap.size + 2 ≤ g := by omega
  have HO3 := Lib.hid (show (w3.alloc (.cells #[.string s, .slice (some ⟨g, 0, none⟩) n cap] 31)).ownsRow w1.heap.size 54 3 (.slice (some ⟨g, 0, none⟩) n cap) n (i64s (flat (smoK rs 1))) from by
    have := hown.alloc (.cells #[.string s, .slice (some ⟨g, 0, none⟩) n cap] 31)
    rw [smoK_one]; exact this)
  have HGW := Lib.hid (hown.lt g rfl).2
  have o0 : (w3.alloc (.cells #[.string s, .slice (some ⟨g, 0, none⟩) n cap] 31)).cell? ⟨w3.heap.size, 0, none⟩ = some (.string s) := by go_simp
  have o1 : (w3.alloc (.cells #[.string s, .slice (some ⟨g, 0, none⟩) n cap] 31)).cell? ⟨w3.heap.size, 1, none⟩ = some (.slice (some ⟨g, 0, none⟩) n cap) := by go_simp
  have HBL4 := Lib.hid (blankP_kept (below_al w3 (.cells #[.string s, .slice (some ⟨g, 0, none⟩) n cap] 31)) hl3 HBL3.out)
  have HB4 := Lib.hid (HB3.out.alloc HB3.out.size (.cells #[.string s, .slice (some ⟨g, 0, none⟩) n cap] 31))
  have hl4 := alloc_lt2 w3 (.cells #[.string s, .slice (some ⟨g, 0, none⟩) n cap] 31)
  have HB14 := Lib.hid (below_of hb (below_al w3 (.cells #[.string s, .slice (some ⟨g, 0, none⟩) n cap] 31)) hb.size)
  clear hown hb q0 q1 qf
  have v1 := (below_cell HB14.out _ _ (show w.heap.size < w1.heap.size by omega)).trans hq1
  go_wp2
  generalize (w3.alloc (.cells #[.string s, .slice (some ⟨g, 0, none⟩) n cap] 31)) = w4 at *
  have hge : g < w3.heap.size := HGW.out
  clear v1
  go_loopw [5] (fun i wr => ∃ k : Nat, k + 1 ≤ max 1 (n - 1) ∧ i = .int .i64 ((k : Int) + 1) ∧ (wr.cell? ⟨w3.heap.size, 0, none⟩ = some (.string s) ∧ wr.cell? ⟨w3.heap.size, 1, none⟩ = some (.slice (some ⟨g, 0, none⟩) n cap)) ∧ Hid (wr.ownsRow w1.heap.size 54 3 (.slice (some ⟨g, 0, none⟩) n cap) n (i64s (flat (smoK rs (k + 1))))) ∧ Hid (BlankP wr (w.heap.size + 1)) ∧ Hid (Below w.heap.size w wr) ∧ Hid (Below w1.heap.size w1 wr) ∧ w3.heap.size < wr.heap.size) (fun i _ => n - (intOf i).toNat)
  case atStart => exact ⟨0, by omega, rfl, ⟨o0, o1⟩, HO3, HBL4, HB4, HB14, hl4⟩
  case round =>
    obtain ⟨k, hk, rfl, ⟨c0, c1⟩, HO, HBK, HBW, HBV, hsz⟩ := hrel
    clear o0 o1
    have p1 := (below_cell HBV.out _ _ (show w.heap.size < w1.heap.size by omega)).trans hq1
    have hw2 : IntKind.i64.wrap ((k : Int) + 1 + 1) = (k : Int) + 1 + 1 := IntWalk.i64_in _ (by omega)
    by_cases hlt : k + 1 + 1 < n
    · have e0 := HCS.out k (by omega)
      have e1 := HCS.out (k + 1) (by omega)
      have e2 := HCS.out (k + 1 + 1) hlt
      have rb0 := HVR.out k (by rw [hn.out]; omega)
      have rb1 := HVR.out (k + 1) (by rw [hn.out]; omega)
      have rb2 := HVR.out (k + 1 + 1) (by rw [hn.out]; exact hlt)
      have HSR := Lib.hid (show smoR rs (k + 1) = (meanV (rs.getD k zR).1 (rs.getD (k + 1) zR).1 (rs.getD (k + 1 + 1) zR).1, meanV (rs.getD k zR).2.1 (rs.getD (k + 1) zR).2.1 (rs.getD (k + 1 + 1) zR).2.1, (rs.getD (k + 1) zR).2.2) from rfl)
      have HNX := Lib.hid (smoK_next rs (k + 1) (by omega) (by rw [hn.out]; omega))
      have HGT := Lib.hid (smoK_get rs (k + 1) (by rw [hn.out]; omega))
      have HKL := Lib.hid (show (smoK rs (k + 1)).length = n by rw [smoK_len, hn.out])
      have hri := own_in HKL.out HO.out (k + 1) (by omega)
      obtain ⟨⟨x0, x1, x2⟩, hx⟩ : ∃ r, rs.getD k zR = r := ⟨_, rfl⟩
      obtain ⟨⟨y0, y1, y2⟩, hy⟩ : ∃ r, rs.getD (k + 1) zR = r := ⟨_, rfl⟩
      obtain ⟨⟨z0, z1, z2⟩, hz⟩ : ∃ r, rs.getD (k + 1 + 1) zR = r := ⟨_, rfl⟩
      rw [hx, hy, hz] at HSR
      rw [hx] at e0 rb0
      rw [hy] at e1 rb1 HGT
      rw [hz] at e2 rb2
      have HST := Lib.hid (fun (W : World) (h : W.ownsRow w1.heap.size 54 3 (.slice (some ⟨g, 0, none⟩) n cap) n (i64s (flat (smoK rs (k + 1))))) => store2 h (k + 1) (meanV x0 y0 z0) (meanV x1 y1 z1) (by rw [HKL.out]; omega))
      rw [HGT.out] at HST hri
      clear hx hy hz
      have rx := ring_iff.1 rb0
      have ry := ring_iff.1 rb1
      have rz := ring_iff.1 rb2
      simp only at rx ry rz
      have HM1 := Lib.hid (fun w => l07Mean_any x0 y0 z0 w (by omega) (by omega) (by omega))
      have HM2 := Lib.hid (fun w => l07Mean_any x1 y1 z1 w (by omega) (by omega) (by omega))
      generalize meanV x0 y0 z0 = m1 at *
      generalize meanV x1 y1 z1 = m2 at *
      have a0 : wr.cell? ⟨b, off + k * 3, none⟩ = some (.int .i64 x0) := (below_cell HBV.out _ _ hbl).trans e0.c0
      have a1 : wr.cell? ⟨b, off + k * 3 + 1, none⟩ = some (.int .i64 x1) := (below_cell HBV.out _ _ hbl).trans e0.c1
      have a2 : wr.cell? ⟨b, off + k * 3 + 2, none⟩ = some (.int .i64 x2) := (below_cell HBV.out _ _ hbl).trans e0.c2
      have b0 : wr.cell? ⟨b, off + (k + 1) * 3, none⟩ = some (.int .i64 y0) := (below_cell HBV.out _ _ hbl).trans e1.c0
      have b1 : wr.cell? ⟨b, off + (k + 1) * 3 + 1, none⟩ = some (.int .i64 y1) := (below_cell HBV.out _ _ hbl).trans e1.c1
      have b2 : wr.cell? ⟨b, off + (k + 1) * 3 + 2, none⟩ = some (.int .i64 y2) := (below_cell HBV.out _ _ hbl).trans e1.c2
      have d0 : wr.cell? ⟨b, off + (k + 1 + 1) * 3, none⟩ = some (.int .i64 z0) := (below_cell HBV.out _ _ hbl).trans e2.c0
      have d1 : wr.cell? ⟨b, off + (k + 1 + 1) * 3 + 1, none⟩ = some (.int .i64 z1) := (below_cell HBV.out _ _ hbl).trans e2.c1
      have d2 : wr.cell? ⟨b, off + (k + 1 + 1) * 3 + 2, none⟩ = some (.int .i64 z2) := (below_cell HBV.out _ _ hbl).trans e2.c2
      clear e0 e1 e2 rb0 rb1 rb2 rx ry rz
      have hk1 : (k : Int) + 1 + 1 < (n : Int) := by omega
      have hk2 : (k : Int) + 1 < (n : Int) := by omega
      have hk3 : (k : Int) < (n : Int) := by omega
      have hk4 : (0 : Int) ≤ (k : Int) + 1 := by omega
      have hk5 : (0 : Int) ≤ (k : Int) + 1 + 1 := by omega
      have hk6 : (0 : Int) ≤ (k : Int) := by omega
      have t1 : ((k : Int) + 1).toNat = k + 1 := by omega
      have t2 : ((k : Int) + 1 + 1).toNat = k + 1 + 1 := by omega
      have hsub : (k : Int) + 1 - 1 = (k : Int) := by omega
      have hsv := HBV.out.size
      have hgw : g < wr.heap.size := by omega
      have hA0 : w.heap.size < wr.heap.size := by omega
      have hA1 : w.heap.size < wr.heap.size + 1 := by omega
      have hA1' : w.heap.size ≤ wr.heap.size := by omega
      have hA2 : w.heap.size < wr.heap.size + 1 + 1 := by omega
      have hA2' : w.heap.size ≤ wr.heap.size + 1 := by omega
      have hB0 : b < wr.heap.size := by omega
      have hB1 : b < wr.heap.size + 1 := by omega
      have hB1' : b ≤ wr.heap.size := by omega
      have hB2 : b < wr.heap.size + 1 + 1 := by omega
      have hB2' : b ≤ wr.heap.size + 1 := by omega
      have HAL := Lib.hid (fun (W : World) (o : Obj) => below_al W o)
      have HBB := Lib.hid (((below_al wr (.cells #[.int .i64 x0, .int .i64 x1, .int .i64 x2] 54)).trans ((below_al (wr.alloc (.cells #[.int .i64 x0, .int .i64 x1, .int .i64 x2] 54)) (.cells #[.int .i64 y0, .int .i64 y1, .int .i64 y2] 54)).mono (by simp))).trans ((below_al ((wr.alloc (.cells #[.int .i64 x0, .int .i64 x1, .int .i64 x2] 54)).alloc (.cells #[.int .i64 y0, .int .i64 y1, .int .i64 y2] 54)) (.cells #[.int .i64 z0, .int .i64 z1, .int .i64 z2] 54)).mono (by simp; omega)))
      have HOB := Lib.hid (((HO.out.alloc (.cells #[.int .i64 x0, .int .i64 x1, .int .i64 x2] 54)).alloc (.cells #[.int .i64 y0, .int .i64 y1, .int .i64 y2] 54)).alloc (.cells #[.int .i64 z0, .int .i64 z1, .int .i64 z2] 54))
      have s1 : (((wr.alloc (.cells #[.int .i64 x0, .int .i64 x1, .int .i64 x2] 54)).alloc (.cells #[.int .i64 y0, .int .i64 y1, .int .i64 y2] 54)).alloc (.cells #[.int .i64 z0, .int .i64 z1, .int .i64 z2] 54)).cell? ⟨wr.heap.size, 0, none⟩ = some (.int .i64 x0) := by go_simp
      have s1' : (((wr.alloc (.cells #[.int .i64 x0, .int .i64 x1, .int .i64 x2] 54)).alloc (.cells #[.int .i64 y0, .int .i64 y1, .int .i64 y2] 54)).alloc (.cells #[.int .i64 z0, .int .i64 z1, .int .i64 z2] 54)).cell? ⟨wr.heap.size, 1, none⟩ = some (.int .i64 x1) := by go_simp
      have s2 : (((wr.alloc (.cells #[.int .i64 x0, .int .i64 x1, .int .i64 x2] 54)).alloc (.cells #[.int .i64 y0, .int .i64 y1, .int .i64 y2] 54)).alloc (.cells #[.int .i64 z0, .int .i64 z1, .int .i64 z2] 54)).cell? ⟨wr.heap.size + 1, 0, none⟩ = some (.int .i64 y0) := by go_simp
      have s2' : (((wr.alloc (.cells #[.int .i64 x0, .int .i64 x1, .int .i64 x2] 54)).alloc (.cells #[.int .i64 y0, .int .i64 y1, .int .i64 y2] 54)).alloc (.cells #[.int .i64 z0, .int .i64 z1, .int .i64 z2] 54)).cell? ⟨wr.heap.size + 1, 1, none⟩ = some (.int .i64 y1) := by go_simp
      have s3 : (((wr.alloc (.cells #[.int .i64 x0, .int .i64 x1, .int .i64 x2] 54)).alloc (.cells #[.int .i64 y0, .int .i64 y1, .int .i64 y2] 54)).alloc (.cells #[.int .i64 z0, .int .i64 z1, .int .i64 z2] 54)).cell? ⟨wr.heap.size + 1 + 1, 0, none⟩ = some (.int .i64 z0) := by go_simp
      have s3' : (((wr.alloc (.cells #[.int .i64 x0, .int .i64 x1, .int .i64 x2] 54)).alloc (.cells #[.int .i64 y0, .int .i64 y1, .int .i64 y2] 54)).alloc (.cells #[.int .i64 z0, .int .i64 z1, .int .i64 z2] 54)).cell? ⟨wr.heap.size + 1 + 1, 1, none⟩ = some (.int .i64 z1) := by go_simp
      have hq2 : wr.heap.size + 1 + 1 < (((wr.alloc (.cells #[.int .i64 x0, .int .i64 x1, .int .i64 x2] 54)).alloc (.cells #[.int .i64 y0, .int .i64 y1, .int .i64 y2] 54)).alloc (.cells #[.int .i64 z0, .int .i64 z1, .int .i64 z2] 54)).heap.size := by simp
      go_wp2
      generalize (((wr.alloc (.cells #[.int .i64 x0, .int .i64 x1, .int .i64 x2] 54)).alloc (.cells #[.int .i64 y0, .int .i64 y1, .int .i64 y2] 54)).alloc (.cells #[.int .i64 z0, .int .i64 z1, .int .i64 z2] 54)) = wB at *
      have hri := own_in HKL.out HOB.out (k + 1) (by omega)
      rw [HGT.out] at hri
      have g0 := hri.c0
      have g1 := hri.c1
      have F0 := Lib.hid (HOB.out.frozenAt ((k + 1) * 3))
      have F1 := Lib.hid (HOB.out.frozenAt ((k + 1) * 3 + 1))
      have f0 := F0.out
      have f1 := F1.out
      have cB := (below_cell HBB.out _ _ hsz).trans c1
      have hg3 : g ≠ w3.heap.size := by omega
      have hg4 : g ≠ wr.heap.size := by omega
      have hg5 : g ≠ wr.heap.size + 1 := by omega
      have hg6 : g ≠ wr.heap.size + 1 + 1 := by omega
      clear hri
      go_region_held3 (fun w' => w'.cell? ⟨w3.heap.size, 1, none⟩ = some (.slice (some ⟨g, 0, none⟩) n cap) ∧ w'.cell? ⟨wr.heap.size, 0, none⟩ = some (.int .i64 x0) ∧ w'.cell? ⟨wr.heap.size + 1, 0, none⟩ = some (.int .i64 y0) ∧ w'.cell? ⟨wr.heap.size + 1 + 1, 0, none⟩ = some (.int .i64 z0))
        (first | exact ⟨cB, s1, s2, s3⟩ | exact k4s (by assumption) _ _ hg3 hg4 hg5 hg6 | assumption)
        ((go_at_call 89; refine (HM1.out _).mono ?_; rintro e w' ⟨rfl, rfl⟩))
      have G4 := k4s ⟨cB, s1', s2', s3'⟩ ⟨g, (k + 1) * 3, none⟩ (.int .i64 m1) hg3 hg4 hg5 hg6
      have g2 : (wB.setCell ⟨g, (k + 1) * 3, none⟩ (.int .i64 m1)).cell? ⟨g, (k + 1) * 3 + 1, none⟩ = some (.int .i64 y1) := by go_simp
      have F2 := Lib.hid ((HOB.out.stored ((k + 1) * 3) (.int .i64 m1)).1.frozenAt ((k + 1) * 3 + 1))
      have f2 := F2.out
      have HFIN := Lib.hid (HST.out wB HOB.out)
      have HBKB := Lib.hid (blankP_kept HBB.out (by omega) HBK.out)
      have hzB : wr.heap.size < wB.heap.size := by omega
      have HBKC := Lib.hid (show BlankP ((wB.setCell ⟨g, (k + 1) * 3, none⟩ (.int .i64 m1)).setCell ⟨g, (k + 1) * 3 + 1, none⟩ (.int .i64 m2)) (w.heap.size + 1) from blankP_gb (gb_set _ _ (gb_set _ _ (gb_refl wB (some g)))) (by omega) (by simp; omega) HBKB.out)
      have HBWC := Lib.hid (show Below w.heap.size w ((wB.setCell ⟨g, (k + 1) * 3, none⟩ (.int .i64 m1)).setCell ⟨g, (k + 1) * 3 + 1, none⟩ (.int .i64 m2)) from ((below_of HBW.out HBB.out HBW.out.size).setCell (by show _ ≤ g; omega) _).setCell (by show _ ≤ g; omega) _)
      have HBVC := Lib.hid (show Below w1.heap.size w1 ((wB.setCell ⟨g, (k + 1) * 3, none⟩ (.int .i64 m1)).setCell ⟨g, (k + 1) * 3 + 1, none⟩ (.int .i64 m2)) from ((below_of HBV.out HBB.out HBV.out.size).setCell (by show _ ≤ g; omega) _).setCell (by show _ ≤ g; omega) _)
      have E0 := Lib.hid (show ((wB.setCell ⟨g, (k + 1) * 3, none⟩ (.int .i64 m1)).setCell ⟨g, (k + 1) * 3 + 1, none⟩ (.int .i64 m2)).cell? ⟨w3.heap.size, 0, none⟩ = some (.string s) from ((World.cell?_setCell_far _ _ _ _ hg3).trans (World.cell?_setCell_far _ _ _ _ hg3)).trans ((below_cell HBB.out _ _ hsz).trans c0))
      have E1 := Lib.hid (show ((wB.setCell ⟨g, (k + 1) * 3, none⟩ (.int .i64 m1)).setCell ⟨g, (k + 1) * 3 + 1, none⟩ (.int .i64 m2)).cell? ⟨w3.heap.size, 1, none⟩ = some (.slice (some ⟨g, 0, none⟩) n cap) from ((World.cell?_setCell_far _ _ _ _ hg3).trans (World.cell?_setCell_far _ _ _ _ hg3)).trans cB)
      have HSZ := Lib.hid (show w3.heap.size < ((wB.setCell ⟨g, (k + 1) * 3, none⟩ (.int .i64 m1)).setCell ⟨g, (k + 1) * 3 + 1, none⟩ (.int .i64 m2)).heap.size by simp; omega)
      clear g0 g1 f0 f1 F0 F1 cB s1 s2 s3 s1' s2' s3' HOB HBB HBKB HST
      generalize wB.setCell ⟨g, (k + 1) * 3, none⟩ (.int .i64 m1) = wC at *
      obtain ⟨cC, v1, v2, v3⟩ := G4
      go_wp2
      go_region_held3 (fun w' => w'.cell? ⟨w3.heap.size, 1, none⟩ = some (.slice (some ⟨g, 0, none⟩) n cap) ∧ w'.cell? ⟨wr.heap.size, 1, none⟩ = some (.int .i64 x1) ∧ w'.cell? ⟨wr.heap.size + 1, 1, none⟩ = some (.int .i64 y1) ∧ w'.cell? ⟨wr.heap.size + 1 + 1, 1, none⟩ = some (.int .i64 z1))
        (first | exact ⟨cC, v1, v2, v3⟩ | exact k4s (by assumption) _ _ hg3 hg4 hg5 hg6 | assumption)
        ((go_at_call 89; refine (HM2.out _).mono ?_; rintro e w' ⟨rfl, rfl⟩))
      go_wp2
      go_roundw
      case rel => exact ⟨k + 1, by omega, by go_num, ⟨E0.out, E1.out⟩, Lib.hid (by rw [← HNX.out, HSR.out]; exact HFIN.out), Lib.hid HBKC.out, Lib.hid ⟨HBWC.out.os, HBWC.out.tape, HBWC.out.output, HBWC.out.size, HBWC.out.block⟩, Lib.hid ⟨HBVC.out.os, HBVC.out.tape, HBVC.out.output, HBVC.out.size, HBVC.out.block⟩, HSZ.out⟩
      case measure => simp [intOf]; omega
    · have hall : smoK rs (k + 1) = smoL rs := smoK_end rs (k + 1) (by omega) (by rw [hn.out]; exact hk) (by rw [hn.out]; exact hlt)
      have HOF := Lib.hid (show wr.ownsRow w1.heap.size 54 3 (.slice (some ⟨g, 0, none⟩) n cap) n (i64s (flat (smoL rs))) by rw [← hall]; exact HO.out)
      have HML := Lib.hid (show (smoL rs).length = n by rw [smoL_len]; exact hn.out)
      have HRV := Lib.hid (show Rv wr w.heap.size (.slice (some ⟨g, 0, none⟩) n cap) (smoL rs) from .inr ⟨g, cap, by rw [HML.out], by omega, by rw [HML.out]; exact row_baseR HOF.out (by omega)⟩)
      have HRI := Lib.hid (rv_rings (by rw [HML.out]; omega) HRV.out)
      generalize smoL rs = l at *
      go_wp2_with fail
      refine (l07Done_any s _ l _ HRI.out hs).mono ?_
      rintro e w5 ⟨rfl, hb5⟩
      have HRV5 := Lib.hid (rv_kept hb5 HRV.out)
      have HB5 := Lib.hid (below_of HBW.out hb5 HBW.out.size)
      obtain ⟨⟨b0, b1⟩, f0, f1⟩ := blankP_kept hb5 (by omega) HBK.out
      clear hb5
      rcases Bool.eq_false_or_eq_true (profB s l) with hq | hq
      · have HC := Lib.hid (show resC s l = 0 by unfold resC; rw [if_pos hq])
        rw [hq, HC.out, show resS s 0 = s from rfl]
        clear hq
        skip
        go_wp2
        try simp only [Exit.inBlock, Exit.then]
        refine bodyPost_ret_by (v := .tuple #[.agg #[.string s, .slice (some ⟨g, 0, none⟩) n cap], .int .i64 0]) (by rw [results_cellP rfl]; go_simp) rfl ?_
        rw [HC.out]
        refine ⟨_, rfl, ?_, (HB5.out.setCell (by show _ ≤ w.heap.size + 1; omega) _).setCell (by show _ ≤ w.heap.size + 1; omega) _⟩
        obtain ⟨e', -⟩ | ⟨g', c', e', h1', h2'⟩ := HRV5.out
        · cases e'
        · refine rv_own (ownR_set2 (zs := l) ⟨g', c', e', h1', (h2'.lt g' rfl).2, by rw [e']; exact h2'⟩ (w.heap.size + 1) _ _ (fun q o n' c'' e'' => by simp only [Value.slice.injEq, Option.some.injEq, Addr.mk.injEq] at e''; omega))
      · have HC := Lib.hid (show resC s l = 6 by unfold resC; rw [hq]; rfl)
        rw [hq, HC.out, show resS s 6 = ⟨#[]⟩ from rfl]
        clear hq
        skip
        go_wp2
        try simp only [Exit.inBlock, Exit.then]
        refine bodyPost_ret_by (v := .tuple #[.agg #[.string ⟨#[]⟩, .slice none 0 0], .int .i64 6]) (by rw [results_cellP rfl]; go_simp) rfl ?_
        rw [HC.out]
        exact ⟨_, rfl, .inl ⟨rfl, rfl⟩, (HB5.out.setCell (by show _ ≤ w.heap.size + 1; omega) _).setCell (by show _ ≤ w.heap.size + 1; omega) _⟩
theorem specSmo_any (s : ByteArray) (v : Value) (rs : List Rg) (w : World) (h : RingsAt w v rs) (hs : s.size ≤ maxLen) :
    Calls Try.prog 30 #[.agg #[.string s, v]] w (ProfU (resS s (smoC s rs)) (resL (smoL rs) (smoC s rs)) (smoC s rs) w) := by
  have HI := Lib.hid h
  obtain ⟨a, c, rfl⟩ := rings_form h
  rcases Bool.eq_false_or_eq_true (profB s rs) with hp | hp
  · obtain ⟨-, ⟨n1, n2⟩, -, -⟩ := prof_iff.1 hp
    rw [smoC_3 hp]
    exact specSmo_main s a rs.length c rs w (Lib.hid rfl) n1 n2 HI hs (Lib.hid hp)
  · rw [smoC_1 hp]
    exact specSmo_bad s a rs.length c rs w (Lib.hid rfl) HI hs (Lib.hid hp)
end Go.Proofs.Ytgnnpimfcbkloab
