/- The rings of a zone, and the steps of all zones laid in one list. -/
import Derived.Test.YtpllmehcndinkaaBtwMath
import Derived.Test.YtpllmehcndinkaaG3
set_option linter.unusedVariables false
namespace Go.Proofs.Ytpllmehcndinkaa
open Go.ChangeShapes Go.WideShapes Go.ChangeAt Go.RowKit Go.Maps

theorem zoneN_at {zs : List Int} {r : Int} {z : Nat} (h1 : zs.getD z 0 ≤ r) : ∀ m, z < m → (∀ j, z < j → j < m → r < zs.getD j 0) → zoneN zs r m = z
  | 0, h, _ => by omega
  | m + 1, h, h2 => by
    by_cases e : z = m
    · subst e; exact zoneN_yes h1
    · rw [zoneN_no (by have := h2 m (by omega) (by omega); omega)]
      exact zoneN_at h1 m (by omega) (fun j hj hj2 => h2 j hj (by omega))
theorem zoneN_prop {zs : List Int} {r : Int} (h0 : zs.getD 0 0 ≤ r) : ∀ m, 0 < m → zs.getD (zoneN zs r m) 0 ≤ r ∧ ∀ j, zoneN zs r m < j → j < m → r < zs.getD j 0
  | 0, h => by omega
  | m + 1, _ => by
    by_cases e : zs.getD m 0 ≤ r
    · rw [zoneN_yes e]; exact ⟨e, fun j h1 h2 => by omega⟩
    · rw [zoneN_no e]
      by_cases hm : m = 0
      · subst hm; exact absurd h0 e
      · obtain ⟨a, b⟩ := zoneN_prop h0 m (by omega)
        refine ⟨a, fun j h1 h2 => ?_⟩
        by_cases e2 : j = m
        · subst e2; omega
        · exact b j h1 (by omega)
theorem zs_mono {n : Nat} {zs : List Int} (h : fitB n zs = true) : ∀ d z, z + d < zs.length → zs.getD z 0 ≤ zs.getD (z + d) 0
  | 0, z, _ => by simp
  | d + 1, z, hz => by
    have := zs_mono h d z (by omega)
    have h2 := (fit_facts h).2.2.2 (z + (d + 1)) (by omega) hz
    rw [show z + (d + 1) - 1 = z + d by omega] at h2
    omega
theorem zone_in {n : Nat} {zs : List Int} (h : fitB n zs = true) {z j : Nat} (hz : z < zs.length) (hj : j < zLen zs n z) : zBeg zs z + j < n ∧ zoneN zs ((zBeg zs z + j : Nat) : Int) zs.length = z := by
  have hb := zbeg_int h z hz
  have hs := zone_span h z hz
  unfold zLen at hj
  refine ⟨by omega, zoneN_at (by rw [← hb.1]; omega) _ hz (fun q h1 h2 => ?_)⟩
  have hz1 : z + 1 < zs.length := by omega
  have hE : zEnd zs n z = zBeg zs (z + 1) := by unfold zEnd; rw [if_pos hz1]
  have hb1 := zbeg_int h (z + 1) hz1
  have := zs_mono h (q - (z + 1)) (z + 1) (by omega)
  rw [show z + 1 + (q - (z + 1)) = q by omega] at this
  rw [← hb1.1] at this
  omega
theorem zone_of {n : Nat} {zs : List Int} (h : fitB n zs = true) {i : Nat} (hi : i < n) : ∃ z j, z < zs.length ∧ j < zLen zs n z ∧ i = zBeg zs z + j := by
  obtain ⟨⟨z1, -⟩, z0, -, -⟩ := fit_facts h
  obtain ⟨a, b⟩ := zoneN_prop (zs := zs) (r := (i : Int)) (by rw [z0]; omega) zs.length z1
  have hq := zoneN_lt zs (i : Int) zs.length z1
  generalize zoneN zs (i : Int) zs.length = q at *
  have hb := zbeg_int h q hq
  refine ⟨q, i - zBeg zs q, hq, ?_, by omega⟩
  unfold zLen zEnd
  by_cases hq1 : q + 1 < zs.length
  · rw [if_pos hq1]
    have := b (q + 1) (by omega) hq1
    have := zbeg_int h (q + 1) hq1
    omega
  · rw [if_neg hq1]; omega
/-- The first k zones' steps in a list of eight. -/
def bL (rs rb : List Rg) (zs : List Int) (k : Nat) : List Int := (List.range 8).map fun z => if z < k then bT rs rb zs z else 0
theorem bL_len (rs rb : List Rg) (zs : List Int) (k : Nat) : (bL rs rb zs k).length = 8 := by simp [bL]
theorem bL_get (rs rb : List Rg) (zs : List Int) (k z : Nat) (h : z < 8) : (bL rs rb zs k).getD z 0 = if z < k then bT rs rb zs z else 0 := by simp [bL, List.getD, h]
theorem bL_zero (rs rb : List Rg) (zs : List Int) : bL rs rb zs 0 = List.replicate 8 0 := by
  refine List.ext_getElem (by simp [bL]) fun j h1 h2 => ?_
  rw [List.getElem_replicate]
  simp [bL]
theorem bL_next (rs rb : List Rg) (zs : List Int) (k : Nat) (h : k < 8) : (i64s (bL rs rb zs k)).set k (.int .i64 (bT rs rb zs k)) = i64s (bL rs rb zs (k + 1)) := by
  rw [i64s_setC]
  congr 1
  refine List.ext_getElem (by simp [bL]) fun j h1 h2 => ?_
  rw [List.getElem_set]
  by_cases e : k = j
  · subst e; rw [if_pos rfl]; simp [bL]
  · rw [if_neg e]
    simp only [bL, List.getElem_map, List.getElem_range]
    by_cases e2 : j < k
    · rw [if_pos e2, if_pos (by omega)]
    · rw [if_neg e2, if_neg (by omega)]
theorem turn_same {rs rb : List Rg} {zs : List Int} (h : fitB rs.length zs = true) (hl : rs.length = rb.length) (hr : ∀ z, z < zs.length → 0 ≤ bT rs rb zs z ∧ bT rs rb zs z ≤ 20) :
    turnL (stepF zs (bL rs rb zs zs.length)) rs rs.length = rb ↔ BAll rs rb zs := by
  have h8 := (fit_facts h).1.2
  have hat : ∀ z j, z < zs.length → j < zLen zs rs.length z → (turnL (stepF zs (bL rs rb zs zs.length)) rs rs.length).getD (zBeg zs z + j) zR = turnR (bT rs rb zs z) (rs.getD (zBeg zs z + j) zR) := by
    intro z j hz hj
    obtain ⟨a, b⟩ := zone_in h hz hj
    rw [turnL_get _ _ _ _ a, if_pos a]
    unfold stepF
    rw [b, bL_get _ _ _ _ _ (by omega), if_pos hz]
  constructor
  · intro e z hz
    refine ⟨hr z hz, fun j hj => ?_⟩
    rw [← hat z j hz hj, e]
  · intro hb
    refine List.ext_getElem (by rw [turnL_len]; exact hl) fun i h1 h2 => ?_
    rw [turnL_len] at h1
    obtain ⟨z, j, hz, hj, rfl⟩ := zone_of h h1
    have e1 := hat z j hz hj
    rw [(hb z hz).2 j hj, List.getD_eq_getElem?_getD, List.getD_eq_getElem?_getD, List.getElem?_eq_getElem (by rw [turnL_len]; exact h1), List.getElem?_eq_getElem h2] at e1
    exact e1
theorem listOf_congr {f g : Nat → Int} : ∀ n, (∀ z, z < n → f z = g z) → listOf f n = listOf g n
  | 0, _ => rfl
  | n + 1, h => by
    have ih := listOf_congr n (fun z hz => h z (by omega))
    have e := h n (by omega)
    by_cases hp : 0 < f n
    · rw [listOf_yes hp, listOf_yes (f := g) (by rw [← e]; exact hp), ih, e]
    · rw [listOf_no hp, listOf_no (f := g) (by rw [← e]; exact hp), ih]
theorem listOf_more {f : Nat → Int} {n : Nat} : ∀ d, (∀ z, n ≤ z → f z = 0) → listOf f (n + d) = listOf f n
  | 0, _ => rfl
  | d + 1, h => by
    rw [show n + (d + 1) = (n + d) + 1 by omega, listOf_no (by rw [h (n + d) (by omega)]; omega)]
    exact listOf_more d h
theorem listOf_bL (rs rb : List Rg) (zs : List Int) (h : zs.length ≤ 8) : listOf (fun z => if z < zs.length then bT rs rb zs z else 0) 8 = listOf (bT rs rb zs) zs.length := by
  have := listOf_more (f := fun z => if z < zs.length then bT rs rb zs z else 0) (n := zs.length) (8 - zs.length) (fun z hz => by show (if z < zs.length then _ else _) = _; rw [if_neg (by omega)])
  rw [show zs.length + (8 - zs.length) = 8 by omega] at this
  rw [this]
  exact listOf_congr _ (fun z hz => by show (if z < zs.length then _ else _) = _; rw [if_pos hz])
end Go.Proofs.Ytpllmehcndinkaa
