/- A profile with steps of its zones taken away: the reference model's. -/
import Derived.Test.YtjdnjlakafcglaaLatOf
import Derived.Test.YtjdnjlakafcglaaOwnP
import Derived.Test.YtjdnjlakafcglaaWithO
import Derived.StillTailTactics
set_option linter.unusedVariables false
namespace Go.Proofs.Ytjdnjlakafcglaa
open Go.ChangeShapes Go.WideShapes Go.ChangeAt Go.RowKit

def turnR (t : Int) (r : Rg) : Rg := (r.1, r.2.1 + 10 * t, r.2.2)
/-- The first k rings turned, ring i by f i steps. -/
def turnL (f : Nat → Int) (rs : List Rg) (k : Nat) : List Rg := (List.range rs.length).map fun j => if j < k then turnR (f j) (rs.getD j zR) else rs.getD j zR
theorem turnL_len (f : Nat → Int) (rs : List Rg) (k : Nat) : (turnL f rs k).length = rs.length := by simp [turnL]
theorem turnL_zero (f : Nat → Int) (rs : List Rg) : turnL f rs 0 = rs := by
  refine List.ext_getElem (by simp [turnL]) fun j h1 h2 => ?_
  simp [turnL, List.getD, h2]
theorem turnL_get (f : Nat → Int) (rs : List Rg) (k j : Nat) (h : j < rs.length) : (turnL f rs k).getD j zR = if j < k then turnR (f j) (rs.getD j zR) else rs.getD j zR := by
  rw [List.getD_eq_getElem?_getD, List.getElem?_eq_getElem (by rw [turnL_len]; exact h)]
  simp [turnL]
theorem turnL_next (f : Nat → Int) (rs : List Rg) (k : Nat) (h : k < rs.length) : (turnL f rs k).set k (turnR (f k) (rs.getD k zR)) = turnL f rs (k + 1) := by
  refine List.ext_getElem (by simp [turnL]) fun j h1 h2 => ?_
  have hj : j < rs.length := by simpa [turnL] using h2
  rw [List.getElem_set]
  simp only [turnL, List.getElem_map, List.getElem_range]
  by_cases e : k = j
  · subst e; rw [if_pos rfl, if_pos (by omega)]
  · rw [if_neg e]
    by_cases e2 : j < k
    · rw [if_pos e2, if_pos (by omega)]
    · rw [if_neg e2, if_neg (by omega)]
theorem flat_setY (rs : List Rg) (j : Nat) (y : Int) (h : j < rs.length) : (flat rs).set (j * 3 + 1) y = flat (rs.set j ((rs.getD j zR).1, y, (rs.getD j zR).2.2)) := by
  induction rs generalizing j with
  | nil => simp at h
  | cons q rs ih =>
    match j with
    | 0 => simp [flat]
    | j + 1 =>
      have e : (j + 1) * 3 + 1 = j * 3 + 1 + 3 := by omega
      have := ih j (by simpa using h)
      rw [e]
      simpa [flat] using this
theorem storeY {w : World} {B g n cap : Nat} {rs : List Rg} (h : w.ownsRow B 121 3 (.slice (some ⟨g, 0, none⟩) n cap) n (i64s (flat rs))) (j : Nat) (y : Int) (hj : j < rs.length) :
    (w.setCell ⟨g, j * 3 + 1, none⟩ (.int .i64 y)).ownsRow B 121 3 (.slice (some ⟨g, 0, none⟩) n cap) n (i64s (flat (rs.set j ((rs.getD j zR).1, y, (rs.getD j zR).2.2)))) := by
  have h1 := (h.stored (j * 3 + 1) (.int .i64 y)).1
  rw [i64s_set, flat_setY rs j y hj] at h1
  exact h1
theorem src_lieT {w : World} {a : Option Addr} {n c : Nat} {rs : List Rg} (hn : rs.length = n) (h1 : 1 ≤ n) (h : RingsAt w (.slice a n c) rs) : ∃ b off, a = some ⟨b, off, none⟩ ∧ b < w.heap.size ∧ ∀ j, j < n * 3 → w.cell? ⟨b, off + j, none⟩ = some (.int .i64 ((flat rs).getD j 0)) := by
  obtain ⟨-, ⟨a', c', hv, h0⟩ | ⟨b, off, cap, hv, hbl, hc⟩⟩ := h
  · rw [h0] at hn; simp at hn; omega
  · simp only [Value.slice.injEq] at hv
    exact ⟨b, off, hv.1, hbl, fun j hj => hc j (by omega)⟩
theorem blankP_gbT {w w' : World} {g : Nat} {row : Option Nat} (hb : w.grownBy w' row) (hg : g < w.heap.size) (hne : some g ≠ row) (h : BlankP w g) : BlankP w' g := by
  have e : w'.heap[g]? = w.heap[g]? := hb.block g hg hne
  exact ⟨⟨(World.cell?_of_block e).trans h.1.1, (World.cell?_of_block e).trans h.1.2⟩, (World.frozen?_of_block e).trans h.2.1, (World.frozen?_of_block e).trans h.2.2⟩
theorem gb_drewT {w w1 : World} {row : Option Nat} (h : w.grownBy w1 row) : w.grownBy w1.drew row := ⟨h.os, h.tape, h.output, h.size, h.block⟩
theorem ints_cellsT {w : World} {v : Value} {zs : List Int} (h : IntsAt w v zs) (hp : 0 < zs.length) : ∃ b off cap, v = .slice (some ⟨b, off, none⟩) zs.length cap ∧ b < w.heap.size ∧ ∀ j, j < zs.length → w.cell? ⟨b, off + j, none⟩ = some (.int .i64 (zs.getD j 0)) := by
  obtain ⟨_, ⟨a, c, _, rfl⟩ | h⟩ := h
  · simp at hp
  · exact h
/-- The steps of ring i: those of its zone. -/
def stepF (zs L : List Int) (i : Nat) : Int := L.getD (zoneN zs (i : Int) zs.length) 0
set_option maxRecDepth 20000 in
set_option maxHeartbeats 4000000 in
theorem l09Turned_any (p : Nat) (s : ByteArray) (v vz vL : Value) (rs : List Rg) (zs L : List Int) (w : World) (hpl : p < w.heap.size) (hp : ProfIn w p s v) (h : RingsAt w v rs) (hz : IntsAt w vz zs) (hL : IntsAt w vL L)
    (h32 : 1 ≤ rs.length ∧ rs.length ≤ 32) (hR : ∀ i, i < rs.length → ringB (rs.getD i zR) = true) (hzl : 0 < zs.length ∧ zs.length ≤ 64) (hLl : zs.length ≤ L.length) (hLb : ∀ j, j < L.length → 0 ≤ L.getD j 0 ∧ L.getD j 0 ≤ 1000) :
    Calls Try.prog 92 #[.pointer (some ⟨p, 0, none⟩), vz, vL] w fun e w' => (∃ v, e = .returned (.agg #[.string s, v]) ∧ Rv w' w.heap.size v (turnL (stepF zs L) rs rs.length)) ∧ Below w.heap.size w w' := by
  obtain ⟨n1, n32⟩ := h32
  obtain ⟨bz, oz, cz, rfl, hbz, hcz⟩ := ints_cellsT hz hzl.1
  obtain ⟨bL, oL, cL, rfl, hbL, hcL⟩ := ints_cellsT hL (by omega)
  obtain ⟨a, c, rfl⟩ := rings_form h
  have HZC := Lib.hid (fun (i : Int) W (hW : Below w.heap.size w W) => l09Zone_some zs i bz oz cz zs.length W hzl.2 (fun j hj => (below_cell hW _ _ hbz).trans (hcz j hj)))
  have HZL := Lib.hid (fun (i : Int) => zoneN_lt zs i zs.length hzl.1)
  have HLC := Lib.hid (fun W (hW : Below w.heap.size w W) j (hj : j < L.length) => (below_cell hW _ _ hbL).trans (hcL j hj))
  have HLB := Lib.hid hLb
  have HSF := Lib.hid (fun i => show stepF zs L i = L.getD (zoneN zs (i : Int) zs.length) 0 from rfl)
  obtain ⟨b, off, rfl, hbl, hsrc⟩ := src_lieT rfl n1 h
  have HPN := Lib.hid (fun k (hk : k < rs.length) => turnL_next (stepF zs L) rs k hk)
  have HPG := Lib.hid (fun k (hk : k < rs.length) => show (turnL (stepF zs L) rs k).getD k zR = rs.getD k zR by rw [turnL_get _ _ _ _ hk, if_neg (by omega)])
  have HPL := Lib.hid (turnL_len (stepF zs L) rs)
  have HP0 := Lib.hid (turnL_zero (stepF zs L) rs)
  have HVR := Lib.hid hR
  have hBA := below_al w (.cells #[.string ⟨#[]⟩, .slice none 0 0] 30)
  have HBL := Lib.hid (blankP_alloc w 30)
  have hl1 := alloc_lt2 w (.cells #[.string ⟨#[]⟩, .slice none 0 0] 30)
  have HBA := Lib.hid hBA
  have HOW := Lib.hid (l05Own_any p b off _ c s rs (w.alloc (.cells #[.string ⟨#[]⟩, .slice none 0 0] 30)) rfl n1 n32 (Nat.lt_trans hpl hl1) (Nat.lt_trans hbl hl1) (prof_keep hBA hpl hp) (fun j hj => (below_cell hBA _ _ hbl).trans (hsrc j hj)))
  clear h hz hL hp hsrc hcz hcL hR hLb hBA
  obtain ⟨n, hn⟩ : ∃ n, rs.length = n := ⟨_, rfl⟩
  obtain ⟨nz, hnz⟩ : ∃ nz, zs.length = nz := ⟨_, rfl⟩
  obtain ⟨nL, hnL⟩ : ∃ nL, L.length = nL := ⟨_, rfl⟩
  rw [hn] at HOW HPN HPG HPL HVR n1 n32 ⊢
  rw [hnz] at HZC HZL HSF hzl hLl ⊢
  rw [hnL] at HLC HLB hLl ⊢
  have HN := Lib.hid hn
  clear hn hnz hnL
  go_enter Try.func92, Try.ntmps92
  go_wp2_with fail
  generalize (w.alloc (.cells #[.string ⟨#[]⟩, .slice none 0 0] 30)) = wA at *
  refine HOW.out.mono ?_
  rintro e w3 ⟨g, cap, rfl, hg, hown, hb⟩
  have HBL3 := Lib.hid (blankP_kept hb hl1 HBL.out)
  have hl3 := Nat.lt_of_lt_of_le hl1 hb.size
  have HB3 := Lib.hid (below_of HBA.out hb HBA.out.size)
  have HGW := Lib.hid (hown.lt g rfl).2
  have HO3 := Lib.hid (show (w3.alloc (.cells #[.string s, .slice (some ⟨g, 0, none⟩) n cap] 30)).ownsRow wA.heap.size 121 3 (.slice (some ⟨g, 0, none⟩) n cap) n (i64s (flat (turnL (stepF zs L) rs 0))) from by
    rw [HP0.out]; exact hown.alloc (.cells #[.string s, .slice (some ⟨g, 0, none⟩) n cap] 30))
  have o0 : (w3.alloc (.cells #[.string s, .slice (some ⟨g, 0, none⟩) n cap] 30)).cell? ⟨w3.heap.size, 0, none⟩ = some (.string s) := by go_simp
  have o1 : (w3.alloc (.cells #[.string s, .slice (some ⟨g, 0, none⟩) n cap] 30)).cell? ⟨w3.heap.size, 1, none⟩ = some (.slice (some ⟨g, 0, none⟩) n cap) := by go_simp
  have HBL4 := Lib.hid (blankP_kept (below_al w3 (.cells #[.string s, .slice (some ⟨g, 0, none⟩) n cap] 30)) hl3 HBL3.out)
  have HB4 := Lib.hid (HB3.out.alloc HB3.out.size (.cells #[.string s, .slice (some ⟨g, 0, none⟩) n cap] 30))
  have hl4 := alloc_lt2 w3 (.cells #[.string s, .slice (some ⟨g, 0, none⟩) n cap] 30)
  have hg2 : w.heap.size < g := by omega
  clear hown hb
  go_wp2
  generalize (w3.alloc (.cells #[.string s, .slice (some ⟨g, 0, none⟩) n cap] 30)) = w4 at *
  have hge : g < w3.heap.size := HGW.out
  have HGN := Lib.hid (show some w.heap.size ≠ some g from fun e => by have := Option.some.inj e; omega)
  go_loopw [8] (fun i wr => ∃ k : Nat, k ≤ n ∧ i = .int .i64 k ∧ (wr.cell? ⟨w3.heap.size, 0, none⟩ = some (.string s) ∧ wr.cell? ⟨w3.heap.size, 1, none⟩ = some (.slice (some ⟨g, 0, none⟩) n cap)) ∧ Hid (wr.ownsRow wA.heap.size 121 3 (.slice (some ⟨g, 0, none⟩) n cap) n (i64s (flat (turnL (stepF zs L) rs k)))) ∧ Hid (BlankP wr w.heap.size) ∧ Hid (Below w.heap.size w wr) ∧ w3.heap.size < wr.heap.size) (fun i _ => n - (intOf i).toNat)
  case atStart => exact ⟨0, by omega, rfl, ⟨o0, o1⟩, HO3, HBL4, HB4, hl4⟩
  case round =>
    obtain ⟨k, hk, rfl, ⟨c0, c1⟩, HO, HBK, HBW, hsz⟩ := hrel
    clear o0 o1
    by_cases hlt : k < n
    · have hrb := (ring_iff.1 (HVR.out k hlt)).2.1
      have hro := (ring_iff.1 (HVR.out k hlt)).1
      have hri := own_in (by rw [HPL.out]) HO.out k hlt
      obtain ⟨q, hq⟩ : ∃ q, zoneN zs (k : Int) nz = q := ⟨_, rfl⟩
      have hql : q < nz := by rw [← hq]; exact HZL.out (k : Int)
      have hqL : q < nL := by omega
      have hLc := HLC.out wr HBW.out q hqL
      have hLbd := HLB.out q hqL
      have HSK := Lib.hid (show stepF zs L k = L.getD q 0 by rw [HSF.out, hq])
      have HCZ := Lib.hid ((HZC.out (k : Int) wr.drew (HBW.out.trans ⟨rfl, rfl, rfl, Nat.le_refl _, fun _ _ => rfl⟩)).mono fun e w' h => show e = .returned (.int .i64 (q : Int)) ∧ w' = wr.drew from ⟨by rw [h.1, hq], h.2.symm⟩)
      have HNX := Lib.hid (HPN.out k hlt)
      rw [HPG.out k hlt] at hri
      have e1 := hri.c1
      have ff := HO.out.frozenAt (k * 3 + 1)
      have HST := Lib.hid (storeY HO.out k ((rs.getD k zR).2.1 + 10 * L.getD q 0) (by rw [HPL.out]; exact hlt))
      rw [HPG.out k hlt] at HST
      have HTR := Lib.hid (show turnR (stepF zs L k) (rs.getD k zR) = ((rs.getD k zR).1, (rs.getD k zR).2.1 + 10 * L.getD q 0, (rs.getD k zR).2.2) by unfold turnR; rw [HSK.out])
      rw [HTR.out] at HNX
      clear hri hq
      obtain ⟨y, hy⟩ : ∃ y, (rs.getD k zR).2.1 = y := ⟨_, rfl⟩
      obtain ⟨t, ht⟩ : ∃ t, L.getD q 0 = t := ⟨_, rfl⟩
      rw [hy] at e1 hrb HST HNX
      rw [ht] at hLc hLbd HST HNX
      clear hy ht
      have hw1 : IntKind.i64.wrap (10 * t) = 10 * t := IntWalk.i64_in _ (by omega)
      have hw2 : IntKind.i64.wrap (y + 10 * t) = y + 10 * t := IntWalk.i64_in _ (by omega)
      have hkn : (k : Int) < (n : Int) := by omega
      have hk0 : (0 : Int) ≤ (k : Int) := by omega
      have hqn : (q : Int) < (nL : Int) := by omega
      have hq0 : (0 : Int) ≤ (q : Int) := by omega
      clear hrb hro hLbd
      go_wp2
      refine wp_region_still_tail 16 (by kernel_rfl) (by kernel_rfl) ?_
      simp only [List.take_succ_cons, List.take_zero, List.drop_succ_cons, List.drop_zero]
      repeat still_step
      still_call HCZ.out
      repeat still_step
      refine wpStill_nil ?_
      change wpList _ _ _ _ _ wr.drew
      go_wp2
      go_roundw
      case rel => exact ⟨k + 1, by omega, by go_num, ⟨(World.cell?_setCell_far _ _ _ _ (by simp only; omega)).trans c0, (World.cell?_setCell_far _ _ _ _ (by simp only; omega)).trans c1⟩, Lib.hid (by rw [← HNX.out]; exact World.ownsRow.drew HST.out), Lib.hid (blankP_gbT (gb_drewT (gb_set _ _ (gb_refl wr (some g)))) (Nat.lt_trans hl3 hsz) HGN.out HBK.out), Lib.hid ((HBW.out.setCell (p := ⟨g, k * 3 + 1, none⟩) (by show _ ≤ g; omega) _).trans ⟨rfl, rfl, rfl, Nat.le_refl _, fun _ _ => rfl⟩), by simpa using hsz⟩
      case measure => simp [intOf]; omega
    · obtain rfl : k = n := by omega
      have HRV := Lib.hid (show Rv wr w.heap.size (.slice (some ⟨g, 0, none⟩) k cap) (turnL (stepF zs L) rs k) from .inr ⟨g, cap, by rw [HPL.out], by omega, by rw [HPL.out]; exact row_baseR HO.out (by omega)⟩)
      obtain ⟨⟨b0, b1⟩, f0, f1⟩ := HBK.out
      have hne1 : w.heap.size ≠ w3.heap.size := by omega
      have hne2 : w3.heap.size ≠ w.heap.size := by omega
      go_wp2
      try simp only [Exit.inBlock, Exit.then]
      refine bodyPost_ret_by (v := .agg #[.string s, .slice (some ⟨g, 0, none⟩) k cap]) (by rw [results_cellR rfl]; go_simp) rfl ?_
      refine ⟨⟨_, rfl, ?_⟩, (HBW.out.setCell (by show _ ≤ w.heap.size; omega) _).setCell (by show _ ≤ w.heap.size; omega) _⟩
      exact rv_grown (gb_set _ _ (gb_set _ _ (gb_refl wr (some w.heap.size)))) HRV.out (.inr (by simp [Value.ownBlock]; omega))
end Go.Proofs.Ytjdnjlakafcglaa
