/- A profile of another size: the reference model's. -/
import Derived.Test.YtndmakimkghihabWithO
import Derived.Test.YtndmakimkghihabDiv
import Derived.Test.YtndmakimkghihabSumLie
import Derived.Test.YtndmakimkghihabHand
import Derived.Deep.AppendLies
import Derived.Deep.RegionHeld3
import Derived.Deep.RegionHeldLaw
import Derived.BigRegion
set_option linter.unusedVariables false
namespace Go.Proofs.Ytndmakimkghihab
open Go.ChangeShapes Go.WideShapes Go.ChangeAt Go.RowKit

def szR (num den : Int) (r : Rg) : Rg := (nq (r.1 * num) den, nq (r.2.1 * num) den, nq (r.2.2 * num) den)
def szL (rs : List Rg) (num den : Int) : List Rg := rs.map (szR num den)
theorem szL_len (rs : List Rg) (num den : Int) : (szL rs num den).length = rs.length := by simp [szL]
theorem szL_get (rs : List Rg) (num den : Int) (j : Nat) (h : j < rs.length) : (szL rs num den).getD j zR = szR num den (rs.getD j zR) := by simp [szL, List.getD, h]
theorem flat_app (a b : List Rg) : flat (a ++ b) = flat a ++ flat b := by
  induction a with
  | nil => rfl
  | cons r a ih => simp [flat, ih]
theorem szL_next (rs : List Rg) (num den : Int) (k : Nat) (h : k < rs.length) : i64s (flat ((szL rs num den).take (k + 1))) = i64s (flat ((szL rs num den).take k)) ++ i64s (flat [szR num den (rs.getD k zR)]) := by
  have hl : k < (szL rs num den).length := by rw [szL_len]; exact h
  have e : (szL rs num den)[k] = szR num den (rs.getD k zR) := by simp [szL, List.getD, h]
  rw [List.take_succ_eq_append_getElem hl, e, flat_app, i64s_app]
theorem mul_bds {x y X Y : Int} (h0 : 0 ≤ x) (h1 : x ≤ X) (k0 : 0 ≤ y) (k1 : y ≤ Y) : 0 ≤ x * y ∧ x * y ≤ X * Y :=
  ⟨Int.mul_nonneg h0 k0, Int.le_trans (Int.mul_le_mul_of_nonneg_right h1 k0) (Int.mul_le_mul_of_nonneg_left k1 (by omega))⟩
theorem news3 {w : World} {x y z : Int} : ∀ j u, (i64s (flat [(x, y, z)]))[j]? = some u → (w.alloc (.cells #[.int .i64 x, .int .i64 y, .int .i64 z] 106)).cell? ((⟨w.heap.size, 0, none⟩ : Addr).add j) = some u :=
  World.news_of_block (cs := #[.int .i64 x, .int .i64 y, .int .i64 z]) (heap_alloc_new w _)
theorem k3s_al {W : World} {h : Nat} {x y z : Value} (hS : W.cell? ⟨h, 0, none⟩ = some x ∧ W.cell? ⟨h, 1, none⟩ = some y ∧ W.cell? ⟨h, 2, none⟩ = some z) (o : Obj) :
    (W.alloc o).cell? ⟨h, 0, none⟩ = some x ∧ (W.alloc o).cell? ⟨h, 1, none⟩ = some y ∧ (W.alloc o).cell? ⟨h, 2, none⟩ = some z :=
  ⟨(World.cell?_alloc_some _ _ _ (by rw [hS.1]; rfl)).trans hS.1, (World.cell?_alloc_some _ _ _ (by rw [hS.2.1]; rfl)).trans hS.2.1, (World.cell?_alloc_some _ _ _ (by rw [hS.2.2]; rfl)).trans hS.2.2⟩
theorem k3s_st {W : World} {h : Nat} {x y z : Value} (hS : W.cell? ⟨h, 0, none⟩ = some x ∧ W.cell? ⟨h, 1, none⟩ = some y ∧ W.cell? ⟨h, 2, none⟩ = some z) (p : Addr) (u : Value) (n0 : p.block ≠ h) :
    (W.setCell p u).cell? ⟨h, 0, none⟩ = some x ∧ (W.setCell p u).cell? ⟨h, 1, none⟩ = some y ∧ (W.setCell p u).cell? ⟨h, 2, none⟩ = some z :=
  ⟨(World.cell?_setCell_far _ _ _ _ n0).trans hS.1, (World.cell?_setCell_far _ _ _ _ n0).trans hS.2.1, (World.cell?_setCell_far _ _ _ _ n0).trans hS.2.2⟩
theorem below_dr6 {B : Nat} {w W : World} (h : Below B w W) : Below B w W.drew := h.trans ⟨rfl, rfl, rfl, Nat.le_refl _, fun _ _ => rfl⟩
theorem results_cell1 {P : Program} {fn : Func} {p : Tmp} {ty : TypeId} (h : fn.results = #[.cell p ty]) (tmps : Array Value) (w : World) :
    (results fn tmps).run P w = ((asAddr (tmps.getD p undef)).run P w).andThen fun a w1 => (loadVar ty a).run P w1 := results_cellR h tmps w
set_option maxRecDepth 100000 in
set_option maxHeartbeats 4000000 in
theorem l07Sized_any (p b off n c : Nat) (s : ByteArray) (rs : List Rg) (num den : Int) (w : World) (hn : rs.length = n) (h1 : 1 ≤ n) (h32 : n ≤ 32) (hpl : p < w.heap.size) (hbl : b < w.heap.size) (hp : ProfIn w p s (.slice (some ⟨b, off, none⟩) n c)) (hr : ∀ i, i < n → RingIn w b (off + i * 3) (rs.getD i zR)) (hR : ∀ i, i < rs.length → ringB (rs.getD i zR) = true) (m0 : 1 ≤ num) (m1 : num ≤ 20000000) (d0 : 1 ≤ den) (d1 : den ≤ 20000000) :
    Calls Try.prog 38 #[.pointer (some ⟨p, 0, none⟩), .int .i64 num, .int .i64 den] w fun e w' => ∃ g cap, e = .returned (.agg #[.string s, .slice (some ⟨g, 0, none⟩) n cap]) ∧ w.heap.size ≤ g ∧ w'.ownsRow w.heap.size 106 3 (.slice (some ⟨g, 0, none⟩) n cap) n (i64s (flat (szL rs num den))) ∧ Below w.heap.size w w' := by
  obtain ⟨i0, hi, hz0, hz1, hz2⟩ := info_parts infoRing
  have HP := Lib.hid hp
  have HC := Lib.hid hr
  have HR := Lib.hid hR
  have HN := Lib.hid hn
  have HNX := Lib.hid (szL_next rs num den)
  have HLL := Lib.hid (szL_len rs num den)
  obtain ⟨p0, p1⟩ := hp
  clear hr hR hn
  have hsz : ((w.alloc (.cells #[.string ⟨#[]⟩, .slice none 0 0] 30)).alloc (.cells #[.string s, .slice none 0 0] 30)).heap.size = w.heap.size + 2 := by simp
  have g0 : ((w.alloc (.cells #[.string ⟨#[]⟩, .slice none 0 0] 30)).alloc (.cells #[.string s, .slice none 0 0] 30)).cell? ⟨w.heap.size + 1, 0, none⟩ = some (.string s) := by go_simp
  have g1 : ((w.alloc (.cells #[.string ⟨#[]⟩, .slice none 0 0] 30)).alloc (.cells #[.string s, .slice none 0 0] 30)).cell? ⟨w.heap.size + 1, 1, none⟩ = some (.slice none 0 0) := by go_simp
  have g2 : ((w.alloc (.cells #[.string ⟨#[]⟩, .slice none 0 0] 30)).alloc (.cells #[.string s, .slice none 0 0] 30)).frozen? ⟨w.heap.size + 1, 1, none⟩ = false := by go_simp
  have HBK := Lib.hid (show BlankP ((w.alloc (.cells #[.string ⟨#[]⟩, .slice none 0 0] 30)).alloc (.cells #[.string s, .slice none 0 0] 30)) w.heap.size from ⟨⟨by go_simp, by go_simp⟩, by go_simp, by go_simp⟩)
  have HBA := Lib.hid (((Below.refl w.heap.size w).alloc (Nat.le_refl _) (.cells #[.string ⟨#[]⟩, .slice none 0 0] 30)).alloc (by simp) (.cells #[.string s, .slice none 0 0] 30))
  go_enter Try.func38, Try.ntmps38
  go_wp2
  clear p0 p1
  generalize ((w.alloc (.cells #[.string ⟨#[]⟩, .slice none 0 0] 30)).alloc (.cells #[.string s, .slice none 0 0] 30)) = wA at *
  go_loopw [8] (fun i wr => ∃ (k : Nat) (v : Value), k ≤ n ∧ i = .int .i64 k ∧ (wr.cell? ⟨w.heap.size + 1, 0, none⟩ = some (.string s) ∧ wr.cell? ⟨w.heap.size + 1, 1, none⟩ = some v ∧ wr.frozen? ⟨w.heap.size + 1, 1, none⟩ = false) ∧ Hid (wr.ownsRow (w.heap.size + 2) 106 3 v k (i64s (flat ((szL rs num den).take k)))) ∧ Hid (BlankP wr w.heap.size) ∧ Hid (Below w.heap.size w wr) ∧ w.heap.size + 2 ≤ wr.heap.size) (fun i _ => n - (intOf i).toNat)
  case atStart => exact ⟨0, _, by omega, rfl, ⟨g0, g1, g2⟩, Lib.hid (by simpa [flat, i64s] using World.ownsRow_nil wA (w.heap.size + 2) _ 3), HBK, HBA, by omega⟩
  case round =>
    obtain ⟨k, v, hk, rfl, ⟨c0, c1, cf⟩, HO, HBL, HBW, hws⟩ := hrel
    obtain ⟨p0, p1⟩ := prof_keep HBW.out hpl HP.out
    clear g0 g1 g2
    by_cases hlt : k < n
    · have hr0 := HC.out k hlt
      have hrb := HR.out k (by rw [HN.out]; exact hlt)
      have hx := HNX.out k (by rw [HN.out]; exact hlt)
      have e0 := (below_cell HBW.out _ _ hbl).trans hr0.c0
      have e1 := (below_cell HBW.out _ _ hbl).trans hr0.c1
      have e2 := (below_cell HBW.out _ _ hbl).trans hr0.c2
      clear hr0
      obtain ⟨⟨x, y, z⟩, hxyz⟩ : ∃ r, rs.getD k zR = r := ⟨_, rfl⟩
      rw [hxyz] at e0 e1 e2 hrb hx
      have HX := Lib.hid hx
      obtain ⟨⟨r0, r1⟩, ⟨r2, r3⟩, r4, r5⟩ := ring_iff.1 hrb
      simp only at e0 e1 e2 r0 r1 r2 r3 r4 r5
      clear hx hrb hxyz
      have b1 := mul_bds (x := x) (X := 150000) (Y := 20000000) (by omega) r1 (show 0 ≤ num by omega) m1
      have b2 := mul_bds (x := y) (X := 150000) (Y := 20000000) r2 (by omega) (show 0 ≤ num by omega) m1
      have b3 := mul_bds (x := z) (X := 300000) (Y := 20000000) (by omega) r5 (show 0 ≤ num by omega) m1
      have HT1 := Lib.hid (fun (a : Int) (w : World) (h : a = x * num) => show Calls Try.prog 75 #[.int .i64 a, .int .i64 den] w fun e w' => e = .returned (.int .i64 (nq (x * num) den)) ∧ w = w' from by subst h; exact specDiv_any (x * num) den w (by omega) (by omega) (by omega))
      have HV1 := Lib.hid (show IntKind.i64.wrap (x * num) = x * num from IntWalk.i64_in _ (by omega))
      have HW1 := Lib.hid (show wrap64 (x * num) = x * num from IntWalk.wrap64_in _ (by omega))
      have HT2 := Lib.hid (fun (a : Int) (w : World) (h : a = y * num) => show Calls Try.prog 75 #[.int .i64 a, .int .i64 den] w fun e w' => e = .returned (.int .i64 (nq (y * num) den)) ∧ w = w' from by subst h; exact specDiv_any (y * num) den w (by omega) (by omega) (by omega))
      have HV2 := Lib.hid (show IntKind.i64.wrap (y * num) = y * num from IntWalk.i64_in _ (by omega))
      have HW2 := Lib.hid (show wrap64 (y * num) = y * num from IntWalk.wrap64_in _ (by omega))
      have HT3 := Lib.hid (fun (a : Int) (w : World) (h : a = z * num) => show Calls Try.prog 75 #[.int .i64 a, .int .i64 den] w fun e w' => e = .returned (.int .i64 (nq (z * num) den)) ∧ w = w' from by subst h; exact specDiv_any (z * num) den w (by omega) (by omega) (by omega))
      have HV3 := Lib.hid (show IntKind.i64.wrap (z * num) = z * num from IntWalk.i64_in _ (by omega))
      have HW3 := Lib.hid (show wrap64 (z * num) = z * num from IntWalk.wrap64_in _ (by omega))
      have HSZ := Lib.hid (show szR num den (x, y, z) = (nq (x * num) den, nq (y * num) den, nq (z * num) den) from rfl)
      have hkm : (k : Int) < (n : Int) := by omega
      have hk0 : (0 : Int) ≤ (k : Int) := by omega
      obtain ⟨q1, hq1⟩ : ∃ q, nq (x * num) den = q := ⟨_, rfl⟩
      obtain ⟨q2, hq2⟩ : ∃ q, nq (y * num) den = q := ⟨_, rfl⟩
      obtain ⟨q3, hq3⟩ : ∃ q, nq (z * num) den = q := ⟨_, rfl⟩
      rw [hq1] at HT1 HSZ
      rw [hq2] at HT2 HSZ
      rw [hq3] at HT3 HSZ
      clear hq1 hq2 hq3 r0 r1 r2 r3 r4 r5
      have HOr := Lib.hid HO.out
      have hw1 : wr.heap.size + 1 = (wr.alloc (.cells #[.int .i64 x, .int .i64 y, .int .i64 z] 106)).heap.size := by simp
      have HOa := Lib.hid ((HO.out.alloc (.cells #[.int .i64 x, .int .i64 y, .int .i64 z] 106)).alloc (.cells #[.int .i64 q1, .int .i64 q2, .int .i64 q3] 106))
      have HBa := Lib.hid ((HBW.out.alloc HBW.out.size (.cells #[.int .i64 x, .int .i64 y, .int .i64 z] 106)).alloc (by simp; omega) (.cells #[.int .i64 q1, .int .i64 q2, .int .i64 q3] 106))
      have HNW := Lib.hid (show ∀ j u, (i64s (flat [(q1, q2, q3)]))[j]? = some u → ((wr.alloc (.cells #[.int .i64 x, .int .i64 y, .int .i64 z] 106)).alloc (.cells #[.int .i64 q1, .int .i64 q2, .int .i64 q3] 106)).cell? ((⟨wr.heap.size + 1, 0, none⟩ : Addr).add j) = some u by rw [hw1]; exact news3)
      have hbq : Below wr.heap.size wr (wr.alloc (.cells #[.int .i64 x, .int .i64 y, .int .i64 z] 106)) := below_al _ _
      have a0 := (below_cell hbq _ _ (show w.heap.size + 1 < wr.heap.size by omega)).trans c0
      have a1 := (below_cell hbq _ _ (show w.heap.size + 1 < wr.heap.size by omega)).trans c1
      have af := (below_frozen hbq _ _ (show w.heap.size + 1 < wr.heap.size by omega)).trans cf
      have y0 : (wr.alloc (.cells #[.int .i64 x, .int .i64 y, .int .i64 z] 106)).cell? ⟨wr.heap.size, 0, none⟩ = some (.int .i64 x) := by go_simp
      have y1 : (wr.alloc (.cells #[.int .i64 x, .int .i64 y, .int .i64 z] 106)).cell? ⟨wr.heap.size, 1, none⟩ = some (.int .i64 y) := by go_simp
      have y2 : (wr.alloc (.cells #[.int .i64 x, .int .i64 y, .int .i64 z] 106)).cell? ⟨wr.heap.size, 2, none⟩ = some (.int .i64 z) := by go_simp
      have HBLq := Lib.hid (blankP_kept hbq (show w.heap.size < wr.heap.size by omega) HBL.out)
      have HBq := Lib.hid (HBW.out.alloc HBW.out.size (.cells #[.int .i64 x, .int .i64 y, .int .i64 z] 106))
      have hsq : wr.heap.size + 1 = (wr.alloc (.cells #[.int .i64 x, .int .i64 y, .int .i64 z] 106)).heap.size := by simp
      have HOq := Lib.hid (HO.out.alloc (.cells #[.int .i64 x, .int .i64 y, .int .i64 z] 106))
      clear hbq hw1 HOa HBa HNW
      go_wp2
      clear e0 e1 e2 c0 c1 cf p0 p1
      generalize wr.alloc (.cells #[.int .i64 x, .int .i64 y, .int .i64 z] 106) = wq at *
      have hba : Below wq.heap.size wq (wq.alloc (.cells #[.int .i64 q1, .int .i64 q2, .int .i64 q3] 106)).drew := below_dr6 (below_al _ _)
      have HOd := Lib.hid (World.ownsRow.drew (HOq.out.alloc (.cells #[.int .i64 q1, .int .i64 q2, .int .i64 q3] 106)))
      have hl1 : w.heap.size + 1 < wq.heap.size := by omega
      have hl2 : wr.heap.size < wq.heap.size := by omega
      have hwq : w.heap.size + 2 ≤ wq.heap.size := by omega
      have a0' := (below_cell hba _ _ hl1).trans a0
      have a1' := (below_cell hba _ _ hl1).trans a1
      have af' := (below_frozen hba _ _ hl1).trans af
      have HBLa := Lib.hid (blankP_kept hba (show w.heap.size < wq.heap.size by omega) HBLq.out)
      have HBa := Lib.hid (below_of HBq.out hba HBq.out.size)
      have hsa : w.heap.size + 2 ≤ (wq.alloc (.cells #[.int .i64 q1, .int .i64 q2, .int .i64 q3] 106)).drew.heap.size := Nat.le_trans hwq hba.size
      have hfar : w.heap.size + 1 ≠ wr.heap.size := by omega
      have a1n : (wq.alloc (.cells #[.int .i64 q1, .int .i64 q2, .int .i64 q3] 106)).cell? ⟨w.heap.size + 1, 1, none⟩ = some v := a1'
      have a1d : wq.drew.cell? ⟨w.heap.size + 1, 1, none⟩ = some v := a1
      have HY := Lib.hid (show wq.cell? ⟨wr.heap.size, 0, none⟩ = some (.int .i64 x) ∧ wq.cell? ⟨wr.heap.size, 1, none⟩ = some (.int .i64 y) ∧ wq.cell? ⟨wr.heap.size, 2, none⟩ = some (.int .i64 z) from ⟨y0, y1, y2⟩)
      have HYa := Lib.hid (k3s_al HY.out (.cells #[.int .i64 q1, .int .i64 q2, .int .i64 q3] 106))
      have HAFT := Lib.hid (show ∀ (g3 cap3 : Nat) (w3 : World), w3.ownsRow (w.heap.size + 2) 106 3 (.slice (some ⟨g3, 0, none⟩) (k + 1) cap3) (k + 1) (i64s (flat ((szL rs num den).take k)) ++ i64s (flat [(q1, q2, q3)])) → (wq.alloc (.cells #[.int .i64 q1, .int .i64 q2, .int .i64 q3] 106)).drew.grownBy w3 v.ownBlock →
          w3.cell? ⟨w.heap.size + 1, 0, none⟩ = some (.string s) ∧ w3.cell? ⟨w.heap.size + 1, 1, none⟩ = some v ∧ w3.frozen? ⟨w.heap.size + 1, 1, none⟩ = false ∧ Hid (w3.cell? ⟨wr.heap.size, 0, none⟩ = some (.int .i64 x) ∧ w3.cell? ⟨wr.heap.size, 1, none⟩ = some (.int .i64 y) ∧ w3.cell? ⟨wr.heap.size, 2, none⟩ = some (.int .i64 z)) ∧ Hid (BlankP w3 w.heap.size) ∧ Hid (Below w.heap.size w w3) ∧ w.heap.size + 2 ≤ w3.heap.size ∧ Hid (w3.ownsRow (w.heap.size + 2) 106 3 (.slice (some ⟨g3, 0, none⟩) (k + 1) cap3) (k + 1) (i64s (flat ((szL rs num den).take (k + 1))))) ∧ w.heap.size + 2 ≤ g3 by
        intro g3 cap3 w3 hown3 hgrow3
        have hne : some (w.heap.size + 1) ≠ v.ownBlock := fun e => by have := (HOd.out.lt _ e.symm).1; omega
        have hnr : some wr.heap.size ≠ v.ownBlock := fun e => by have := (HOr.out.lt _ e.symm).2; omega
        have hne0 : some w.heap.size ≠ v.ownBlock := fun e => by have := (HOd.out.lt _ e.symm).1; omega
        have t0 := (gb_cell hgrow3 (w.heap.size + 1) 0 (Nat.lt_of_lt_of_le hl1 hba.size) hne).trans a0'
        have t1 := (gb_cell hgrow3 (w.heap.size + 1) 1 (Nat.lt_of_lt_of_le hl1 hba.size) hne).trans a1'
        have tf : w3.frozen? ⟨w.heap.size + 1, 1, none⟩ = false := (World.frozen?_of_block (hgrow3.block _ (Nat.lt_of_lt_of_le hl1 hba.size) hne)).trans af'
        have s0 := (gb_cell hgrow3 wr.heap.size 0 (Nat.lt_of_lt_of_le hl2 hba.size) hnr).trans ((below_cell hba _ _ hl2).trans y0)
        have s1 := (gb_cell hgrow3 wr.heap.size 1 (Nat.lt_of_lt_of_le hl2 hba.size) hnr).trans ((below_cell hba _ _ hl2).trans y1)
        have s2 := (gb_cell hgrow3 wr.heap.size 2 (Nat.lt_of_lt_of_le hl2 hba.size) hnr).trans ((below_cell hba _ _ hl2).trans y2)
        have HBL3 := Lib.hid (blankP_gb hgrow3 (Nat.lt_of_lt_of_le (show w.heap.size < wq.heap.size by omega) hba.size) hne0 HBLa.out)
        have HB3 := Lib.hid (HBa.out.grown hgrow3 (Nat.le_trans (show w.heap.size ≤ w.heap.size + 2 by omega) hsa) (fun q hq => by have := (HOd.out.lt q hq).1; omega))
        have HO3 := Lib.hid (show w3.ownsRow (w.heap.size + 2) 106 3 (.slice (some ⟨g3, 0, none⟩) (k + 1) cap3) (k + 1) (i64s (flat ((szL rs num den).take (k + 1)))) from by rw [HX.out, HSZ.out]; exact hown3)
        exact ⟨t0, t1, tf, Lib.hid ⟨s0, s1, s2⟩, HBL3, HB3, Nat.le_trans hsa hgrow3.size, HO3, (hown3.lt _ rfl).1⟩)
      have HREL := Lib.hid (show ∀ (g3 cap3 : Nat) (w3 : World), w3.cell? ⟨w.heap.size + 1, 0, none⟩ = some (.string s) → w3.cell? ⟨w.heap.size + 1, 1, none⟩ = some v → w3.frozen? ⟨w.heap.size + 1, 1, none⟩ = false → Hid (BlankP w3 w.heap.size) → Hid (Below w.heap.size w w3) → w.heap.size + 2 ≤ w3.heap.size → Hid (w3.ownsRow (w.heap.size + 2) 106 3 (.slice (some ⟨g3, 0, none⟩) (k + 1) cap3) (k + 1) (i64s (flat ((szL rs num den).take (k + 1))))) →
          ((w3.setCell ⟨w.heap.size + 1, 1, none⟩ (.slice (some ⟨g3, 0, none⟩) (k + 1) cap3)).cell? ⟨w.heap.size + 1, 0, none⟩ = some (.string s) ∧ (w3.setCell ⟨w.heap.size + 1, 1, none⟩ (.slice (some ⟨g3, 0, none⟩) (k + 1) cap3)).cell? ⟨w.heap.size + 1, 1, none⟩ = some (.slice (some ⟨g3, 0, none⟩) (k + 1) cap3) ∧ (w3.setCell ⟨w.heap.size + 1, 1, none⟩ (.slice (some ⟨g3, 0, none⟩) (k + 1) cap3)).frozen? ⟨w.heap.size + 1, 1, none⟩ = false) ∧ Hid ((w3.setCell ⟨w.heap.size + 1, 1, none⟩ (.slice (some ⟨g3, 0, none⟩) (k + 1) cap3)).ownsRow (w.heap.size + 2) 106 3 (.slice (some ⟨g3, 0, none⟩) (k + 1) cap3) (k + 1) (i64s (flat ((szL rs num den).take (k + 1))))) ∧ Hid (BlankP (w3.setCell ⟨w.heap.size + 1, 1, none⟩ (.slice (some ⟨g3, 0, none⟩) (k + 1) cap3)) w.heap.size) ∧ Hid (Below w.heap.size w (w3.setCell ⟨w.heap.size + 1, 1, none⟩ (.slice (some ⟨g3, 0, none⟩) (k + 1) cap3))) ∧ w.heap.size + 2 ≤ (w3.setCell ⟨w.heap.size + 1, 1, none⟩ (.slice (some ⟨g3, 0, none⟩) (k + 1) cap3)).heap.size by
        intro g3 cap3 w3 t0 t1 tf HBL3 HB3 hs3 HO3
        have hg3 : w.heap.size + 2 ≤ g3 := (HO3.out.lt _ rfl).1
        exact ⟨⟨(World.cell?_setCell_other w3 _ _ _ (by simp)).trans t0, World.cell?_setCell_same' _ _ _ (by rw [t1]; rfl), by rw [World.frozen?_setCell]; exact tf⟩, Lib.hid (HO3.out.kept (gb_set _ _ (gb_refl w3 (some (w.heap.size + 1)))) (.inr (by simp [Value.ownBlock]; omega))), Lib.hid (blankP_gb (gb_set _ _ (gb_refl w3 (some (w.heap.size + 1)))) (by omega) (by simp) HBL3.out), Lib.hid (HB3.out.setCell (by show _ ≤ w.heap.size + 1; omega) _), by simpa using hs3⟩)
      refine wp_region_held_drew (S := fun w' => w'.cell? ⟨wr.heap.size, 0, none⟩ = some (.int .i64 x) ∧ w'.cell? ⟨wr.heap.size, 1, none⟩ = some (.int .i64 y) ∧ w'.cell? ⟨wr.heap.size, 2, none⟩ = some (.int .i64 z)) (by kernel_rfl) (HY.out) (fun hHeld => ?_)
      refine takeH 0 (some 31) (.pointer (some ⟨w.heap.size + 1, 1, none⟩)) hHeld rfl rfl (by rfl) (by kernel_rfl) (by kernel_rfl) (by kernel_rfl) (fun _ _ _ h => h) (fun wS hSw => ?_) ?_
      · (obtain ⟨u0, u1, u2⟩ := hSw; go_simp; try with_reducible rfl)
      simp only [Act.put, List.setIfInBounds_toArray, List.set_cons_zero, List.set_cons_succ]
      refine takeH 2 (some 33) (.pointer (some ⟨wr.heap.size, 0, none⟩)) hHeld rfl rfl (by rfl) (by kernel_rfl) (by kernel_rfl) (by kernel_rfl) (fun _ _ _ h => h) (fun wS hSw => ?_) ?_
      · (obtain ⟨u0, u1, u2⟩ := hSw; go_simp; try with_reducible rfl)
      simp only [Act.put, List.setIfInBounds_toArray, List.set_cons_zero, List.set_cons_succ]
      refine takeH 3 (some 34) (.int .i64 x) hHeld rfl rfl (by rfl) (by kernel_rfl) (by kernel_rfl) (by kernel_rfl) (fun _ _ _ h => h) (fun wS hSw => ?_) ?_
      · (obtain ⟨u0, u1, u2⟩ := hSw; go_simp; try with_reducible rfl)
      simp only [Act.put, List.setIfInBounds_toArray, List.set_cons_zero, List.set_cons_succ]
      refine takeH 4 (some 35) (.int .i64 num) hHeld rfl rfl (by rfl) (by kernel_rfl) (by kernel_rfl) (by kernel_rfl) (fun _ _ _ h => h) (fun wS hSw => ?_) ?_
      · (obtain ⟨u0, u1, u2⟩ := hSw; go_simp; try with_reducible rfl)
      simp only [Act.put, List.setIfInBounds_toArray, List.set_cons_zero, List.set_cons_succ]
      refine takeH 5 (some 36) (.int .i64 (x * num)) hHeld rfl rfl (by rfl) (by kernel_rfl) (by kernel_rfl) (by kernel_rfl) (fun _ _ _ h => h) (fun wS hSw => ?_) ?_
      · (obtain ⟨u0, u1, u2⟩ := hSw; go_simp; first | with_reducible rfl | simp only [HV1.out] | simp only [HW1.out])
      simp only [Act.put, List.setIfInBounds_toArray, List.set_cons_zero, List.set_cons_succ]
      refine takeH 6 (some 37) (.int .i64 den) hHeld rfl rfl (by rfl) (by kernel_rfl) (by kernel_rfl) (by kernel_rfl) (fun _ _ _ h => h) (fun wS hSw => ?_) ?_
      · (obtain ⟨u0, u1, u2⟩ := hSw; go_simp; try with_reducible rfl)
      simp only [Act.put, List.setIfInBounds_toArray, List.set_cons_zero, List.set_cons_succ]
      refine takeH 8 (some 39) (.pointer (some ⟨wr.heap.size, 1, none⟩)) hHeld rfl rfl (by rfl) (by kernel_rfl) (by kernel_rfl) (by kernel_rfl) (fun _ _ _ h => h) (fun wS hSw => ?_) ?_
      · (obtain ⟨u0, u1, u2⟩ := hSw; go_simp; try with_reducible rfl)
      simp only [Act.put, List.setIfInBounds_toArray, List.set_cons_zero, List.set_cons_succ]
      refine takeH 9 (some 40) (.int .i64 y) hHeld rfl rfl (by rfl) (by kernel_rfl) (by kernel_rfl) (by kernel_rfl) (fun _ _ _ h => h) (fun wS hSw => ?_) ?_
      · (obtain ⟨u0, u1, u2⟩ := hSw; go_simp; try with_reducible rfl)
      simp only [Act.put, List.setIfInBounds_toArray, List.set_cons_zero, List.set_cons_succ]
      refine takeH 10 (some 41) (.int .i64 num) hHeld rfl rfl (by rfl) (by kernel_rfl) (by kernel_rfl) (by kernel_rfl) (fun _ _ _ h => h) (fun wS hSw => ?_) ?_
      · (obtain ⟨u0, u1, u2⟩ := hSw; go_simp; try with_reducible rfl)
      simp only [Act.put, List.setIfInBounds_toArray, List.set_cons_zero, List.set_cons_succ]
      refine takeH 11 (some 42) (.int .i64 (y * num)) hHeld rfl rfl (by rfl) (by kernel_rfl) (by kernel_rfl) (by kernel_rfl) (fun _ _ _ h => h) (fun wS hSw => ?_) ?_
      · (obtain ⟨u0, u1, u2⟩ := hSw; go_simp; first | with_reducible rfl | simp only [HV2.out] | simp only [HW2.out])
      simp only [Act.put, List.setIfInBounds_toArray, List.set_cons_zero, List.set_cons_succ]
      refine takeH 12 (some 43) (.int .i64 den) hHeld rfl rfl (by rfl) (by kernel_rfl) (by kernel_rfl) (by kernel_rfl) (fun _ _ _ h => h) (fun wS hSw => ?_) ?_
      · (obtain ⟨u0, u1, u2⟩ := hSw; go_simp; try with_reducible rfl)
      simp only [Act.put, List.setIfInBounds_toArray, List.set_cons_zero, List.set_cons_succ]
      refine takeH 14 (some 45) (.pointer (some ⟨wr.heap.size, 2, none⟩)) hHeld rfl rfl (by rfl) (by kernel_rfl) (by kernel_rfl) (by kernel_rfl) (fun _ _ _ h => h) (fun wS hSw => ?_) ?_
      · (obtain ⟨u0, u1, u2⟩ := hSw; go_simp; try with_reducible rfl)
      simp only [Act.put, List.setIfInBounds_toArray, List.set_cons_zero, List.set_cons_succ]
      refine takeH 15 (some 46) (.int .i64 z) hHeld rfl rfl (by rfl) (by kernel_rfl) (by kernel_rfl) (by kernel_rfl) (fun _ _ _ h => h) (fun wS hSw => ?_) ?_
      · (obtain ⟨u0, u1, u2⟩ := hSw; go_simp; try with_reducible rfl)
      simp only [Act.put, List.setIfInBounds_toArray, List.set_cons_zero, List.set_cons_succ]
      refine takeH 16 (some 47) (.int .i64 num) hHeld rfl rfl (by rfl) (by kernel_rfl) (by kernel_rfl) (by kernel_rfl) (fun _ _ _ h => h) (fun wS hSw => ?_) ?_
      · (obtain ⟨u0, u1, u2⟩ := hSw; go_simp; try with_reducible rfl)
      simp only [Act.put, List.setIfInBounds_toArray, List.set_cons_zero, List.set_cons_succ]
      refine takeH 17 (some 48) (.int .i64 (z * num)) hHeld rfl rfl (by rfl) (by kernel_rfl) (by kernel_rfl) (by kernel_rfl) (fun _ _ _ h => h) (fun wS hSw => ?_) ?_
      · (obtain ⟨u0, u1, u2⟩ := hSw; go_simp; first | with_reducible rfl | simp only [HV3.out] | simp only [HW3.out])
      simp only [Act.put, List.setIfInBounds_toArray, List.set_cons_zero, List.set_cons_succ]
      refine takeH 18 (some 49) (.int .i64 den) hHeld rfl rfl (by rfl) (by kernel_rfl) (by kernel_rfl) (by kernel_rfl) (fun _ _ _ h => h) (fun wS hSw => ?_) ?_
      · (obtain ⟨u0, u1, u2⟩ := hSw; go_simp; try with_reducible rfl)
      simp only [Act.put, List.setIfInBounds_toArray, List.set_cons_zero, List.set_cons_succ]
      refine wpAnyH_ready (rs := [1, 7]) (by kernel_rfl) (by simp) ?_
      refine AllReadyH.cons rfl (fun K hK => ?_) ?_
      · go_simp
        refine hK.out _ _ hHeld (fun hH2 => ?_)
        clear hK K hH2
        refine wpAnyH_ready (rs := [7]) (by kernel_rfl) (by simp) ?_
        refine AllReadyH.cons rfl (fun K hK => ?_) ?_
        · go_simp
          go_at_call 75
          refine (HT1.out _ _ (by first | exact HV1.out | rfl | exact HW1.out)).mono ?_
          rintro e w' ⟨rfl, rfl⟩
          refine hK.out _ _ hHeld (fun hH2 => ?_)
          clear hK K hH2
          refine wpAnyH_ready (rs := [13]) (by kernel_rfl) (by simp) ?_
          refine AllReadyH.cons rfl (fun K hK => ?_) ?_
          · go_simp
            go_at_call 75
            refine (HT2.out _ _ (by first | exact HV2.out | rfl | exact HW2.out)).mono ?_
            rintro e w' ⟨rfl, rfl⟩
            refine hK.out _ _ hHeld (fun hH2 => ?_)
            clear hK K hH2
            refine wpAnyH_ready (rs := [19]) (by kernel_rfl) (by simp) ?_
            refine AllReadyH.cons rfl (fun K hK => ?_) ?_
            · go_simp
              go_at_call 75
              refine (HT3.out _ _ (by first | exact HV3.out | rfl | exact HW3.out)).mono ?_
              rintro e w' ⟨rfl, rfl⟩
              refine hK.out _ _ hHeld (fun hH2 => ?_)
              clear hK K hH2
              refine takeH 20 (some 51) (.agg #[.int .i64 q1, .int .i64 q2, .int .i64 q3]) hHeld rfl rfl (by rfl) (by kernel_rfl) (by kernel_rfl) (by kernel_rfl) (fun _ _ _ h => h) (fun wS hSw => ?_) ?_
              · (obtain ⟨u0, u1, u2⟩ := hSw; go_simp; try with_reducible rfl)
              simp only [Act.put, List.setIfInBounds_toArray, List.set_cons_zero, List.set_cons_succ]
              refine wpAnyH_ready (rs := [21]) (by kernel_rfl) (by simp) ?_
              refine AllReadyH.cons rfl (fun K hK => ?_) ?_
              · go_simp
                refine hK.out _ _ HYa.out (fun hH2 => ?_)
                clear hK K hHeld
                have hHeld := hH2
                clear hH2
                refine wpAnyH_ready (rs := [22]) (by kernel_rfl) (by simp) (AllReadyH.cons rfl (fun K hK => ?_) AllReadyH.nil)
                refine step_append_lies _ rfl (.tmp 32) (.tmp 52) 28 rfl (w.heap.size + 2) 106 i0 _ 3 24 Try.underlying28 hi hz0 hz1 hz2 rfl (by decide) v k (i64s (flat ((szL rs num den).take k))) (by simp [Act.eval]) HOd.out ⟨wq.heap.size, 0, none⟩ 1 1 (i64s (flat [(q1, q2, q3)])) (by simp [Act.eval]) rfl (news3 (w := wq)) (one_i64s _) (by decide) (by unfold maxLen; omega) (by omega) hsa _ rfl ?_
                intro g3 cap3 w3 hown3 hgrow3 hat3 hlt3
                obtain ⟨t0, t1, tf, hS3, HBL3, HB3, hs3, HO3, hg3⟩ := HAFT.out g3 cap3 w3 hown3 hgrow3
                clear hown3 hgrow3 hat3
                refine hK.out _ _ hS3.out (fun hH3 => ?_)
                clear hK K hHeld
                have hHeld := hH3
                clear hH3
                try simp only [Act.put, List.setIfInBounds_toArray]
                refine takeH 23 (some 54) (.pointer (some ⟨w.heap.size + 1, 1, none⟩)) hHeld rfl rfl (by rfl) (by kernel_rfl) (by kernel_rfl) (by kernel_rfl) (fun _ _ _ h => h) (fun wS hSw => ?_) ?_
                · (obtain ⟨u0, u1, u2⟩ := hSw; go_simp; try with_reducible rfl)
                simp only [Act.put]
                refine wpAnyH_ready (rs := [24]) (by kernel_rfl) (by simp) (AllReadyH.cons rfl (fun K hK => ?_) AllReadyH.nil)
                go_simp
                refine hK.out _ _ (k3s_st hS3.out _ _ hfar) (fun hH4 => ?_)
                clear hK K hH4
                refine wpAnyH_done (by kernel_rfl) ?_ _
                go_wp2
                go_roundw
                case rel => exact ⟨k + 1, _, by omega, by go_num, HREL.out g3 cap3 w3 t0 t1 tf HBL3 HB3 hs3 HO3⟩
                case measure => simp [intOf]; omega
              exact AllReadyH.nil
            exact AllReadyH.nil
          exact AllReadyH.nil
        exact AllReadyH.nil
      refine AllReadyH.cons rfl (fun K hK => ?_) ?_
      · go_simp
        go_at_call 75
        refine (HT1.out _ _ (by first | exact HV1.out | rfl | exact HW1.out)).mono ?_
        rintro e w' ⟨rfl, rfl⟩
        refine hK.out _ _ hHeld (fun hH2 => ?_)
        clear hK K hH2
        refine wpAnyH_ready (rs := [1, 13]) (by kernel_rfl) (by simp) ?_
        refine AllReadyH.cons rfl (fun K hK => ?_) ?_
        · go_simp
          refine hK.out _ _ hHeld (fun hH2 => ?_)
          clear hK K hH2
          refine wpAnyH_ready (rs := [13]) (by kernel_rfl) (by simp) ?_
          refine AllReadyH.cons rfl (fun K hK => ?_) ?_
          · go_simp
            go_at_call 75
            refine (HT2.out _ _ (by first | exact HV2.out | rfl | exact HW2.out)).mono ?_
            rintro e w' ⟨rfl, rfl⟩
            refine hK.out _ _ hHeld (fun hH2 => ?_)
            clear hK K hH2
            refine wpAnyH_ready (rs := [19]) (by kernel_rfl) (by simp) ?_
            refine AllReadyH.cons rfl (fun K hK => ?_) ?_
            · go_simp
              go_at_call 75
              refine (HT3.out _ _ (by first | exact HV3.out | rfl | exact HW3.out)).mono ?_
              rintro e w' ⟨rfl, rfl⟩
              refine hK.out _ _ hHeld (fun hH2 => ?_)
              clear hK K hH2
              refine takeH 20 (some 51) (.agg #[.int .i64 q1, .int .i64 q2, .int .i64 q3]) hHeld rfl rfl (by rfl) (by kernel_rfl) (by kernel_rfl) (by kernel_rfl) (fun _ _ _ h => h) (fun wS hSw => ?_) ?_
              · (obtain ⟨u0, u1, u2⟩ := hSw; go_simp; try with_reducible rfl)
              simp only [Act.put, List.setIfInBounds_toArray, List.set_cons_zero, List.set_cons_succ]
              refine wpAnyH_ready (rs := [21]) (by kernel_rfl) (by simp) ?_
              refine AllReadyH.cons rfl (fun K hK => ?_) ?_
              · go_simp
                refine hK.out _ _ HYa.out (fun hH2 => ?_)
                clear hK K hHeld
                have hHeld := hH2
                clear hH2
                refine wpAnyH_ready (rs := [22]) (by kernel_rfl) (by simp) (AllReadyH.cons rfl (fun K hK => ?_) AllReadyH.nil)
                refine step_append_lies _ rfl (.tmp 32) (.tmp 52) 28 rfl (w.heap.size + 2) 106 i0 _ 3 24 Try.underlying28 hi hz0 hz1 hz2 rfl (by decide) v k (i64s (flat ((szL rs num den).take k))) (by simp [Act.eval]) HOd.out ⟨wq.heap.size, 0, none⟩ 1 1 (i64s (flat [(q1, q2, q3)])) (by simp [Act.eval]) rfl (news3 (w := wq)) (one_i64s _) (by decide) (by unfold maxLen; omega) (by omega) hsa _ rfl ?_
                intro g3 cap3 w3 hown3 hgrow3 hat3 hlt3
                obtain ⟨t0, t1, tf, hS3, HBL3, HB3, hs3, HO3, hg3⟩ := HAFT.out g3 cap3 w3 hown3 hgrow3
                clear hown3 hgrow3 hat3
                refine hK.out _ _ hS3.out (fun hH3 => ?_)
                clear hK K hHeld
                have hHeld := hH3
                clear hH3
                try simp only [Act.put, List.setIfInBounds_toArray]
                refine takeH 23 (some 54) (.pointer (some ⟨w.heap.size + 1, 1, none⟩)) hHeld rfl rfl (by rfl) (by kernel_rfl) (by kernel_rfl) (by kernel_rfl) (fun _ _ _ h => h) (fun wS hSw => ?_) ?_
                · (obtain ⟨u0, u1, u2⟩ := hSw; go_simp; try with_reducible rfl)
                simp only [Act.put]
                refine wpAnyH_ready (rs := [24]) (by kernel_rfl) (by simp) (AllReadyH.cons rfl (fun K hK => ?_) AllReadyH.nil)
                go_simp
                refine hK.out _ _ (k3s_st hS3.out _ _ hfar) (fun hH4 => ?_)
                clear hK K hH4
                refine wpAnyH_done (by kernel_rfl) ?_ _
                go_wp2
                go_roundw
                case rel => exact ⟨k + 1, _, by omega, by go_num, HREL.out g3 cap3 w3 t0 t1 tf HBL3 HB3 hs3 HO3⟩
                case measure => simp [intOf]; omega
              exact AllReadyH.nil
            exact AllReadyH.nil
          exact AllReadyH.nil
        refine AllReadyH.cons rfl (fun K hK => ?_) ?_
        · go_simp
          go_at_call 75
          refine (HT2.out _ _ (by first | exact HV2.out | rfl | exact HW2.out)).mono ?_
          rintro e w' ⟨rfl, rfl⟩
          refine hK.out _ _ hHeld (fun hH2 => ?_)
          clear hK K hH2
          refine wpAnyH_ready (rs := [1, 19]) (by kernel_rfl) (by simp) ?_
          refine AllReadyH.cons rfl (fun K hK => ?_) ?_
          · go_simp
            refine hK.out _ _ hHeld (fun hH2 => ?_)
            clear hK K hH2
            refine wpAnyH_ready (rs := [19]) (by kernel_rfl) (by simp) ?_
            refine AllReadyH.cons rfl (fun K hK => ?_) ?_
            · go_simp
              go_at_call 75
              refine (HT3.out _ _ (by first | exact HV3.out | rfl | exact HW3.out)).mono ?_
              rintro e w' ⟨rfl, rfl⟩
              refine hK.out _ _ hHeld (fun hH2 => ?_)
              clear hK K hH2
              refine takeH 20 (some 51) (.agg #[.int .i64 q1, .int .i64 q2, .int .i64 q3]) hHeld rfl rfl (by rfl) (by kernel_rfl) (by kernel_rfl) (by kernel_rfl) (fun _ _ _ h => h) (fun wS hSw => ?_) ?_
              · (obtain ⟨u0, u1, u2⟩ := hSw; go_simp; try with_reducible rfl)
              simp only [Act.put, List.setIfInBounds_toArray, List.set_cons_zero, List.set_cons_succ]
              refine wpAnyH_ready (rs := [21]) (by kernel_rfl) (by simp) ?_
              refine AllReadyH.cons rfl (fun K hK => ?_) ?_
              · go_simp
                refine hK.out _ _ HYa.out (fun hH2 => ?_)
                clear hK K hHeld
                have hHeld := hH2
                clear hH2
                refine wpAnyH_ready (rs := [22]) (by kernel_rfl) (by simp) (AllReadyH.cons rfl (fun K hK => ?_) AllReadyH.nil)
                refine step_append_lies _ rfl (.tmp 32) (.tmp 52) 28 rfl (w.heap.size + 2) 106 i0 _ 3 24 Try.underlying28 hi hz0 hz1 hz2 rfl (by decide) v k (i64s (flat ((szL rs num den).take k))) (by simp [Act.eval]) HOd.out ⟨wq.heap.size, 0, none⟩ 1 1 (i64s (flat [(q1, q2, q3)])) (by simp [Act.eval]) rfl (news3 (w := wq)) (one_i64s _) (by decide) (by unfold maxLen; omega) (by omega) hsa _ rfl ?_
                intro g3 cap3 w3 hown3 hgrow3 hat3 hlt3
                obtain ⟨t0, t1, tf, hS3, HBL3, HB3, hs3, HO3, hg3⟩ := HAFT.out g3 cap3 w3 hown3 hgrow3
                clear hown3 hgrow3 hat3
                refine hK.out _ _ hS3.out (fun hH3 => ?_)
                clear hK K hHeld
                have hHeld := hH3
                clear hH3
                try simp only [Act.put, List.setIfInBounds_toArray]
                refine takeH 23 (some 54) (.pointer (some ⟨w.heap.size + 1, 1, none⟩)) hHeld rfl rfl (by rfl) (by kernel_rfl) (by kernel_rfl) (by kernel_rfl) (fun _ _ _ h => h) (fun wS hSw => ?_) ?_
                · (obtain ⟨u0, u1, u2⟩ := hSw; go_simp; try with_reducible rfl)
                simp only [Act.put]
                refine wpAnyH_ready (rs := [24]) (by kernel_rfl) (by simp) (AllReadyH.cons rfl (fun K hK => ?_) AllReadyH.nil)
                go_simp
                refine hK.out _ _ (k3s_st hS3.out _ _ hfar) (fun hH4 => ?_)
                clear hK K hH4
                refine wpAnyH_done (by kernel_rfl) ?_ _
                go_wp2
                go_roundw
                case rel => exact ⟨k + 1, _, by omega, by go_num, HREL.out g3 cap3 w3 t0 t1 tf HBL3 HB3 hs3 HO3⟩
                case measure => simp [intOf]; omega
              exact AllReadyH.nil
            exact AllReadyH.nil
          refine AllReadyH.cons rfl (fun K hK => ?_) ?_
          · go_simp
            go_at_call 75
            refine (HT3.out _ _ (by first | exact HV3.out | rfl | exact HW3.out)).mono ?_
            rintro e w' ⟨rfl, rfl⟩
            refine hK.out _ _ hHeld (fun hH2 => ?_)
            clear hK K hH2
            refine takeH 20 (some 51) (.agg #[.int .i64 q1, .int .i64 q2, .int .i64 q3]) hHeld rfl rfl (by rfl) (by kernel_rfl) (by kernel_rfl) (by kernel_rfl) (fun _ _ _ h => h) (fun wS hSw => ?_) ?_
            · (obtain ⟨u0, u1, u2⟩ := hSw; go_simp; try with_reducible rfl)
            simp only [Act.put, List.setIfInBounds_toArray, List.set_cons_zero, List.set_cons_succ]
            refine wpAnyH_ready (rs := [1, 21]) (by kernel_rfl) (by simp) ?_
            refine AllReadyH.cons rfl (fun K hK => ?_) ?_
            · go_simp
              refine hK.out _ _ hHeld (fun hH2 => ?_)
              clear hK K hH2
              refine wpAnyH_ready (rs := [21]) (by kernel_rfl) (by simp) ?_
              refine AllReadyH.cons rfl (fun K hK => ?_) ?_
              · go_simp
                refine hK.out _ _ HYa.out (fun hH2 => ?_)
                clear hK K hHeld
                have hHeld := hH2
                clear hH2
                refine wpAnyH_ready (rs := [22]) (by kernel_rfl) (by simp) (AllReadyH.cons rfl (fun K hK => ?_) AllReadyH.nil)
                refine step_append_lies _ rfl (.tmp 32) (.tmp 52) 28 rfl (w.heap.size + 2) 106 i0 _ 3 24 Try.underlying28 hi hz0 hz1 hz2 rfl (by decide) v k (i64s (flat ((szL rs num den).take k))) (by simp [Act.eval]) HOd.out ⟨wq.heap.size, 0, none⟩ 1 1 (i64s (flat [(q1, q2, q3)])) (by simp [Act.eval]) rfl (news3 (w := wq)) (one_i64s _) (by decide) (by unfold maxLen; omega) (by omega) hsa _ rfl ?_
                intro g3 cap3 w3 hown3 hgrow3 hat3 hlt3
                obtain ⟨t0, t1, tf, hS3, HBL3, HB3, hs3, HO3, hg3⟩ := HAFT.out g3 cap3 w3 hown3 hgrow3
                clear hown3 hgrow3 hat3
                refine hK.out _ _ hS3.out (fun hH3 => ?_)
                clear hK K hHeld
                have hHeld := hH3
                clear hH3
                try simp only [Act.put, List.setIfInBounds_toArray]
                refine takeH 23 (some 54) (.pointer (some ⟨w.heap.size + 1, 1, none⟩)) hHeld rfl rfl (by rfl) (by kernel_rfl) (by kernel_rfl) (by kernel_rfl) (fun _ _ _ h => h) (fun wS hSw => ?_) ?_
                · (obtain ⟨u0, u1, u2⟩ := hSw; go_simp; try with_reducible rfl)
                simp only [Act.put]
                refine wpAnyH_ready (rs := [24]) (by kernel_rfl) (by simp) (AllReadyH.cons rfl (fun K hK => ?_) AllReadyH.nil)
                go_simp
                refine hK.out _ _ (k3s_st hS3.out _ _ hfar) (fun hH4 => ?_)
                clear hK K hH4
                refine wpAnyH_done (by kernel_rfl) ?_ _
                go_wp2
                go_roundw
                case rel => exact ⟨k + 1, _, by omega, by go_num, HREL.out g3 cap3 w3 t0 t1 tf HBL3 HB3 hs3 HO3⟩
                case measure => simp [intOf]; omega
              exact AllReadyH.nil
            refine AllReadyH.cons rfl (fun K hK => ?_) ?_
            · go_simp
              refine hK.out _ _ HYa.out (fun hH2 => ?_)
              clear hK K hHeld
              have hHeld := hH2
              clear hH2
              refine wpAnyH_ready (rs := [1]) (by kernel_rfl) (by simp) ?_
              refine AllReadyH.cons rfl (fun K hK => ?_) ?_
              · go_simp
                refine hK.out _ _ hHeld (fun hH2 => ?_)
                clear hK K hH2
                refine wpAnyH_ready (rs := [22]) (by kernel_rfl) (by simp) (AllReadyH.cons rfl (fun K hK => ?_) AllReadyH.nil)
                refine step_append_lies _ rfl (.tmp 32) (.tmp 52) 28 rfl (w.heap.size + 2) 106 i0 _ 3 24 Try.underlying28 hi hz0 hz1 hz2 rfl (by decide) v k (i64s (flat ((szL rs num den).take k))) (by simp [Act.eval]) HOd.out ⟨wq.heap.size, 0, none⟩ 1 1 (i64s (flat [(q1, q2, q3)])) (by simp [Act.eval]) rfl (news3 (w := wq)) (one_i64s _) (by decide) (by unfold maxLen; omega) (by omega) hsa _ rfl ?_
                intro g3 cap3 w3 hown3 hgrow3 hat3 hlt3
                obtain ⟨t0, t1, tf, hS3, HBL3, HB3, hs3, HO3, hg3⟩ := HAFT.out g3 cap3 w3 hown3 hgrow3
                clear hown3 hgrow3 hat3
                refine hK.out _ _ hS3.out (fun hH3 => ?_)
                clear hK K hHeld
                have hHeld := hH3
                clear hH3
                try simp only [Act.put, List.setIfInBounds_toArray]
                refine takeH 23 (some 54) (.pointer (some ⟨w.heap.size + 1, 1, none⟩)) hHeld rfl rfl (by rfl) (by kernel_rfl) (by kernel_rfl) (by kernel_rfl) (fun _ _ _ h => h) (fun wS hSw => ?_) ?_
                · (obtain ⟨u0, u1, u2⟩ := hSw; go_simp; try with_reducible rfl)
                simp only [Act.put]
                refine wpAnyH_ready (rs := [24]) (by kernel_rfl) (by simp) (AllReadyH.cons rfl (fun K hK => ?_) AllReadyH.nil)
                go_simp
                refine hK.out _ _ (k3s_st hS3.out _ _ hfar) (fun hH4 => ?_)
                clear hK K hH4
                refine wpAnyH_done (by kernel_rfl) ?_ _
                go_wp2
                go_roundw
                case rel => exact ⟨k + 1, _, by omega, by go_num, HREL.out g3 cap3 w3 t0 t1 tf HBL3 HB3 hs3 HO3⟩
                case measure => simp [intOf]; omega
              exact AllReadyH.nil
            exact AllReadyH.nil
          exact AllReadyH.nil
        exact AllReadyH.nil
      exact AllReadyH.nil
    · obtain rfl : k = n := by omega
      have hown := HO.out
      rw [List.take_of_length_le (by rw [HLL.out, HN.out]; exact Nat.le_refl _)] at hown
      obtain ⟨g5, cap5, rfl, -, -⟩ := hown.form (by omega)
      have hg5 := (hown.lt _ rfl).1
      have HOF := Lib.hid hown
      obtain ⟨⟨b0, b1⟩, f0, f1⟩ := HBL.out
      clear hown
      go_wp2
      try simp only [Exit.inBlock, Exit.then]
      refine bodyPost_ret_by (v := .agg #[.string s, .slice (some ⟨g5, 0, none⟩) k cap5]) (by rw [results_cell1 rfl]; go_simp) rfl ?_
      refine ⟨g5, cap5, rfl, by omega, ?_, (HBW.out.setCell (by show _ ≤ w.heap.size; omega) _).setCell (by show _ ≤ w.heap.size; omega) _⟩
      exact row_baseR ((HOF.out.kept (gb_set _ _ (gb_refl wr (some w.heap.size))) (.inr (by simp [Value.ownBlock]; omega))).kept (gb_set _ _ (gb_refl _ (some w.heap.size))) (.inr (by simp [Value.ownBlock]; omega))) (by omega)
end Go.Proofs.Ytndmakimkghihab
