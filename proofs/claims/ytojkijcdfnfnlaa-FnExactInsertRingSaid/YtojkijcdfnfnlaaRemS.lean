/- RemoveRing: the reference model's walk. -/
import Derived.Test.YtojkijcdfnfnlaaRemI
import Derived.Maps.AppendAt
set_option linter.unusedVariables false
namespace Go.Proofs.Ytojkijcdfnfnlaa
open Go.ChangeShapes Go.WideShapes Go.ChangeAt Go.RowKit

/-- A slice of rings whose capacity is not less than its length. -/
def RingsC (w : World) (v : Value) (rs : List Rg) : Prop := RingsAt w v rs ∧ ∃ a c, v = .slice a rs.length c ∧ rs.length ≤ c
theorem rv_ringsC {w : World} {B : Nat} {v : Value} {zs : List Rg} (hl : zs.length ≤ 1048576) (h : Rv w B v zs) : RingsC w v zs := by
  refine ⟨rv_rings hl h, ?_⟩
  rcases h with ⟨rfl, rfl⟩ | ⟨g, cap, rfl, h2, h4⟩
  · exact ⟨_, _, rfl, by simp⟩
  · obtain ⟨X, h1, h2, h3, h5, -⟩ := rowAt_of h4
    exact ⟨_, _, rfl, h5⟩
section
variable {P : Program} {w : World}
theorem step_append_own {ops : Array Oper} {o : Oper} {a : Act} {K : Act → World → Prop} {Q : Exit → Act → World → Prop} {E : Prop} (hgd : o.guard = none) (s x : Operand) (t : TypeId)
    (ho : o.op = .call { callee := .builtin .append, args := #[s, x], argTypes := #[t, t] })
    (base : Nat) (e : TypeId) (i : TypeInfo) (z : Value) (size bytes : Nat) (ht : P.underlying t = some (.slice e)) (hi : P.info? e = some i) (hz : i.zero = some z)
    (hsize : i.size = size) (hby : i.bytes = bytes) (hzs : z.cells.size = size) (hsz : 0 < size)
    (v : Value) (n : Nat) (xs : List Value) (hs : a.eval s = v) (hown : w.ownsRow base e size v n xs)
    (ad : Addr) (m c : Nat) (news : List Value) (hx : a.eval x = .slice (some ad) m c) (hl : news.length = m * size) (hnews : ∀ j u, news[j]? = some u → w.cell? (ad.add j) = some u) (h1 : ∀ u ∈ news, u.oneCell' = true)
    (h63 : n + m ≤ maxLen) (hbytes : (n + m) * bytes ≤ 140737488355328) (hbase : base ≤ w.heap.size)
    (h : ∀ v' w', w'.ownsRow base e size v' (n + m) (xs ++ news) → w.grownBy w' v.ownBlock → (v' = .slice none 0 0 ↔ v = .slice none 0 0 ∧ m = 0) → (v'.ownBlock = v.ownBlock ∨ v'.ownBlock = some w.heap.size) → K (a.put o.dst v') w') :
    if Region.wanted o (yielded ops a.tmps) = true then Oper.wp P o a w K Q else E := by
  have hw : Region.wanted o (yielded ops a.tmps) = true := by simp [Region.wanted, hgd]
  rw [if_pos hw]
  obtain ⟨v', w', hr, h2, h3, h4, h5⟩ := run_append_own_at (P := P) w base t o.type e i z size bytes ht hi hz hsize hby hzs hsz v n xs hown ad m c news hl hnews h1 h63 hbytes hbase
  unfold Oper.wp execOp
  simp only [ho, resolve, invoke, builtin, Sem.run_bind, Sem.run_pure, Result.andThen_ok, List.map_toArray, List.map_cons, List.map_nil, hs, hx, hr]
  exact h v' w' h2 h3 h4 h5
end
theorem apart_n {b g n c : Nat} (h : b ≠ g) : some b ≠ (Value.slice (some ⟨g, 0, none⟩) n c).ownBlock := by simpa [Value.ownBlock] using h
theorem own_slice {w : World} {B : Nat} {v : Value} {n : Nat} {xs : List Value} (h : w.ownsRow B 25 3 v n xs) (hne : ¬ v = .slice none 0 0) : ∃ g cap, v = .slice (some ⟨g, 0, none⟩) n cap ∧ B ≤ g ∧ g < w.heap.size := by
  rcases h.2 with ⟨e, _⟩ | ⟨g, cap, cur, e, hb, hg, _⟩
  · exact absurd e hne
  · exact ⟨g, cap, e, hb, (Array.getElem?_eq_some_iff.1 hg).1⟩
set_option maxRecDepth 20000 in
set_option maxHeartbeats 4000000 in
theorem specRemove_main (s : ByteArray) (b off n c : Nat) (rs : List Rg) (k : Nat) (w : World) (hn : Hid (rs.length = n)) (h1 : 1 ≤ n) (h32 : n ≤ 32) (hnc : n ≤ c) (hk : k < n) (HI : Hid (RingsAt w (.slice (some ⟨b, off, none⟩) n c) rs)) (hs : s.size ≤ maxLen) (HP : Hid (profB s rs = true)) (HK : Hid (inB (k : Int) 0 (n - 1) = true)) :
    Calls Try.prog 40 #[.agg #[.string s, .slice (some ⟨b, off, none⟩) n c], .int .i64 k] w (ProfU (resS s (resC s (remR rs k))) (resL (remR rs k) (resC s (remR rs k))) (resC s (remR rs k)) w) := by
  obtain ⟨i0, hi, hz0, hz1, hz2⟩ := info_parts infoRing
  have hBA := ((Below.refl w.heap.size w).alloc (Nat.le_refl _) (.cells #[.string s, .slice (some ⟨b, off, none⟩) n c] 35)).alloc (by simp) (.cells #[.string ⟨#[]⟩, .slice none 0 0] 35)
  have z0 : ((w.alloc (.cells #[.string s, .slice (some ⟨b, off, none⟩) n c] 35)).alloc (.cells #[.string ⟨#[]⟩, .slice none 0 0] 35)).cell? ⟨w.heap.size, 0, none⟩ = some (.string s) := by go_simp
  have z1 : ((w.alloc (.cells #[.string s, .slice (some ⟨b, off, none⟩) n c] 35)).alloc (.cells #[.string ⟨#[]⟩, .slice none 0 0] 35)).cell? ⟨w.heap.size, 1, none⟩ = some (.slice (some ⟨b, off, none⟩) n c) := by go_simp
  have hbl : BlankP ((w.alloc (.cells #[.string s, .slice (some ⟨b, off, none⟩) n c] 35)).alloc (.cells #[.string ⟨#[]⟩, .slice none 0 0] 35)) (w.heap.size + 1) := ⟨⟨by go_simp, by go_simp⟩, by go_simp, by go_simp⟩
  have hl1 : w.heap.size + 1 < ((w.alloc (.cells #[.string s, .slice (some ⟨b, off, none⟩) n c] 35)).alloc (.cells #[.string ⟨#[]⟩, .slice none 0 0] 35)).heap.size := by simp
  have HBA := Lib.hid hBA
  have HIA := Lib.hid (rings_kept hBA HI.out)
  go_enter Try.func40, Try.ntmps40
  go_wp2_with fail
  clear hBA
  generalize ((w.alloc (.cells #[.string s, .slice (some ⟨b, off, none⟩) n c] 35)).alloc (.cells #[.string ⟨#[]⟩, .slice none 0 0] 35)) = wA at *
  refine (l05Ok_any _ s _ rs _ ⟨z0, z1⟩ HIA.out hs).mono ?_
  rintro e w1 ⟨rfl, hb⟩
  rw [HP.out]
  have q0 := (below_cell hb _ _ (by omega)).trans z0
  have q1 := (below_cell hb _ _ (by omega)).trans z1
  have HBL := Lib.hid (blankP_kept hb hl1 hbl)
  have hl2 := Nat.lt_of_lt_of_le hl1 hb.size
  have HI1 := Lib.hid (rings_kept hb HIA.out)
  have HB := Lib.hid (below_of HBA.out hb HBA.out.size)
  clear hb hbl z0 z1
  go_wp2_with fail
  refine (l00In_any (k : Int) 0 ((n : Int) - 1) _).mono ?_
  rintro e w2 ⟨rfl, rfl⟩
  rw [HK.out]
  have hal := below_al w1 (.cells #[] 25)
  have p0 := (below_cell hal _ _ (show w.heap.size < _ by omega)).trans q0
  have p1 := (below_cell hal _ _ (show w.heap.size < _ by omega)).trans q1
  have hH : w.heap.size ≤ w1.heap.size := HB.out.size
  have HW0 := Lib.hid (World.ownsRow_made (base := w1.heap.size) (e := 25) (size := 3) w1 #[] 0 (Nat.le_refl _) (by unfold maxLen; omega) rfl)
  have HI2 := Lib.hid (rings_kept hal HI1.out)
  have hl3 := Nat.lt_of_lt_of_le hl2 hal.size
  have HBL2 := Lib.hid (blankP_kept hal hl2 HBL.out)
  have HB2 := Lib.hid (HB.out.alloc HB.out.size (.cells #[] 25))
  have hsz2 : w1.heap.size ≤ (w1.alloc (.cells #[] 25)).heap.size := hal.size
  have hft : (i64s (flat (rs.take k))).length = k * 3 := by rw [i64s_length, flat_len, List.length_take, hn.out]; omega
  have HFT := Lib.hid hft
  have HSRC := Lib.hid (show ∀ j u, (i64s (flat (rs.take k)))[j]? = some u → (w1.alloc (.cells #[] 25)).cell? ((⟨b, off, none⟩ : Addr).add j) = some u from fun j u hj => by
    have hjl : j < k * 3 := by rw [← hft]; exact (List.getElem?_eq_some_iff.1 hj).1
    obtain ⟨_, ⟨a', c', e', h0⟩ | ⟨b', off', cap', e', hbl', hc'⟩⟩ := HI2.out
    · have := hn.out; rw [h0] at this; simp at this; omega
    · simp only [Value.slice.injEq, Option.some.injEq, Addr.mk.injEq] at e'
      obtain ⟨⟨rfl, rfl, -⟩, -, -⟩ := e'
      rw [addr_add, hc' j (by rw [hn.out]; omega)]
      rw [← flat_take, ← i64s_take, List.getElem?_take, if_pos hjl, i64s_get _ j (by rw [flat_len, hn.out]; omega)] at hj
      exact hj)
  have hkc : (k : Int) ≤ (c : Int) := by omega
  have hk0 : (0 : Int) ≤ (k : Int) := by omega
  clear q0 q1 hal hft
  go_wp2_with (at_builtin; refine wpList_append_own_at _ rfl _ _ 33 rfl w1.heap.size 25 i0 _ 3 24 Try.underlying33 hi hz0 hz1 hz2 rfl (by omega) _ 0 [] rfl HW0.out ⟨b, off, none⟩ k c (i64s (flat (rs.take k))) rfl HFT.out HSRC.out (one_i64s _) (by unfold maxLen; omega) (by omega) hsz2 ?_; intro v3 w3 hown3 hgrow3 hnil3 hat3)
  obtain ⟨g3, c3, rfl, hg3, hg3l⟩ := own_slice hown3 (fun e => by have := (hnil3.1 e).1; cases this)
  rw [List.nil_append, Nat.zero_add] at hown3
  simp only [Nat.zero_add]
  have hgr3 : (w1.alloc (.cells #[] 25)).grownBy w3 (some w1.heap.size) := hgrow3
  have hb3 : Below w1.heap.size (w1.alloc (.cells #[] 25)) w3 := gb_below hgr3 hsz2 (fun q hq => by simp only [Option.some.injEq] at hq; omega)
  have r0 := (hb3.cell (p := ⟨w.heap.size, 0, none⟩) (show w.heap.size < w1.heap.size by omega)).trans p0
  have r1 := (hb3.cell (p := ⟨w.heap.size, 1, none⟩) (show w.heap.size < w1.heap.size by omega)).trans p1
  have HBL3 := Lib.hid (blankP_kept hb3 hl2 HBL2.out)
  have HB3 := Lib.hid (HB2.out.trans (hb3.mono hH))
  have HI3 := Lib.hid (show RingsAt w3 (.slice (some ⟨b, off, none⟩) n c) rs from by
    obtain ⟨hl', ⟨a', c', e', h0⟩ | ⟨b', off', cap', e', hbl', hc'⟩⟩ := HI1.out
    · have := hn.out; rw [h0] at this; simp at this; omega
    · refine ⟨hl', .inr ⟨b', off', cap', e', Nat.lt_of_lt_of_le hbl' (Nat.le_trans hsz2 hgr3.size), fun j hj => ?_⟩⟩
      rw [hb3.cell (p := ⟨b', off' + j, none⟩) hbl', below_cell (below_al w1 (.cells #[] 25)) _ _ hbl']
      exact hc' j hj)
  have HO3 := Lib.hid hown3
  have hbl3 : b < w3.heap.size := by
    obtain ⟨hl', ⟨a', c', e', h0⟩ | ⟨b', off', cap', e', hbl', hc'⟩⟩ := HI3.out
    · have := hn.out; rw [h0] at this; simp at this; omega
    · simp only [Value.slice.injEq, Option.some.injEq, Addr.mk.injEq] at e'
      obtain ⟨⟨rfl, rfl, -⟩, -, -⟩ := e'
      exact hbl'
  have hg3' : w1.heap.size ≤ g3 := hg3
  have hH3 : w1.heap.size ≤ w3.heap.size := Nat.le_trans hsz2 hgr3.size
  have HFD := Lib.hid (show (i64s (flat (rs.drop (k + 1)))).length = (n - (k + 1)) * 3 by rw [i64s_length, flat_len, List.length_drop, hn.out])
  clear hown3 hgrow3 hnil3 hat3 hb3 p0 p1 hsz2
  have hw1 : IntKind.i64.wrap ((k : Int) + 1) = (k : Int) + 1 := IntWalk.i64_in _ (by omega)
  have hi1 : (0 : Int) ≤ (k : Int) + 1 := by omega
  have hi2 : (k : Int) + 1 ≤ (n : Int) := by omega
  have htn : ((k : Int) + 1).toNat = k + 1 := by omega
  have hlt2 : ¬ (n < k + 1) := by omega
  obtain ⟨A, hA, hSR⟩ : ∃ A : Addr, (if c = k + 1 then (some ⟨b, off, none⟩ : Option Addr) else some ⟨b, off + (k + 1) * 3, none⟩) = some A ∧ (∀ w4 : World, (∀ o, w4.cell? ⟨b, o, none⟩ = w3.cell? ⟨b, o, none⟩) → ∀ j u, (i64s (flat (rs.drop (k + 1))))[j]? = some u → w4.cell? (A.add j) = some u) := by
    by_cases hcc : c = k + 1
    · refine ⟨⟨b, off, none⟩, by rw [if_pos hcc], fun w4 he j u hj => ?_⟩
      have hjl := (List.getElem?_eq_some_iff.1 hj).1
      rw [HFD.out] at hjl
      omega
    · refine ⟨⟨b, off + (k + 1) * 3, none⟩, by rw [if_neg hcc], fun w4 he j u hj => ?_⟩
      have hjl : j < (n - (k + 1)) * 3 := by rw [← HFD.out]; exact (List.getElem?_eq_some_iff.1 hj).1
      obtain ⟨_, ⟨a', c', e', h0⟩ | ⟨b', off', cap', e', hbl', hc'⟩⟩ := HI3.out
      · have := hn.out; rw [h0] at this; simp at this; omega
      · simp only [Value.slice.injEq, Option.some.injEq, Addr.mk.injEq] at e'
        obtain ⟨⟨rfl, rfl, -⟩, -, -⟩ := e'
        rw [addr_add, he, show off + (k + 1) * 3 + j = off + ((k + 1) * 3 + j) by omega, hc' _ (by rw [hn.out]; omega)]
        rw [← flat_drop, ← i64s_drop, List.getElem?_drop, i64s_get _ _ (by rw [flat_len, hn.out]; omega)] at hj
        exact hj
  have HSR := Lib.hid hSR
  clear hSR
  go_wp2
  have hz3 : w.heap.size < w3.heap.size := by omega
  have hl4 : w.heap.size + 1 < w3.heap.size := by omega
  go_region_held3 (fun w' => w'.cell? ⟨w.heap.size, 0, none⟩ = some (.string s) ∧ w'.cell? ⟨w.heap.size, 1, none⟩ = some (.slice (some ⟨b, off, none⟩) n c))
    (first | exact ⟨r0, r1⟩ | exact hk5 | exact k2_below hk5 hsz5 (below_al _ _) | exact k2_below (w := w3.drew) ⟨r0, r1⟩ hz3 (below_al _ _) | exact k2_set2 hk5 (show w.heap.size ≠ w3.heap.size by omega))
    ((refine step_append_own rfl _ _ 33 rfl w1.heap.size 25 i0 _ 3 24 Try.underlying33 hi hz0 hz1 hz2 rfl (by omega) (.slice (some ⟨g3, 0, none⟩) k c3) k (i64s (flat (rs.take k))) (by rfl) (by first | exact World.ownsRow.drew HO3.out | exact (World.ownsRow.drew HO3.out).alloc _) A (n - (k + 1)) (c - (k + 1)) (i64s (flat (rs.drop (k + 1)))) (by rfl) HFD.out (HSR.out _ (fun o => by first | rfl | exact below_cell (W := w3.drew) (below_al _ _) _ _ (show b < w3.heap.size from hbl3))) (one_i64s _) (by unfold maxLen; omega) (by omega) (by first | exact hH3 | (simp; omega)) ?_; intro v5 w5 hown5 hgrow5 hnil5 hat5; obtain ⟨g5, c5, rfl, hg5, hg5l⟩ := own_slice hown5 (fun e => by have := (hnil5.1 e).1; cases this); have hsz5 : w.heap.size < w5.heap.size := Nat.lt_of_lt_of_le (by first | exact hz3 | (simp; omega)) hgrow5.size; have hk5 : w5.cell? ⟨w.heap.size, 0, none⟩ = some (.string s) ∧ w5.cell? ⟨w.heap.size, 1, none⟩ = some (.slice (some ⟨b, off, none⟩) n c) := (by first | exact k2_gb (w := w3.drew) ⟨r0, r1⟩ hz3 hgrow5 (apart_n (by omega)) | exact k2_gb (k2_below (w := w3.drew) ⟨r0, r1⟩ hz3 (below_al _ _)) (Nat.lt_trans hz3 (alloc_lt2 w3.drew _)) hgrow5 (apart_n (by omega))); (first | (have hbk : BlankP w5 w3.heap.size := (by exact blankP_gb (w := w3.drew.alloc _) (g := w3.heap.size) hgrow5 (alloc_lt2 w3.drew _) (apart_n (by omega)) (blankP_alloc w3.drew _)); obtain ⟨⟨y0, y1⟩, y2, y3⟩ := hbk) | skip)))
  · have hm1 : (remR rs k).length = k + (n - (k + 1)) := by rw [remR_len rs k (by rw [hn.out]; exact hk), hn.out]; omega
    have hml : (remR rs k).length ≤ 1048576 := by rw [hm1]; omega
    have ho5 : w5.ownsRow w.heap.size 25 3 (.slice (some ⟨g5, 0, none⟩) (k + (n - (k + 1))) c5) (k + (n - (k + 1))) (i64s (flat (remR rs k))) := row_baseR (by unfold remR; rw [flat_append, i64s_app]; exact hown5) hH
    have hg5w : w.heap.size + 1 < g5 := by omega
    have hbl5 : BlankP w5 (w.heap.size + 1) := blankP_gb (w := w3.drew) hgrow5 hl4 (apart_n (by omega)) HBL3.out
    have hl5 : w.heap.size + 1 < w5.heap.size := Nat.lt_of_lt_of_le (show w.heap.size + 1 < w3.drew.heap.size from hl4) hgrow5.size
    have hB5 : Below w.heap.size w w5 := HB3.out.trans ((show Below w1.heap.size w3.drew w5 from gb_below hgrow5 hH3 (fun q hq => by simp only [Value.ownBlock, Option.some.injEq] at hq; omega)).mono hH |> fun h => ⟨h.os, h.tape, h.output, h.size, h.block⟩)
    clear hown5 hgrow5 hnil5 hat5 hsz5 hk5
    clear HFD HSR HSRC HFT HW0
    generalize k + (n - (k + 1)) = m at *
    have HM := Lib.hid hm1
    clear hm1
    have ho8 := ho5.alloc (.cells #[.string s, .slice (some ⟨g5, 0, none⟩) m c5] 35)
    have hp8 : ProfIn (w5.alloc (.cells #[.string s, .slice (some ⟨g5, 0, none⟩) m c5] 35)) w5.heap.size s (.slice (some ⟨g5, 0, none⟩) m c5) := prof_alloc _ _ _ _
    have hbl8 : BlankP (w5.alloc (.cells #[.string s, .slice (some ⟨g5, 0, none⟩) m c5] 35)) (w.heap.size + 1) := blankP_kept (below_al w5 _) hl5 hbl5
    have hl8 : w.heap.size + 1 < (w5.alloc (.cells #[.string s, .slice (some ⟨g5, 0, none⟩) m c5] 35)).heap.size := Nat.lt_trans hl5 (alloc_lt2 _ _)
    have hp7 : w5.heap.size < (w5.alloc (.cells #[.string s, .slice (some ⟨g5, 0, none⟩) m c5] 35)).heap.size := alloc_lt2 _ _
    have hB8 : Below w.heap.size w (w5.alloc (.cells #[.string s, .slice (some ⟨g5, 0, none⟩) m c5] 35)) := hB5.alloc hB5.size _
    clear ho5 hbl5 hB5
    generalize (w5.alloc (.cells #[.string s, .slice (some ⟨g5, 0, none⟩) m c5] 35)) = w8 at *
    have HRV := Lib.hid (show Rv w8 w.heap.size (.slice (some ⟨g5, 0, none⟩) m c5) (remR rs k) from .inr ⟨g5, c5, by rw [HM.out], by omega, by rw [HM.out]; exact ho8⟩)
    have HRR := Lib.hid (rv_rings hml HRV.out)
    have HB8 := Lib.hid hB8
    clear ho8 hB8 hml
    go_wp2_with fail
    refine (l05Ok_any w5.heap.size s _ (remR rs k) _ hp8 HRR.out hs).mono ?_
    rintro e w9 ⟨rfl, hb⟩
    obtain ⟨p90, p91⟩ := prof_keep hb hp7 hp8
    obtain ⟨⟨b0, b1⟩, f0, f1⟩ := blankP_kept hb hl8 hbl8
    have HRV9 := Lib.hid (rv_kept hb HRV.out)
    have HB9 := Lib.hid (below_of HB8.out hb HB8.out.size)
    clear hb hp8 hbl8 hp7 hl8
    rcases Bool.eq_false_or_eq_true (profB s (remR rs k)) with hq | hq
    · have HC := Lib.hid (show resC s (remR rs k) = 0 by unfold resC; rw [if_pos hq])
      rw [hq]
      go_wp2
      try simp only [Exit.inBlock, Exit.then]
      refine bodyPost_ret_by (v := .tuple #[.agg #[.string s, (.slice (some ⟨g5, 0, none⟩) m c5)], .int .i64 0]) (by rw [results_cellP rfl]; go_simp) rfl ?_
      rw [HC.out]
      refine ⟨_, rfl, ?_, ?_⟩
      · obtain ⟨e', -⟩ | ⟨g', c', e', h1', h2'⟩ := HRV9.out
        · cases e'
        · refine rv_own (ownR_set2 (zs := remR rs k) ⟨g', c', e', h1', (h2'.lt g' rfl).2, by rw [e']; exact h2'⟩ (w.heap.size + 1) _ _ (fun q o n' c'' e'' => by simp only [Value.slice.injEq, Option.some.injEq, Addr.mk.injEq] at e''; omega))
      · exact (HB9.out.setCell (by show _ ≤ w.heap.size + 1; omega) _).setCell (by show _ ≤ w.heap.size + 1; omega) _
    · have HC := Lib.hid (show resC s (remR rs k) = 6 by unfold resC; rw [hq]; rfl)
      rw [hq]
      go_wp2
      try simp only [Exit.inBlock, Exit.then]
      refine bodyPost_ret_by (v := .tuple #[.agg #[.string ⟨#[]⟩, .slice none 0 0], .int .i64 6]) (by rw [results_cellP rfl]; go_simp) rfl ?_
      rw [HC.out]
      refine ⟨_, rfl, .inl ⟨rfl, rfl⟩, ?_⟩
      exact (HB9.out.setCell (by show _ ≤ w.heap.size + 1; omega) _).setCell (by show _ ≤ w.heap.size + 1; omega) _
  · have hm1 : (remR rs k).length = k + (n - (k + 1)) := by rw [remR_len rs k (by rw [hn.out]; exact hk), hn.out]; omega
    have hml : (remR rs k).length ≤ 1048576 := by rw [hm1]; omega
    have ho5 : w5.ownsRow w.heap.size 25 3 (.slice (some ⟨g5, 0, none⟩) (k + (n - (k + 1))) c5) (k + (n - (k + 1))) (i64s (flat (remR rs k))) := row_baseR (by unfold remR; rw [flat_append, i64s_app]; exact hown5) hH
    have hg5w : w.heap.size + 1 < g5 := by omega
    have hbl5 : BlankP w5 (w.heap.size + 1) := blankP_gb (w := w3.drew.alloc _) hgrow5 (Nat.lt_trans hl4 (alloc_lt2 w3.drew _)) (apart_n (by omega)) (blankP_kept (w := w3.drew) (below_al _ _) hl4 HBL3.out)
    have hl5 : w.heap.size + 1 < w5.heap.size := Nat.lt_of_lt_of_le (Nat.lt_trans hl4 (alloc_lt2 w3.drew _)) hgrow5.size
    have hB5 : Below w.heap.size w w5 := HB3.out.trans ((show Below w1.heap.size (w3.drew.alloc (.cells #[.string ⟨#[]⟩, .slice none 0 0] 35)) w5 from gb_below hgrow5 (Nat.le_trans hH3 (Nat.le_of_lt (alloc_lt2 w3.drew _))) (fun q hq => by simp only [Value.ownBlock, Option.some.injEq] at hq; omega)).mono hH |> fun h => (show Below w.heap.size w3 (w3.drew.alloc (.cells #[.string ⟨#[]⟩, .slice none 0 0] 35)) from (show Below w.heap.size w3 w3.drew from ⟨rfl, rfl, rfl, Nat.le_refl _, fun _ _ => rfl⟩).alloc (by show w.heap.size ≤ w3.heap.size; omega) _).trans h)
    have hga : g5 ≠ w3.heap.size := by
      rcases hat5 with h | h
      · simp only [Value.ownBlock, Option.some.injEq] at h; omega
      · have h' : g5 = (w3.drew.alloc (.cells #[.string ⟨#[]⟩, .slice none 0 0] 35)).heap.size := by simpa [Value.ownBlock] using h
        have := alloc_lt2 w3.drew (.cells #[.string ⟨#[]⟩, .slice none 0 0] 35)
        have : w3.drew.heap.size = w3.heap.size := rfl
        omega
    have h35 : w3.heap.size < w5.heap.size := Nat.lt_of_lt_of_le (alloc_lt2 w3.drew _) hgrow5.size
    clear hown5 hgrow5 hnil5 hat5 hsz5 hk5
    clear HFD HSR HSRC HFT HW0
    generalize k + (n - (k + 1)) = m at *
    have HM := Lib.hid hm1
    clear hm1
    have ge : ∀ (w : World) (k : Nat) (z : Value), w.grownBy (w.setCell ⟨w3.heap.size, k, none⟩ z) (some w3.heap.size) := fun w k z => gb_set _ _ (gb_refl w _)
    have ho8 := (ho5.kept (ge _ 0 (.string s)) (.inr (by simpa [Value.ownBlock] using hga))).kept (ge _ 1 (.slice (some ⟨g5, 0, none⟩) m c5)) (.inr (by simpa [Value.ownBlock] using hga))
    have hp8 : ProfIn ((w5.setCell ⟨w3.heap.size, 0, none⟩ (.string s)).setCell ⟨w3.heap.size, 1, none⟩ (.slice (some ⟨g5, 0, none⟩) m c5)) w3.heap.size s (.slice (some ⟨g5, 0, none⟩) m c5) := ⟨by go_simp, by go_simp⟩
    have hbl8 : BlankP ((w5.setCell ⟨w3.heap.size, 0, none⟩ (.string s)).setCell ⟨w3.heap.size, 1, none⟩ (.slice (some ⟨g5, 0, none⟩) m c5)) (w.heap.size + 1) := blankP_gb (ge _ 1 _) (by simpa using hl5) (by simp; omega) (blankP_gb (ge _ 0 _) hl5 (by simp; omega) hbl5)
    have hl8 : w.heap.size + 1 < ((w5.setCell ⟨w3.heap.size, 0, none⟩ (.string s)).setCell ⟨w3.heap.size, 1, none⟩ (.slice (some ⟨g5, 0, none⟩) m c5)).heap.size := by simpa using hl5
    have hp7 : w3.heap.size < ((w5.setCell ⟨w3.heap.size, 0, none⟩ (.string s)).setCell ⟨w3.heap.size, 1, none⟩ (.slice (some ⟨g5, 0, none⟩) m c5)).heap.size := by simpa using h35
    have hB8 : Below w.heap.size w ((w5.setCell ⟨w3.heap.size, 0, none⟩ (.string s)).setCell ⟨w3.heap.size, 1, none⟩ (.slice (some ⟨g5, 0, none⟩) m c5)) := (hB5.setCell (by show _ ≤ w3.heap.size; omega) _).setCell (by show _ ≤ w3.heap.size; omega) _
    clear ho5 hbl5 hB5 ge y0 y1 y2 y3
    generalize ((w5.setCell ⟨w3.heap.size, 0, none⟩ (.string s)).setCell ⟨w3.heap.size, 1, none⟩ (.slice (some ⟨g5, 0, none⟩) m c5)) = w8 at *
    have HRV := Lib.hid (show Rv w8 w.heap.size (.slice (some ⟨g5, 0, none⟩) m c5) (remR rs k) from .inr ⟨g5, c5, by rw [HM.out], by omega, by rw [HM.out]; exact ho8⟩)
    have HRR := Lib.hid (rv_rings hml HRV.out)
    have HB8 := Lib.hid hB8
    clear ho8 hB8 hml
    go_wp2_with fail
    refine (l05Ok_any w3.heap.size s _ (remR rs k) _ hp8 HRR.out hs).mono ?_
    rintro e w9 ⟨rfl, hb⟩
    obtain ⟨p90, p91⟩ := prof_keep hb hp7 hp8
    obtain ⟨⟨b0, b1⟩, f0, f1⟩ := blankP_kept hb hl8 hbl8
    have HRV9 := Lib.hid (rv_kept hb HRV.out)
    have HB9 := Lib.hid (below_of HB8.out hb HB8.out.size)
    clear hb hp8 hbl8 hp7 hl8
    rcases Bool.eq_false_or_eq_true (profB s (remR rs k)) with hq | hq
    · have HC := Lib.hid (show resC s (remR rs k) = 0 by unfold resC; rw [if_pos hq])
      rw [hq]
      go_wp2
      try simp only [Exit.inBlock, Exit.then]
      refine bodyPost_ret_by (v := .tuple #[.agg #[.string s, (.slice (some ⟨g5, 0, none⟩) m c5)], .int .i64 0]) (by rw [results_cellP rfl]; go_simp) rfl ?_
      rw [HC.out]
      refine ⟨_, rfl, ?_, ?_⟩
      · obtain ⟨e', -⟩ | ⟨g', c', e', h1', h2'⟩ := HRV9.out
        · cases e'
        · refine rv_own (ownR_set2 (zs := remR rs k) ⟨g', c', e', h1', (h2'.lt g' rfl).2, by rw [e']; exact h2'⟩ (w.heap.size + 1) _ _ (fun q o n' c'' e'' => by simp only [Value.slice.injEq, Option.some.injEq, Addr.mk.injEq] at e''; omega))
      · exact (HB9.out.setCell (by show _ ≤ w.heap.size + 1; omega) _).setCell (by show _ ≤ w.heap.size + 1; omega) _
    · have HC := Lib.hid (show resC s (remR rs k) = 6 by unfold resC; rw [hq]; rfl)
      rw [hq]
      go_wp2
      try simp only [Exit.inBlock, Exit.then]
      refine bodyPost_ret_by (v := .tuple #[.agg #[.string ⟨#[]⟩, .slice none 0 0], .int .i64 6]) (by rw [results_cellP rfl]; go_simp) rfl ?_
      rw [HC.out]
      refine ⟨_, rfl, .inl ⟨rfl, rfl⟩, ?_⟩
      exact (HB9.out.setCell (by show _ ≤ w.heap.size + 1; omega) _).setCell (by show _ ≤ w.heap.size + 1; omega) _
set_option maxRecDepth 20000 in
set_option maxHeartbeats 1000000 in
theorem specRemove_range (s : ByteArray) (a : Option Addr) (n c : Nat) (rs : List Rg) (k : Int) (w : World) (h1 : 1 ≤ n) (h32 : n ≤ 32) (HI : Hid (RingsAt w (.slice a n c) rs)) (hs : s.size ≤ maxLen) (HP : Hid (profB s rs = true)) (HK : Hid (inB k 0 (n - 1) = false)) :
    Calls Try.prog 40 #[.agg #[.string s, .slice a n c], .int .i64 k] w (ProfU ⟨#[]⟩ [] 2 w) := by
  have hBA := ((Below.refl w.heap.size w).alloc (Nat.le_refl _) (.cells #[.string s, .slice a n c] 35)).alloc (by simp) (.cells #[.string ⟨#[]⟩, .slice none 0 0] 35)
  have z0 : ((w.alloc (.cells #[.string s, .slice a n c] 35)).alloc (.cells #[.string ⟨#[]⟩, .slice none 0 0] 35)).cell? ⟨w.heap.size, 0, none⟩ = some (.string s) := by go_simp
  have z1 : ((w.alloc (.cells #[.string s, .slice a n c] 35)).alloc (.cells #[.string ⟨#[]⟩, .slice none 0 0] 35)).cell? ⟨w.heap.size, 1, none⟩ = some (.slice a n c) := by go_simp
  have hbl : BlankP ((w.alloc (.cells #[.string s, .slice a n c] 35)).alloc (.cells #[.string ⟨#[]⟩, .slice none 0 0] 35)) (w.heap.size + 1) := ⟨⟨by go_simp, by go_simp⟩, by go_simp, by go_simp⟩
  have hl1 : w.heap.size + 1 < ((w.alloc (.cells #[.string s, .slice a n c] 35)).alloc (.cells #[.string ⟨#[]⟩, .slice none 0 0] 35)).heap.size := by simp
  have HBA := Lib.hid hBA
  have HIA := Lib.hid (rings_kept hBA HI.out)
  go_enter Try.func40, Try.ntmps40
  go_wp2_with fail
  clear hBA
  generalize ((w.alloc (.cells #[.string s, .slice a n c] 35)).alloc (.cells #[.string ⟨#[]⟩, .slice none 0 0] 35)) = wA at *
  refine (l05Ok_any _ s _ rs _ ⟨z0, z1⟩ HIA.out hs).mono ?_
  rintro e w1 ⟨rfl, hb⟩
  rw [HP.out]
  have q0 := (below_cell hb _ _ (by omega)).trans z0
  have q1 := (below_cell hb _ _ (by omega)).trans z1
  have HBL := Lib.hid (blankP_kept hb hl1 hbl)
  have hl2 := Nat.lt_of_lt_of_le hl1 hb.size
  have HB := Lib.hid (below_of HBA.out hb HBA.out.size)
  clear hb hbl z0 z1
  go_wp2_with fail
  refine (l00In_any k 0 ((n : Int) - 1) _).mono ?_
  rintro e w2 ⟨rfl, rfl⟩
  rw [HK.out]
  obtain ⟨⟨b0, b1⟩, f0, f1⟩ := HBL.out
  go_wp2
  try simp only [Exit.inBlock, Exit.then]
  refine bodyPost_ret_by (v := .tuple #[.agg #[.string ⟨#[]⟩, .slice none 0 0], .int .i64 2]) (by rw [results_cellP rfl]; go_simp) rfl ?_
  refine ⟨_, rfl, .inl ⟨rfl, rfl⟩, ?_⟩
  exact (HB.out.setCell (by show _ ≤ w.heap.size + 1; omega) _).setCell (by show _ ≤ w.heap.size + 1; omega) _
set_option maxRecDepth 20000 in
set_option maxHeartbeats 1000000 in
theorem specRemove_bad (s : ByteArray) (a : Option Addr) (n c : Nat) (rs : List Rg) (k : Int) (w : World) (HI : Hid (RingsAt w (.slice a n c) rs)) (hs : s.size ≤ maxLen) (HP : Hid (profB s rs = false)) :
    Calls Try.prog 40 #[.agg #[.string s, .slice a n c], .int .i64 k] w (ProfU ⟨#[]⟩ [] 1 w) := by
  have hBA := ((Below.refl w.heap.size w).alloc (Nat.le_refl _) (.cells #[.string s, .slice a n c] 35)).alloc (by simp) (.cells #[.string ⟨#[]⟩, .slice none 0 0] 35)
  have z0 : ((w.alloc (.cells #[.string s, .slice a n c] 35)).alloc (.cells #[.string ⟨#[]⟩, .slice none 0 0] 35)).cell? ⟨w.heap.size, 0, none⟩ = some (.string s) := by go_simp
  have z1 : ((w.alloc (.cells #[.string s, .slice a n c] 35)).alloc (.cells #[.string ⟨#[]⟩, .slice none 0 0] 35)).cell? ⟨w.heap.size, 1, none⟩ = some (.slice a n c) := by go_simp
  have hbl : BlankP ((w.alloc (.cells #[.string s, .slice a n c] 35)).alloc (.cells #[.string ⟨#[]⟩, .slice none 0 0] 35)) (w.heap.size + 1) := ⟨⟨by go_simp, by go_simp⟩, by go_simp, by go_simp⟩
  have hl1 : w.heap.size + 1 < ((w.alloc (.cells #[.string s, .slice a n c] 35)).alloc (.cells #[.string ⟨#[]⟩, .slice none 0 0] 35)).heap.size := by simp
  have HBA := Lib.hid hBA
  have HIA := Lib.hid (rings_kept hBA HI.out)
  go_enter Try.func40, Try.ntmps40
  go_wp2_with fail
  clear hBA
  generalize ((w.alloc (.cells #[.string s, .slice a n c] 35)).alloc (.cells #[.string ⟨#[]⟩, .slice none 0 0] 35)) = wA at *
  refine (l05Ok_any _ s _ rs _ ⟨z0, z1⟩ HIA.out hs).mono ?_
  rintro e w1 ⟨rfl, hb⟩
  rw [HP.out]
  have q0 := (below_cell hb _ _ (by omega)).trans z0
  have q1 := (below_cell hb _ _ (by omega)).trans z1
  have HBL := Lib.hid (blankP_kept hb hl1 hbl)
  have hl2 := Nat.lt_of_lt_of_le hl1 hb.size
  have HB := Lib.hid (below_of HBA.out hb HBA.out.size)
  clear hb hbl z0 z1
  obtain ⟨⟨b0, b1⟩, f0, f1⟩ := HBL.out
  go_wp2
  try simp only [Exit.inBlock, Exit.then]
  refine bodyPost_ret_by (v := .tuple #[.agg #[.string ⟨#[]⟩, .slice none 0 0], .int .i64 1]) (by rw [results_cellP rfl]; go_simp) rfl ?_
  refine ⟨_, rfl, .inl ⟨rfl, rfl⟩, ?_⟩
  exact (HB.out.setCell (by show _ ≤ w.heap.size + 1; omega) _).setCell (by show _ ≤ w.heap.size + 1; omega) _
theorem specRemove_any (s : ByteArray) (v : Value) (rs : List Rg) (k : Int) (w : World) (h : RingsC w v rs) (hs : s.size ≤ maxLen) :
    Calls Try.prog 40 #[.agg #[.string s, v], .int .i64 k] w (ProfU (resS s (remC s rs k)) (resL (remL rs k) (remC s rs k)) (remC s rs k) w) := by
  obtain ⟨h, a, c, rfl, hc⟩ := h
  rcases Bool.eq_false_or_eq_true (profB s rs) with hp | hp
  · obtain ⟨-, ⟨n1, n2⟩, -, -⟩ := prof_iff.1 hp
    rcases Bool.eq_false_or_eq_true (inB k 0 (rs.length - 1)) with hk | hk
    · rw [remC_3 hp hk]
      have hb := inB_iff.1 hk
      obtain ⟨q, rfl⟩ := Int.eq_ofNat_of_zero_le hb.1
      rw [Int.toNat_natCast, show remL rs (q : Int) = remR rs q by unfold remL; rw [Int.toNat_natCast]]
      obtain ⟨b, off, rfl⟩ : ∃ b off, a = some ⟨b, off, none⟩ := by
        obtain ⟨_, ⟨a', c', e, h0⟩ | ⟨b, off, cap, e, -, -⟩⟩ := h
        · rw [h0] at n1; simp at n1
        · simp only [Value.slice.injEq] at e; exact ⟨b, off, e.1⟩
      exact specRemove_main s b off rs.length c rs q w (Lib.hid rfl) n1 n2 hc (by omega) (Lib.hid h) hs (Lib.hid hp) (Lib.hid hk)
    · rw [remC_2 hp hk]
      exact specRemove_range s a rs.length c rs k w n1 n2 (Lib.hid h) hs (Lib.hid hp) (Lib.hid hk)
  · rw [remC_1 hp]
    exact specRemove_bad s a rs.length c rs k w (Lib.hid h) hs (Lib.hid hp)
end Go.Proofs.Ytojkijcdfnfnlaa
