/- A profile with a further ring: the reference model's. -/
import Derived.Test.YtojkijcdfnfnlaaRemS
import Derived.Deep.AppendLies
set_option linter.unusedVariables false
namespace Go.Proofs.Ytojkijcdfnfnlaa
open Go.ChangeShapes Go.WideShapes Go.ChangeAt Go.RowKit

theorem results_cell1 {P : Program} {fn : Func} {p : Tmp} {ty : TypeId} (h : fn.results = #[.cell p ty]) (tmps : Array Value) (w : World) :
    (results fn tmps).run P w = ((asAddr (tmps.getD p undef)).run P w).andThen fun a w1 => (loadVar ty a).run P w1 := results_cellR h tmps w
theorem ins_flat (rs : List Rg) (k : Nat) (r : Rg) : i64s (flat (rs.take k)) ++ i64s (flat [r]) ++ i64s (flat (rs.drop k)) = i64s (flat (insR rs k r)) := by
  unfold insR
  rw [← i64s_app, ← i64s_app, ← flat_append, ← flat_append, List.append_assoc]
  rfl
theorem src_of {w : World} {b off n c : Nat} {rs : List Rg} (hn : rs.length = n) (hpos : 1 ≤ n) (h : RingsAt w (.slice (some ⟨b, off, none⟩) n c) rs) : b < w.heap.size ∧ ∀ j, j < n * 3 → w.cell? ⟨b, off + j, none⟩ = some (.int .i64 ((flat rs).getD j 0)) := by
  obtain ⟨_, ⟨a', c', e', h0⟩ | ⟨b', off', cap', e', hbl', hc'⟩⟩ := h
  · rw [h0] at hn; simp at hn; omega
  · simp only [Value.slice.injEq, Option.some.injEq, Addr.mk.injEq] at e'
    obtain ⟨⟨rfl, rfl, -⟩, -, -⟩ := e'
    exact ⟨hbl', fun j hj => hc' j (by rw [hn]; exact hj)⟩
set_option maxRecDepth 100000 in
set_option maxHeartbeats 4000000 in
theorem l05With_any (p : Nat) (s : ByteArray) (b off n c : Nat) (rs : List Rg) (k : Nat) (x y z : Int) (w : World) (hn : Hid (rs.length = n)) (h1 : 1 ≤ n) (h32 : n ≤ 32) (hnc : n ≤ c) (hk : k ≤ n) (hp : ProfIn w p s (.slice (some ⟨b, off, none⟩) n c)) (hpl : p < w.heap.size) (HI : Hid (RingsAt w (.slice (some ⟨b, off, none⟩) n c) rs)) :
    Calls Try.prog 62 #[.pointer (some ⟨p, 0, none⟩), .int .i64 (k : Int), .agg #[.int .i64 x, .int .i64 y, .int .i64 z]] w fun e w' => ∃ g cap, e = .returned (.agg #[.string s, .slice (some ⟨g, 0, none⟩) (n + 1) cap]) ∧ w.heap.size ≤ g ∧ w'.ownsRow w.heap.size 25 3 (.slice (some ⟨g, 0, none⟩) (n + 1) cap) (n + 1) (i64s (flat (insR rs k (x, y, z)))) ∧ Below w.heap.size w w' := by
  obtain ⟨i0, hi, hz0, hz1, hz2⟩ := info_parts infoRing
  obtain ⟨hp0, hp1⟩ := hp
  obtain ⟨hbl, hcs⟩ := src_of hn.out h1 HI.out
  have HCS := Lib.hid hcs
  clear hcs
  have hBA := ((Below.refl w.heap.size w).alloc (Nat.le_refl _) (.cells #[.int .i64 x, .int .i64 y, .int .i64 z] 25)).alloc (by simp) (.cells #[.string ⟨#[]⟩, .slice none 0 0] 35)
  have e0 : ((w.alloc (.cells #[.int .i64 x, .int .i64 y, .int .i64 z] 25)).alloc (.cells #[.string ⟨#[]⟩, .slice none 0 0] 35)).cell? ⟨w.heap.size, 0, none⟩ = some (.int .i64 x) := by go_simp
  have e1 : ((w.alloc (.cells #[.int .i64 x, .int .i64 y, .int .i64 z] 25)).alloc (.cells #[.string ⟨#[]⟩, .slice none 0 0] 35)).cell? ⟨w.heap.size, 1, none⟩ = some (.int .i64 y) := by go_simp
  have e2 : ((w.alloc (.cells #[.int .i64 x, .int .i64 y, .int .i64 z] 25)).alloc (.cells #[.string ⟨#[]⟩, .slice none 0 0] 35)).cell? ⟨w.heap.size, 2, none⟩ = some (.int .i64 z) := by go_simp
  have hbk : BlankP ((w.alloc (.cells #[.int .i64 x, .int .i64 y, .int .i64 z] 25)).alloc (.cells #[.string ⟨#[]⟩, .slice none 0 0] 35)) (w.heap.size + 1) := ⟨⟨by go_simp, by go_simp⟩, by go_simp, by go_simp⟩
  have hl1 : w.heap.size + 1 < ((w.alloc (.cells #[.int .i64 x, .int .i64 y, .int .i64 z] 25)).alloc (.cells #[.string ⟨#[]⟩, .slice none 0 0] 35)).heap.size := by simp
  have q0 := (below_cell hBA _ _ hpl).trans hp0
  have q1 := (below_cell hBA _ _ hpl).trans hp1
  have HBA := Lib.hid hBA
  have g0 : (((w.alloc (.cells #[.int .i64 x, .int .i64 y, .int .i64 z] 25)).alloc (.cells #[.string ⟨#[]⟩, .slice none 0 0] 35)).alloc (.cells #[] 25)).cell? ⟨p, 1, none⟩ = some (.slice (some ⟨b, off, none⟩) n c) := (below_cell (below_al _ _) _ _ (Nat.lt_of_lt_of_le hpl hBA.size)).trans q1
  have hkc : (k : Int) ≤ (c : Int) := by omega
  have hk0 : (0 : Int) ≤ (k : Int) := by omega
  have HW0 := Lib.hid (show (((w.alloc (.cells #[.int .i64 x, .int .i64 y, .int .i64 z] 25)).alloc (.cells #[.string ⟨#[]⟩, .slice none 0 0] 35)).alloc (.cells #[] 25)).ownsRow w.heap.size 25 3 (.slice (some ⟨w.heap.size + 1 + 1, 0, none⟩) 0 0) 0 [] from by
    have h := World.ownsRow_made (base := w.heap.size) (e := 25) (size := 3) ((w.alloc (.cells #[.int .i64 x, .int .i64 y, .int .i64 z] 25)).alloc (.cells #[.string ⟨#[]⟩, .slice none 0 0] 35)) #[] 0 (by omega) (by unfold maxLen; omega) rfl
    have hsz : ((w.alloc (.cells #[.int .i64 x, .int .i64 y, .int .i64 z] 25)).alloc (.cells #[.string ⟨#[]⟩, .slice none 0 0] 35)).heap.size = w.heap.size + 1 + 1 := by simp
    rwa [hsz] at h)
  have HFT := Lib.hid (show (i64s (flat (rs.take k))).length = k * 3 by rw [i64s_length, flat_len, List.length_take, hn.out]; omega)
  have HSRC := Lib.hid (show ∀ j u, (i64s (flat (rs.take k)))[j]? = some u → (((w.alloc (.cells #[.int .i64 x, .int .i64 y, .int .i64 z] 25)).alloc (.cells #[.string ⟨#[]⟩, .slice none 0 0] 35)).alloc (.cells #[] 25)).cell? ((⟨b, off, none⟩ : Addr).add j) = some u from fun j u hj => by
    have hjl : j < k * 3 := by rw [← HFT.out]; exact (List.getElem?_eq_some_iff.1 hj).1
    rw [addr_add, below_cell (below_al _ _) _ _ (Nat.lt_of_lt_of_le hbl hBA.size), below_cell hBA _ _ hbl, HCS.out j (by omega)]
    rw [← flat_take, ← i64s_take, List.getElem?_take, if_pos hjl, i64s_get _ j (by rw [flat_len, hn.out]; omega)] at hj
    exact hj)
  have hszA : w.heap.size ≤ (((w.alloc (.cells #[.int .i64 x, .int .i64 y, .int .i64 z] 25)).alloc (.cells #[.string ⟨#[]⟩, .slice none 0 0] 35)).alloc (.cells #[] 25)).heap.size := by simp; omega
  have HBB := Lib.hid (hBA.alloc (by simp; omega) (.cells #[] 25))
  have HBK := Lib.hid (blankP_kept (below_al ((w.alloc (.cells #[.int .i64 x, .int .i64 y, .int .i64 z] 25)).alloc (.cells #[.string ⟨#[]⟩, .slice none 0 0] 35)) (.cells #[] 25)) hl1 hbk)
  have hl2 : w.heap.size + 1 < (((w.alloc (.cells #[.int .i64 x, .int .i64 y, .int .i64 z] 25)).alloc (.cells #[.string ⟨#[]⟩, .slice none 0 0] 35)).alloc (.cells #[] 25)).heap.size := Nat.lt_trans hl1 (alloc_lt2 _ _)
  have k0 := (below_cell (below_al ((w.alloc (.cells #[.int .i64 x, .int .i64 y, .int .i64 z] 25)).alloc (.cells #[.string ⟨#[]⟩, .slice none 0 0] 35)) (.cells #[] 25)) _ _ (show w.heap.size < _ by omega)).trans e0
  have k1 := (below_cell (below_al ((w.alloc (.cells #[.int .i64 x, .int .i64 y, .int .i64 z] 25)).alloc (.cells #[.string ⟨#[]⟩, .slice none 0 0] 35)) (.cells #[] 25)) _ _ (show w.heap.size < _ by omega)).trans e1
  have k2 := (below_cell (below_al ((w.alloc (.cells #[.int .i64 x, .int .i64 y, .int .i64 z] 25)).alloc (.cells #[.string ⟨#[]⟩, .slice none 0 0] 35)) (.cells #[] 25)) _ _ (show w.heap.size < _ by omega)).trans e2
  have gn := (below_cell (below_al ((w.alloc (.cells #[.int .i64 x, .int .i64 y, .int .i64 z] 25)).alloc (.cells #[.string ⟨#[]⟩, .slice none 0 0] 35)) (.cells #[] 25)) _ _ (Nat.lt_of_lt_of_le hpl hBA.size)).trans q0
  clear hBA e0 e1 e2 hbk q0 q1 hp0 hp1
  go_enter Try.func62, Try.ntmps62
  go_wp2_with (first
    | (at_builtin
       refine wpList_append_own_at _ rfl (.tmp 8) (.tmp 14) 33 rfl w.heap.size 25 i0 _ 3 24 Try.underlying33 hi hz0 hz1 hz2 rfl (by omega) (.slice (some ⟨w.heap.size + 1 + 1, 0, none⟩) 0 0) 0 [] rfl HW0.out ⟨b, off, none⟩ k c (i64s (flat (rs.take k))) rfl HFT.out HSRC.out (one_i64s _) (by unfold maxLen; omega) (by omega) hszA ?_
       intro v3 w3 hown3 hgrow3 hnil3 hat3
       obtain ⟨g3, c3, rfl, hg3, hg3l⟩ := own_slice hown3 (fun e => by have := (hnil3.1 e).1; cases this)
       rw [List.nil_append, Nat.zero_add] at hown3
       simp only [Nat.zero_add]
       have hgr3 : (((w.alloc (.cells #[.int .i64 x, .int .i64 y, .int .i64 z] 25)).alloc (.cells #[.string ⟨#[]⟩, .slice none 0 0] 35)).alloc (.cells #[] 25)).grownBy w3 (some (w.heap.size + 1 + 1)) := hgrow3
       have hlt2 : w.heap.size + 1 + 1 < (((w.alloc (.cells #[.int .i64 x, .int .i64 y, .int .i64 z] 25)).alloc (.cells #[.string ⟨#[]⟩, .slice none 0 0] 35)).alloc (.cells #[] 25)).heap.size := by simp
       have hb3 : Below (w.heap.size + 2) (((w.alloc (.cells #[.int .i64 x, .int .i64 y, .int .i64 z] 25)).alloc (.cells #[.string ⟨#[]⟩, .slice none 0 0] 35)).alloc (.cells #[] 25)) w3 := gb_below hgr3 (by omega) (fun q hq => by simp only [Option.some.injEq] at hq; omega)
       have m0 : w3.cell? ⟨w.heap.size, 0, none⟩ = some (.int .i64 x) := (hb3.cell (p := ⟨w.heap.size, 0, none⟩) (show w.heap.size < w.heap.size + 2 by omega)).trans k0
       have m1 : w3.cell? ⟨w.heap.size, 1, none⟩ = some (.int .i64 y) := (hb3.cell (p := ⟨w.heap.size, 1, none⟩) (show w.heap.size < w.heap.size + 2 by omega)).trans k1
       have m2 : w3.cell? ⟨w.heap.size, 2, none⟩ = some (.int .i64 z) := (hb3.cell (p := ⟨w.heap.size, 2, none⟩) (show w.heap.size < w.heap.size + 2 by omega)).trans k2
       have gn3 := (hb3.cell (p := ⟨p, 0, none⟩) (show p < w.heap.size + 2 by omega)).trans gn
       have gp3 := (hb3.cell (p := ⟨p, 1, none⟩) (show p < w.heap.size + 2 by omega)).trans g0
       have HBK3 := Lib.hid (blankP_kept hb3 (show w.heap.size + 1 < w.heap.size + 2 by omega) HBK.out)
       have HB3 := Lib.hid (HBB.out.trans (hb3.mono (by omega)))
       have hl3 : w.heap.size + 2 < w3.heap.size := Nat.lt_of_lt_of_le hlt2 hgr3.size
       have hga3 : w.heap.size + 2 ≤ g3 := by
         rcases hat3 with h | h
         · simp only [Value.ownBlock, Option.some.injEq] at h; omega
         · have h' : g3 = (((w.alloc (.cells #[.int .i64 x, .int .i64 y, .int .i64 z] 25)).alloc (.cells #[.string ⟨#[]⟩, .slice none 0 0] 35)).alloc (.cells #[] 25)).heap.size := by simpa [Value.ownBlock] using h
           omega
       have HO3 := Lib.hid (World.ownsRow.alloc hown3 (.cells #[.int .i64 x, .int .i64 y, .int .i64 z] 25))
       have HV := Lib.hid (show ∀ j u, (i64s (flat [(x, y, z)]))[j]? = some u → (w3.alloc (.cells #[.int .i64 x, .int .i64 y, .int .i64 z] 25)).cell? ((⟨w3.heap.size, 0, none⟩ : Addr).add j) = some u from World.news_of_block (cs := #[.int .i64 x, .int .i64 y, .int .i64 z]) (heap_alloc_new w3 _))
       have hszC : w.heap.size ≤ (w3.alloc (.cells #[.int .i64 x, .int .i64 y, .int .i64 z] 25)).heap.size := by simp; omega
       clear hown3 hgrow3 hnil3 hat3 hb3 k0 k1 k2 g0 gn hszA hlt2 hgr3
       have u0 : (w3.alloc (.cells #[.int .i64 x, .int .i64 y, .int .i64 z] 25)).heap.size = w3.heap.size + 1 := by simp
       have HU0 := Lib.hid u0
       clear u0 hl2 hl1 hkc)
    | (at_builtin; refine wpList_append_own_at _ rfl (.tmp 16) (.tmp 18) 33 rfl w.heap.size 25 i0 _ 3 24 Try.underlying33 hi hz0 hz1 hz2 rfl (by omega) (.slice (some ⟨g3, 0, none⟩) k c3) k (i64s (flat (rs.take k))) rfl HO3.out ⟨w3.heap.size, 0, none⟩ 1 1 (i64s (flat [(x, y, z)])) rfl rfl HV.out (one_i64s _) (by unfold maxLen; omega) (by omega) hszC ?_; intro v4 w4 hown4 hgrow4 hnil4 hat4))
  obtain ⟨g4, c4, rfl, hg4, hg4l⟩ := own_slice hown4 (fun e => by have := (hnil4.1 e).1; cases this)
  have hgr4 : (w3.alloc (.cells #[.int .i64 x, .int .i64 y, .int .i64 z] 25)).grownBy w4 (some g3) := hgrow4
  have hb4 : Below (w.heap.size + 2) (w3.alloc (.cells #[.int .i64 x, .int .i64 y, .int .i64 z] 25)) w4 := gb_below hgr4 (by simp; omega) (fun q hq => by simp only [Option.some.injEq] at hq; omega)
  have hba : Below (w.heap.size + 2) w3 w4 := ((Below.refl _ w3).alloc (by omega) _).trans hb4
  have r0 := (hba.cell (p := ⟨p, 0, none⟩) (show p < w.heap.size + 2 by omega)).trans gn3
  have r1 := (hba.cell (p := ⟨p, 1, none⟩) (show p < w.heap.size + 2 by omega)).trans gp3
  have HBK4 := Lib.hid (blankP_kept hba (show w.heap.size + 1 < w.heap.size + 2 by omega) HBK3.out)
  have HB4 := Lib.hid (HB3.out.trans (hba.mono (by omega)))
  have hl4 : w.heap.size + 2 < w4.heap.size := by have := hgr4.size; simp at this; omega
  have hga4 : w.heap.size + 2 ≤ g4 := by
    rcases hat4 with h | h
    · simp only [Value.ownBlock, Option.some.injEq] at h; omega
    · have h' : g4 = (w3.alloc (.cells #[.int .i64 x, .int .i64 y, .int .i64 z] 25)).heap.size := by simpa [Value.ownBlock] using h
      have := alloc_lt2 w3 (.cells #[.int .i64 x, .int .i64 y, .int .i64 z] 25)
      omega
  have HO4 := Lib.hid hown4
  have HC4 := Lib.hid (show ∀ j, j < n * 3 → w4.cell? ⟨b, off + j, none⟩ = some (.int .i64 ((flat rs).getD j 0)) from fun j hj => by
    rw [HB4.out.cell (p := ⟨b, off + j, none⟩) hbl]; exact HCS.out j hj)
  have HFD := Lib.hid (show (i64s (flat (rs.drop k))).length = (n - k) * 3 by rw [i64s_length, flat_len, List.length_drop, hn.out])
  clear hown4 hgrow4 hnil4 hat4 hb4 hba m0 m1 m2 gn3 gp3 hszC hgr4
  obtain ⟨A, hA, hSR⟩ : ∃ A : Addr, (if c = k then (some ⟨b, off, none⟩ : Option Addr) else some ⟨b, off + k * 3, none⟩) = some A ∧ (∀ j u, (i64s (flat (rs.drop k)))[j]? = some u → w4.drew.cell? (A.add j) = some u) := by
    by_cases hcc : c = k
    · refine ⟨⟨b, off, none⟩, by rw [if_pos hcc], fun j u hj => ?_⟩
      have hjl := (List.getElem?_eq_some_iff.1 hj).1
      rw [HFD.out] at hjl
      omega
    · refine ⟨⟨b, off + k * 3, none⟩, by rw [if_neg hcc], fun j u hj => ?_⟩
      have hjl : j < (n - k) * 3 := by rw [← HFD.out]; exact (List.getElem?_eq_some_iff.1 hj).1
      rw [addr_add, show off + k * 3 + j = off + (k * 3 + j) by omega]
      show w4.cell? _ = _
      rw [HC4.out _ (by omega)]
      rw [← flat_drop, ← i64s_drop, List.getElem?_drop, i64s_get _ _ (by rw [flat_len, hn.out]; omega)] at hj
      exact hj
  have HSR := Lib.hid hSR
  clear hSR
  have hkn : (k : Int) ≤ (n : Int) := by omega
  have hkn2 : k ≤ n := hk
  have hH4 : w.heap.size ≤ w4.heap.size := by omega
  have hz4 : p < w4.heap.size := by omega
  go_wp2
  go_region_held3 (fun w' => w'.cell? ⟨p, 0, none⟩ = some (.string s) ∧ w'.cell? ⟨p, 1, none⟩ = some (.slice (some ⟨b, off, none⟩) n c))
    (first | exact ⟨r0, r1⟩ | exact hk5 | exact k2_set2 hk5 (by omega))
    ((refine step_append_own rfl _ _ 33 rfl w.heap.size 25 i0 _ 3 24 Try.underlying33 hi hz0 hz1 hz2 rfl (by omega) (.slice (some ⟨g4, 0, none⟩) (k + 1) c4) (k + 1) (i64s (flat (rs.take k)) ++ i64s (flat [(x, y, z)])) (by rfl) (World.ownsRow.drew HO4.out) A (n - k) (c - k) (i64s (flat (rs.drop k))) (by rfl) HFD.out HSR.out (one_i64s _) (by unfold maxLen; omega) (by omega) hH4 ?_; intro v5 w5 hown5 hgrow5 hnil5 hat5; obtain ⟨g5, c5, rfl, hg5, hg5l⟩ := own_slice hown5 (fun e => by have := (hnil5.1 e).1; cases this); have hk5 : w5.cell? ⟨p, 0, none⟩ = some (.string s) ∧ w5.cell? ⟨p, 1, none⟩ = some (.slice (some ⟨b, off, none⟩) n c) := (by exact k2_gb (w := w4.drew) ⟨r0, r1⟩ hz4 hgrow5 (apart_n (by omega))); have hbk5 : BlankP w5 (w.heap.size + 1) := (by exact blankP_gb (w := w4.drew) hgrow5 (show w.heap.size + 1 < w4.heap.size by omega) (apart_n (by omega)) HBK4.out); obtain ⟨⟨b0, b1⟩, f0, f1⟩ := hbk5))
  have hm1 : k + 1 + (n - k) = n + 1 := by omega
  have ho5 : w5.ownsRow w.heap.size 25 3 (.slice (some ⟨g5, 0, none⟩) (n + 1) c5) (n + 1) (i64s (flat (insR rs k (x, y, z)))) := by
    rw [hm1] at hown5
    rw [← ins_flat]
    exact hown5
  have HB5 := Lib.hid (show Below w.heap.size w w5 from HB4.out.trans ((show Below w.heap.size w4.drew w5 from gb_below hgrow5 hH4 (fun q hq => by simp only [Value.ownBlock, Option.some.injEq] at hq; omega)) |> fun h => ⟨h.os, h.tape, h.output, h.size, h.block⟩))
  have hga5 : w.heap.size + 1 < g5 := by
    rcases hat5 with h | h
    · simp only [Value.ownBlock, Option.some.injEq] at h; omega
    · have h' : g5 = w4.drew.heap.size := by simpa [Value.ownBlock] using h
      have : w4.drew.heap.size = w4.heap.size := rfl
      omega
  rw [hm1]
  clear hown5 hgrow5 hnil5 hat5 hm1 hk5
  have ge : ∀ (w1 : World) (k : Nat) (z : Value), w1.grownBy (w1.setCell ⟨w.heap.size + 1, k, none⟩ z) (some (w.heap.size + 1)) := fun w1 k z => gb_set _ _ (gb_refl w1 _)
  have HO5 := Lib.hid ((ho5.kept (ge _ 0 (.string s)) (.inr (by simp [Value.ownBlock]; omega))).kept (ge _ 1 (.slice (some ⟨g5, 0, none⟩) (n + 1) c5)) (.inr (by simp [Value.ownBlock]; omega)))
  clear ho5 ge
  go_wp2
  try simp only [Exit.inBlock, Exit.then]
  refine bodyPost_ret_by (v := .agg #[.string s, .slice (some ⟨g5, 0, none⟩) (n + 1) c5]) (by rw [results_cell1 rfl]; go_simp) rfl ?_
  exact ⟨g5, c5, rfl, by omega, HO5.out, (HB5.out.setCell (by show _ ≤ w.heap.size + 1; omega) _).setCell (by show _ ≤ w.heap.size + 1; omega) _⟩
end Go.Proofs.Ytojkijcdfnfnlaa
