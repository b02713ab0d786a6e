/- A model's text: the program. -/
import Derived.Test.YtblkbjeongmgdaaDoorMtS
import Derived.Test.YtblkbjeongmgdaaDoorMtC
import Derived.Test.YtblkbjeongmgdaaDoorModImpl
import Derived.Test.YtblkbjeongmgdaaDoorListImpl
set_option linter.unusedVariables false
namespace Go.Proofs.YtblkbjeongmgdaaDoor
open Go.ChangeShapes Go.WideShapes Go.ChangeAt Go.RowKit

theorem join_seven (a b c d e f g : ByteArray) : (⟨(Lib.join ([a, b, c, d, e, f, g].map (·.data.toList)) (⟨#[47]⟩ : ByteArray).data.toList).toArray⟩ : ByteArray) = a ++ ((⟨#[47]⟩ : ByteArray) ++ b) ++ ((⟨#[47]⟩ : ByteArray) ++ c) ++ ((⟨#[47]⟩ : ByteArray) ++ d) ++ ((⟨#[47]⟩ : ByteArray) ++ e) ++ ((⟨#[47]⟩ : ByteArray) ++ f) ++ (⟨#[47]⟩ : ByteArray) ++ g := by
  have e1 : ∀ l : List UInt8, (⟨l.toArray⟩ : ByteArray).data.toList = l := fun l => by simp
  have e2 : ∀ a b : ByteArray, (a ++ b).data.toList = a.data.toList ++ b.data.toList := fun a b => by simp
  apply ByteArray.ext
  apply Array.ext'
  rw [e1]
  simp only [e2, List.map_cons, List.map_nil, Lib.join_cons, Lib.joinTail]
  simp
theorem join_lenM (l : List (List UInt8)) (s : ByteArray) (n : Nat) (h : (⟨(Lib.join l s.data.toList).toArray⟩ : ByteArray).size ≤ n) : (Lib.join l s.data.toList).length ≤ n := by
  have e : ∀ l : List UInt8, (⟨l.toArray⟩ : ByteArray).size = l.length := fun l => by show l.toArray.size = _; simp
  rwa [e] at h
/-- The first k of seven texts stand in block A. -/
structure ArrS (w : World) (A : Nat) (T : Nat → ByteArray) (k : Nat) : Prop where
  c : ∀ j, j < 7 → w.cell? ⟨A, j, none⟩ = some (.string (if j < k then T j else ByteArray.empty))
  f : ∀ j, j < 7 → w.frozen? ⟨A, j, none⟩ = false
  l : A < w.heap.size
theorem arrS_kept {w w' : World} {A : Nat} {T : Nat → ByteArray} {k : Nat} (hb : Below w.heap.size w w') (h : ArrS w A T k) : ArrS w' A T k :=
  ⟨fun j hj => (below_cell hb _ _ h.l).trans (h.c j hj), fun j hj => (below_frozen hb _ _ h.l).trans (h.f j hj), Nat.lt_of_lt_of_le h.l hb.size⟩
theorem arrS_set {w : World} {A : Nat} {T : Nat → ByteArray} {k : Nat} (hk : k < 7) (h : ArrS w A T k) : ArrS (w.setCell ⟨A, k, none⟩ (.string (T k))) A T (k + 1) := by
  refine ⟨fun j hj => ?_, fun j hj => ?_, ?_⟩
  · by_cases e : j = k
    · subst e
      rw [World.cell?_setCell_same w _ _ (h.c j hj), if_pos (by omega)]
    · rw [World.cell?_setCell_other w _ _ _ (by intro e2; simp only [Addr.mk.injEq] at e2; omega), h.c j hj]
      by_cases e3 : j < k
      · rw [if_pos e3, if_pos (by omega)]
      · rw [if_neg e3, if_neg (by omega)]
  · have := h.f j hj
    simpa using this
  · simpa using h.l
theorem arrS_new (w : World) (T : Nat → ByteArray) (E : TypeId) : ArrS (w.alloc (.cells #[.string ByteArray.empty, .string ByteArray.empty, .string ByteArray.empty, .string ByteArray.empty, .string ByteArray.empty, .string ByteArray.empty, .string ByteArray.empty] E)) w.heap.size T 0 := by
  refine ⟨fun j hj => ?_, fun j hj => ?_, by simp⟩
  · rcases (by omega : j = 0 ∨ j = 1 ∨ j = 2 ∨ j = 3 ∨ j = 4 ∨ j = 5 ∨ j = 6) with rfl | rfl | rfl | rfl | rfl | rfl | rfl <;> go_simp
  · rcases (by omega : j = 0 ∨ j = 1 ∨ j = 2 ∨ j = 3 ∨ j = 4 ∨ j = 5 ∨ j = 6) with rfl | rfl | rfl | rfl | rfl | rfl | rfl <;> go_simp
set_option maxRecDepth 20000 in
set_option maxHeartbeats 2000000 in
theorem lists_any (a0 a2 : Option Addr) (n0 c0 n2 c2 : Nat) (us : List Value) (b1 o1 k1 : Nat) (w : World) (hu : ∀ u ∈ us, u.oneCell' = true) (hul : us.length = 5) (hb1 : b1 < w.heap.size) (hus : ∀ j u, us[j]? = some u → w.cell? ⟨b1, o1 + j, none⟩ = some u) :
    Calls Tryd.prog 16 #[.agg #[(Value.slice a0 n0 c0), .slice (some ⟨b1, o1, none⟩) 5 k1, (Value.slice a2 n2 c2)]] w fun e w' => ∃ g G, e = .returned (.slice (some ⟨g, 0, none⟩) 7 G) ∧ w.heap.size ≤ g ∧ g < w'.heap.size ∧ (∀ j u, ((Value.slice a0 n0 c0) :: (us ++ [(Value.slice a2 n2 c2)]))[j]? = some u → w'.cell? ⟨g, j, none⟩ = some u) ∧ Below w.heap.size w w' := by
  have HU := Lib.hid hus
  have HU1 := Lib.hid hu
  clear hus hu
  go_enter Tryd.func16, Tryd.ntmps16
  go_wp2_with fail
  refine (concat3_any _ 0 3 (fun i => [w.heap.size + 1, b1, w.heap.size + 2].getD i 0) (fun i => [0, o1, 0].getD i 0) (fun i => [1, 5, 1].getD i 0) (fun i => [1, k1, 1].getD i 0) (fun i => [[(Value.slice a0 n0 c0)], us, [(Value.slice a2 n2 c2)]].getD i []) _ ?_ ?_ ?_ ?_ ?_ ?_ (by decide) (by decide)).mono ?_
  · simp
  · intro i hi
    rcases (by omega : i = 0 ∨ i = 1 ∨ i = 2) with rfl | rfl | rfl
    · show World.cell? _ _ = some (.slice (some ⟨w.heap.size + 1, 0, none⟩) 1 1)
      go_simp
    · show World.cell? _ _ = some (.slice (some ⟨b1, o1, none⟩) 5 k1)
      go_simp
    · show World.cell? _ _ = some (.slice (some ⟨w.heap.size + 2, 0, none⟩) 1 1)
      go_simp
  · intro i hi
    rcases (by omega : i = 0 ∨ i = 1 ∨ i = 2) with rfl | rfl | rfl
    · show w.heap.size + 1 < _
      simp
    · show b1 < _
      simp
      omega
    · show w.heap.size + 2 < _
      simp
  · intro i hi
    rcases (by omega : i = 0 ∨ i = 1 ∨ i = 2) with rfl | rfl | rfl
    · rfl
    · exact hul
    · rfl
  · intro i hi j u hj
    rcases (by omega : i = 0 ∨ i = 1 ∨ i = 2) with rfl | rfl | rfl
    · have hj2 : [(Value.slice a0 n0 c0)][j]? = some u := hj
      obtain rfl : j = 0 := by have := (List.getElem?_eq_some_iff.1 hj2).1; simpa using this
      obtain rfl : (Value.slice a0 n0 c0) = u := by simpa using hj2
      show World.cell? _ ⟨w.heap.size + 1, 0, none⟩ = some (Value.slice a0 n0 c0)
      go_simp
    · have hj2 : us[j]? = some u := hj
      exact (below_cell ((((Below.refl w.heap.size w).alloc (Nat.le_refl _) _).alloc (by first | (simp; done) | (simp; omega)) _).alloc (by first | (simp; done) | (simp; omega)) _ |>.alloc (by first | (simp; done) | (simp; omega)) _) _ _ hb1).trans (HU.out j u hj2)
    · have hj2 : [(Value.slice a2 n2 c2)][j]? = some u := hj
      obtain rfl : j = 0 := by have := (List.getElem?_eq_some_iff.1 hj2).1; simpa using this
      obtain rfl : (Value.slice a2 n2 c2) = u := by simpa using hj2
      show World.cell? _ ⟨w.heap.size + 2, 0, none⟩ = some (Value.slice a2 n2 c2)
      go_simp
  · intro i hi u hm
    rcases (by omega : i = 0 ∨ i = 1 ∨ i = 2) with rfl | rfl | rfl
    · obtain rfl : u = (Value.slice a0 n0 c0) := by simpa using hm
      rfl
    · exact HU1.out u hm
    · obtain rfl : u = (Value.slice a2 n2 c2) := by simpa using hm
      rfl
  · rintro en w2 ⟨g, G, rfl, hg, hlt, hown, hb⟩
    have HB := Lib.hid (below_of ((((Below.refl w.heap.size w).alloc (Nat.le_refl _) _).alloc (by first | (simp; done) | (simp; omega)) _).alloc (by first | (simp; done) | (simp; omega)) _ |>.alloc (by first | (simp; done) | (simp; omega)) _) hb (by simp; omega))
    have HO := Lib.hid (show ∀ j u, ((Value.slice a0 n0 c0) :: (us ++ [(Value.slice a2 n2 c2)]))[j]? = some u → w2.cell? ⟨g, j, none⟩ = some u from fun j u hj => by
      have e : ([] ++ [(Value.slice a0 n0 c0)] ++ us ++ [(Value.slice a2 n2 c2)] : List Value) = (Value.slice a0 n0 c0) :: (us ++ [(Value.slice a2 n2 c2)]) := by simp
      have hj7 := (List.getElem?_eq_some_iff.1 hj).1
      have h3 : w2.cell? ⟨g, j, none⟩ = ([] ++ [(Value.slice a0 n0 c0)] ++ us ++ [(Value.slice a2 n2 c2)] : List Value)[j]? := hown.cellAt j (by simp [hul] at hj7; show j < 7 * 1; omega)
      rw [h3, e, hj])
    clear hb hown
    go_wp2
    go_ret
    exact ⟨g, G, rfl, by simp at hg; omega, hlt, HO.out, HB.out⟩
theorem joinM_any (A : Nat) (T : Nat → ByteArray) (w : World) (h : ArrS w A T 7) (R : ByteArray) (hR : T 0 ++ ((⟨#[47]⟩ : ByteArray) ++ T 1) ++ ((⟨#[47]⟩ : ByteArray) ++ T 2) ++ ((⟨#[47]⟩ : ByteArray) ++ T 3) ++ ((⟨#[47]⟩ : ByteArray) ++ T 4) ++ ((⟨#[47]⟩ : ByteArray) ++ T 5) ++ (⟨#[47]⟩ : ByteArray) ++ T 6 = R) (hz : R.size ≤ 1048576) :
    Calls Tryd.prog 18 #[.slice (some ⟨A, 0, none⟩) 7 7, .string ⟨#[47]⟩] w fun en w' => en = .returned (.string R) ∧ Below w.heap.size w w' := by
  have hj7 := join_seven (T 0) (T 1) (T 2) (T 3) (T 4) (T 5) (T 6)
  rw [hR] at hj7
  have hh := Tryd.strings_Join A 0 7 [T 0, T 1, T 2, T 3, T 4, T 5, T 6] ⟨#[47]⟩ w (fun j x hj => by
    have hl : j < 7 := by have := (List.getElem?_eq_some_iff.1 hj).1; simpa using this
    have hc := h.c j hl
    rw [if_pos hl] at hc
    rw [Nat.zero_add, hc]
    rcases (by omega : j = 0 ∨ j = 1 ∨ j = 2 ∨ j = 3 ∨ j = 4 ∨ j = 5 ∨ j = 6) with rfl | rfl | rfl | rfl | rfl | rfl | rfl
    all_goals
      simp at hj
      rw [hj]) h.l (by simp) (by simp) (Nat.le_trans (join_lenM _ _ 1048576 (by rw [hj7]; exact hz)) (by omega))
  rw [hj7] at hh
  exact hh
theorem list_fiveM {ws : List (List Int)} (h : ws.length = 5) : ∃ a b c d e, ws = [a, b, c, d, e] := by
  match ws, h with
  | [a, b, c, d, e], _ => exact ⟨_, _, _, _, _, rfl⟩
theorem slice_one {w : World} {v : Value} {zs : List Int} (h : IntsAt w v zs) : v.oneCell' = true := by
  obtain ⟨a, c, rfl⟩ := ints_form h
  rfl
set_option maxRecDepth 20000 in
set_option maxHeartbeats 4000000 in
theorem implMT_any (v0 v1 v2 : Value) (zs : List Int) (ws : List (List Int)) (bs : List Int) (w : World) (h0 : IntsAt w v0 zs) (h1 : RowsAt w v1 ws) (h2 : IntsAt w v2 bs) (hp : Hid (PowOk w)) :
    Calls Tryd.prog 7 #[.agg #[v0, v1, v2]] w fun e w' => e = .returned (.string (mtV zs ws bs)) ∧ Below w.heap.size w w' := by
  have hba := (Below.refl w.heap.size w).alloc (Nat.le_refl _) (.cells #[v0, v1, v2] 28)
  have hmi := modIn_allocM w v0 v1 v2 28
  have hla : w.heap.size < (w.alloc (.cells #[v0, v1, v2] 28)).heap.size := by simp
  have HVM := Lib.hid (implValidM_any v0 v1 v2 zs ws bs _ (ints_kept hba h0) (mrows_kept hba h1) (ints_kept hba h2))
  have HMI := Lib.hid hmi
  have HBA := Lib.hid hba
  clear hmi
  obtain ⟨a0, c0, rfl⟩ := ints_form h0
  obtain ⟨a1, c1, rfl⟩ := mrows_form h1
  obtain ⟨a2, c2, rfl⟩ := ints_form h2
  rcases Bool.eq_false_or_eq_true (modB zs ws bs) with hM | hM
  · obtain ⟨hz, ⟨hw5, hb5⟩, hwr, hbr⟩ := mod_iff.1 hM
    have hzl := zones_len hz
    have hfz := fits_zones hz
    have hfb := fits_in hbr (by omega) (by omega) (show bs.length ≤ 64 by omega)
    have hfw : ∀ j, j < 5 → fitsV (ws.getD j []) = true ∧ 0 < (ws.getD j []).length := fun j hj => by
      obtain ⟨g1, g2, -⟩ := row_iff.1 (allRows_at hwr j (by omega))
      exact ⟨fits_in g2 (by omega) (by omega) (by omega), by omega⟩
    have hsz := mtTo_size (zs := zs) (ws := ws) (listV_size hfz (by omega)) (fun j hj => listV_size (hfw j hj).1 (hfw j hj).2) 5 (by omega)
    have hsb := listV_size hfb (by omega)
    have hV : mtTo zs ws 5 ++ (⟨#[47]⟩ : ByteArray) ++ listV bs = mtV zs ws bs := by unfold mtV; rw [if_pos hM]
    have hVz : (mtV zs ws bs).size ≤ 1048576 := by rw [← hV, cat_size, cat_size, show (⟨#[47]⟩ : ByteArray).size = 1 from rfl]; omega
    rw [hM] at HVM
    rw [hw5] at HVM HBA HMI hla ⊢
    obtain ⟨x0, x1, x2, x3, x4, rfl⟩ := list_fiveM hw5
    obtain ⟨b1, o1, k1, hv1, hb1, hc1⟩ := mrows_cells h1 (by simp)
    obtain ⟨u0, g0, i0⟩ := hc1 0 (by simp)
    obtain ⟨u1, g1, i1⟩ := hc1 1 (by simp)
    obtain ⟨u2, g2, i2⟩ := hc1 2 (by simp)
    obtain ⟨u3, g3, i3⟩ := hc1 3 (by simp)
    obtain ⟨u4, g4, i4⟩ := hc1 4 (by simp)
    simp only [List.length_cons, List.length_nil, Nat.zero_add, Nat.reduceAdd, Value.slice.injEq, true_and] at hv1
    obtain ⟨rfl, rfl⟩ := hv1
    obtain ⟨T, hT⟩ : ∃ T : Nat → ByteArray, T = fun j => listV ([zs, x0, x1, x2, x3, x4, bs].getD j []) := ⟨_, rfl⟩
    obtain ⟨V, hVV⟩ : ∃ V : List Value, V = [.slice a0 zs.length c0, u0, u1, u2, u3, u4, .slice a2 bs.length c2] := ⟨_, rfl⟩
    have HR := Lib.hid (show T 0 ++ ((⟨#[47]⟩ : ByteArray) ++ T 1) ++ ((⟨#[47]⟩ : ByteArray) ++ T 2) ++ ((⟨#[47]⟩ : ByteArray) ++ T 3) ++ ((⟨#[47]⟩ : ByteArray) ++ T 4) ++ ((⟨#[47]⟩ : ByteArray) ++ T 5) ++ (⟨#[47]⟩ : ByteArray) ++ T 6 = mtV zs [x0, x1, x2, x3, x4] bs by rw [← hV, hT]; rfl)
    have HVZ := Lib.hid hVz
    have HF := Lib.hid (show ∀ j, j < 7 → fitsV ([zs, x0, x1, x2, x3, x4, bs].getD j []) = true ∧ 0 < ([zs, x0, x1, x2, x3, x4, bs].getD j []).length from fun j hj => by
      rcases (by omega : j = 0 ∨ j = 1 ∨ j = 2 ∨ j = 3 ∨ j = 4 ∨ j = 5 ∨ j = 6) with rfl | rfl | rfl | rfl | rfl | rfl | rfl
      · exact ⟨hfz, by show 0 < zs.length; omega⟩
      · exact hfw 0 (by omega)
      · exact hfw 1 (by omega)
      · exact hfw 2 (by omega)
      · exact hfw 3 (by omega)
      · exact hfw 4 (by omega)
      · exact ⟨hfb, by show 0 < bs.length; omega⟩)
    have HI := Lib.hid (show ∀ j, j < 7 → IntsAt w (V.getD j (.bool false)) ([zs, x0, x1, x2, x3, x4, bs].getD j []) from fun j hj => by
      rw [hVV]
      rcases (by omega : j = 0 ∨ j = 1 ∨ j = 2 ∨ j = 3 ∨ j = 4 ∨ j = 5 ∨ j = 6) with rfl | rfl | rfl | rfl | rfl | rfl | rfl
      · exact h0
      · exact i0
      · exact i1
      · exact i2
      · exact i3
      · exact i4
      · exact h2)
    have HU := Lib.hid (show ∀ u ∈ [u0, u1, u2, u3, u4], u.oneCell' = true from fun u hu => by
      simp only [List.mem_cons, List.not_mem_nil, or_false] at hu
      rcases hu with rfl | rfl | rfl | rfl | rfl
      · exact slice_one i0
      · exact slice_one i1
      · exact slice_one i2
      · exact slice_one i3
      · exact slice_one i4)
    have HUC := Lib.hid (show ∀ j u, [u0, u1, u2, u3, u4][j]? = some u → w.cell? ⟨b1, o1 + j, none⟩ = some u from fun j u hj => by
      have hl : j < 5 := by have := (List.getElem?_eq_some_iff.1 hj).1; simpa using this
      rcases (by omega : j = 0 ∨ j = 1 ∨ j = 2 ∨ j = 3 ∨ j = 4) with rfl | rfl | rfl | rfl | rfl
      all_goals
        simp at hj
        rw [← hj]
        assumption)
    have HVV := Lib.hid hVV
    have HTT := Lib.hid hT
    clear hM hz hw5 hb5 hwr hbr hzl hfz hfb hfw hsz hsb hV hVz h0 h1 h2 hc1 g0 g1 g2 g3 g4 i0 i1 i2 i3 i4 hVV hT hba
    go_enter Tryd.func7, Tryd.ntmps7
    go_wp2_with fail
    refine HVM.out.mono ?_
    rintro en w1 ⟨rfl, hb⟩
    obtain ⟨m0, m1, m2⟩ := modIn_keep hb hla HMI.out
    have HB1 := Lib.hid (below_of HBA.out hb HBA.out.size)
    have HP1 := Lib.hid (pow_kept HB1.out hp.out)
    have hl1 := Nat.lt_of_lt_of_le hla hb.size
    clear hb HVM
    go_wp2_with fail
    have HAR := Lib.hid (arrS_new w1 T 40)
    have hbn := (Below.refl w1.heap.size w1).alloc (Nat.le_refl _) (.cells #[.string ByteArray.empty, .string ByteArray.empty, .string ByteArray.empty, .string ByteArray.empty, .string ByteArray.empty, .string ByteArray.empty, .string ByteArray.empty] 40)
    refine (lists_any a0 a2 zs.length c0 bs.length c2 [u0, u1, u2, u3, u4] b1 o1 c1 _ HU.out rfl (Nat.lt_of_lt_of_le hb1 (Nat.le_trans HB1.out.size hbn.size)) (fun j u hj => (below_cell (below_of HB1.out hbn HB1.out.size) _ _ hb1).trans (HUC.out j u hj))).mono ?_
    rintro en w2 ⟨g, G, rfl, hg, hlg, hcs, hb⟩
    have HAR2 := Lib.hid (arrS_kept hb HAR.out)
    have HB2 := Lib.hid (below_of hbn hb hbn.size)
    have hgA : w1.heap.size < g := by simp at hg; omega
    have HCS := Lib.hid (show ∀ j, j < 7 → w2.cell? ⟨g, j, none⟩ = some (V.getD j (.bool false)) from fun j hj => by
      apply hcs
      rw [HVV.out]
      rcases (by omega : j = 0 ∨ j = 1 ∨ j = 2 ∨ j = 3 ∨ j = 4 ∨ j = 5 ∨ j = 6) with rfl | rfl | rfl | rfl | rfl | rfl | rfl <;> rfl)
    clear hb hcs hbn hg HAR
    go_wp2
    go_loopw [12] (fun i wr => ∃ k : Nat, k ≤ 7 ∧ i = .int .i64 k ∧ ArrS wr w1.heap.size T k ∧ (∀ j, j < 7 → wr.cell? ⟨g, j, none⟩ = some (V.getD j (.bool false))) ∧ g < wr.heap.size ∧ Below w1.heap.size w1 wr) (fun i _ => 7 - (intOf i).toNat)
    case atStart => exact ⟨0, by omega, rfl, HAR2.out, HCS.out, hlg, HB2.out⟩
    case round =>
      obtain ⟨k, hk, rfl, har, hcs, hgl, hbw⟩ := hrel
      have HBW := Lib.hid hbw
      by_cases hlt : k < 7
      · have hfk := HF.out k hlt
        have hik := HI.out k hlt
        obtain ⟨b, o, c, hv, hb', hc⟩ := ints_cells hik hfk.2
        have hcell := hcs k hlt
        rw [hv] at hcell
        have hbw0 := below_of HB1.out hbw HB1.out.size
        have HLT := Lib.hid (implListTextO_any ([zs, x0, x1, x2, x3, x4, bs].getD k []) b o c wr _ (Lib.hid rfl) (by have := fits_len hfk.1; omega) (Nat.lt_of_lt_of_le hb' hbw0.size) (fun j hj => (below_cell hbw0 _ _ hb').trans (hc j hj)) (Lib.hid (pow_kept hbw0 hp.out)))
        have HTK := Lib.hid (show listV ([zs, x0, x1, x2, x3, x4, bs].getD k []) = T k by rw [HTT.out])
        rw [HTK.out] at HLT
        have HAW := Lib.hid har
        have HCW := Lib.hid hcs
        have hk7 : (k : Int) < 7 := by omega
        have hk0 : (0 : Int) ≤ (k : Int) := by omega
        clear har hcs hbw hbw0 hc hv hik hfk HTK
        generalize ([zs, x0, x1, x2, x3, x4, bs].getD k []).length = m at *
        go_wp2_with fail
        refine HLT.out.mono ?_
        rintro en w5 ⟨rfl, hb5⟩
        have HA5 := Lib.hid (arrS_kept hb5 HAW.out)
        have q1 := HA5.out.c k hlt
        have q2 := HA5.out.f k hlt
        have HC5 := Lib.hid (fun j hj => (below_cell hb5 _ _ hgl).trans (HCW.out j hj))
        have hg5 := Nat.lt_of_lt_of_le hgl hb5.size
        have HB5 := Lib.hid (below_of HBW.out hb5 HBW.out.size)
        clear hb5
        go_wp2
        go_roundw
        case rel =>
          refine ⟨k + 1, by omega, by go_num, arrS_set hlt HA5.out, fun j hj => ?_, by simpa using hg5, HB5.out.setCell (Nat.le_refl _) _⟩
          rw [World.cell?_setCell_other _ _ _ _ (by intro e2; simp only [Addr.mk.injEq] at e2; omega)]
          exact HC5.out j hj
        case measure => simp [intOf]; omega
      · obtain rfl : k = 7 := by omega
        have HJ := Lib.hid (joinM_any w1.heap.size T wr har _ HR.out HVZ.out)
        have hl7 := har.l
        clear har hcs hbw
        go_wp2_with fail
        refine HJ.out.mono ?_
        rintro en w6 ⟨rfl, hb6⟩
        have HB6 := Lib.hid (below_of (below_of HB1.out HBW.out HB1.out.size) hb6 (Nat.le_trans HB1.out.size HBW.out.size))
        clear hb6
        go_wp2
        go_ret
        exact ⟨rfl, HB6.out⟩
  · have HV := Lib.hid (show ByteArray.empty = mtV zs ws bs by unfold mtV; rw [if_neg (by rw [hM]; simp)])
    rw [hM] at HVM
    clear hM hba h0 h1 h2
    go_enter Tryd.func7, Tryd.ntmps7
    go_wp2_with fail
    refine HVM.out.mono ?_
    rintro en w1 ⟨rfl, hb⟩
    have HB1 := Lib.hid (below_of HBA.out hb HBA.out.size)
    clear hb
    go_wp2
    go_ret
    exact ⟨ret_strM HV.out, HB1.out⟩
end Go.Proofs.YtblkbjeongmgdaaDoor
