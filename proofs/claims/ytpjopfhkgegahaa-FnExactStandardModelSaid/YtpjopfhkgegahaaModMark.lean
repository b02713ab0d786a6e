/- A model in memory of its own: copied, read, marked, and the marks looked for again. -/
import Derived.Test.YtpjopfhkgegahaaMk
import Derived.Test.YtpjopfhkgegahaaModLaw
import Derived.Test.YtpjopfhkgegahaaProfFuns
set_option linter.unusedVariables false
namespace Go.Proofs.Ytpjopfhkgegahaa
open Go.ChangeShapes Go.WideShapes Go.ChangeAt Go.RowKit Go.Deep

/-- A model whose lists lie in blocks of their own, from B on and below hi, no two of them in one. -/
def ModOwn (w : World) (B hi : Nat) (y0 y1 y2 : Value) (zs : List Int) (ws : List (List Int)) (bs : List Int) : Prop :=
  hi ≤ w.heap.size ∧ ∃ us g cap, y1 = .slice (some ⟨g, 0, none⟩) ws.length cap ∧ B ≤ g ∧ g < hi ∧ w.ownsRow B 22 1 y1 ws.length us ∧
    RowsOwn w B (y0 :: y2 :: us) (zs :: bs :: ws) ∧ ∀ j k, j < ws.length + 2 → ((y0 :: y2 :: us).getD j undef).ownBlock = some k → k < hi
theorem intsT : 2 ≠ 22 := by decide
theorem own_blk {w w' : World} {B : Nat} {v : Value} {zs : List Int} (h : OwnInts w B v zs) (hs : w.heap.size ≤ w'.heap.size) (hb : ∀ k, v.ownBlock = some k → w'.heap[k]? = w.heap[k]?) : OwnInts w' B v zs := by
  obtain ⟨g, cap, rfl, h1, h2, h3⟩ := h
  exact ⟨g, cap, rfl, h1, by omega, row_blk h3 hb⟩
theorem rowsOwn_blk {w w' : World} {B : Nat} {us : List Value} {ws : List (List Int)} (h : RowsOwn w B us ws) (hs : w.heap.size ≤ w'.heap.size) (hb : ∀ j k, j < ws.length → (us.getD j undef).ownBlock = some k → w'.heap[k]? = w.heap[k]?) : RowsOwn w' B us ws :=
  ⟨h.len, fun j hj => own_blk (h.each j hj) hs (fun k hk => hb j k hj hk), h.apart⟩
theorem modOwn_blk {w w' : World} {B hi : Nat} {y0 y1 y2 : Value} {zs bs : List Int} {ws : List (List Int)} (h : ModOwn w B hi y0 y1 y2 zs ws bs) (hs : w.heap.size ≤ w'.heap.size) (hb : ∀ k, B ≤ k → k < hi → w'.heap[k]? = w.heap[k]?) : ModOwn w' B hi y0 y1 y2 zs ws bs := by
  obtain ⟨hh, us, g, cap, rfl, h1, h2, h3, h4, h5⟩ := h
  refine ⟨by omega, us, g, cap, rfl, h1, h2, row_blk h3 (fun k hk => ?_), rowsOwn_blk h4 hs (fun j k hj hk => ?_), h5⟩
  · simp only [Value.ownBlock, Option.some.injEq] at hk; subst hk; exact hb _ h1 h2
  · obtain ⟨g1, e1, q1, q2⟩ := ownInts_block (h4.each j hj)
    rw [e1, Option.some.injEq] at hk; subst hk
    exact hb _ q1 (h5 j _ (by simpa using hj) e1)
theorem modOwn_kept {w w' : World} {B hi : Nat} {y0 y1 y2 : Value} {zs bs : List Int} {ws : List (List Int)} (hb : Below w.heap.size w w') (h : ModOwn w B hi y0 y1 y2 zs ws bs) : ModOwn w' B hi y0 y1 y2 zs ws bs :=
  modOwn_blk h hb.size (fun k _ hk => hb.block k (by have := h.1; omega))
theorem modOwn_mk {w w' : World} {l u B hi : Nat} {y0 y1 y2 : Value} {zs bs : List Int} {ws : List (List Int)} (hg : Mk l u w w') (h : ModOwn w B hi y0 y1 y2 zs ws bs) (ho : hi ≤ l ∨ u ≤ B) : ModOwn w' B hi y0 y1 y2 zs ws bs :=
  modOwn_blk h hg.size (fun k h1 h2 => hg.block k (by have := h.1; omega) (by omega))
theorem modOwn_parts {w : World} {B hi : Nat} {y0 y1 y2 : Value} {zs bs : List Int} {ws : List (List Int)} (hz : zs.length ≤ 1048576) (hw : ws.length ≤ 1048576) (hr : ∀ j, j < ws.length → (ws.getD j []).length ≤ 1048576) (hbs : bs.length ≤ 1048576) (h : ModOwn w B hi y0 y1 y2 zs ws bs) :
    IntsAt w y0 zs ∧ RowsAt w y1 ws ∧ IntsAt w y2 bs := by
  obtain ⟨hh, us, g, cap, rfl, h1, h2, h3, h4, h5⟩ := h
  have hl := h4.len
  simp only [List.length_cons] at hl
  refine ⟨own_ints hz (h4.each 0 (by simp)), ⟨hw, .inr ⟨g, 0, cap, rfl, by omega, fun j hj => ⟨us.getD j undef, ?_, ?_⟩⟩⟩, own_ints hbs (h4.each 1 (by simp))⟩
  · rw [Nat.zero_add, h3.cellAt j (by omega), List.getD_eq_getElem?_getD, List.getElem?_eq_getElem (by omega)]; rfl
  · have := h4.each (j + 2) (by simp; omega)
    exact own_ints (hr j hj) this
theorem modOwn_form {w : World} {B hi : Nat} {y0 y1 y2 : Value} {zs bs : List Int} {ws : List (List Int)} (h : ModOwn w B hi y0 y1 y2 zs ws bs) : (∃ a c, y0 = .slice a zs.length c) ∧ (∃ a c, y1 = .slice a ws.length c) ∧ ∃ a c, y2 = .slice a bs.length c := by
  obtain ⟨hh, us, g, cap, rfl, h1, h2, h3, h4, h5⟩ := h
  obtain ⟨g0, c0, e0, -⟩ := h4.each 0 (by simp)
  obtain ⟨g2, c2, e2, -⟩ := h4.each 1 (by simp)
  exact ⟨⟨_, _, e0⟩, ⟨_, _, rfl⟩, ⟨_, _, e2⟩⟩
theorem rowsOwn_mark {w w' : World} {B : Nat} {us : List Value} {ws : List (List Int)} {z : List Int} (j : Nat) (h : RowsOwn w B us ws) (hj : j < ws.length) (hg : w.grownBy w' (us.getD j undef).ownBlock) (hz : OwnInts w' B (us.getD j undef) z) : RowsOwn w' B us (ws.set j z) := by
  refine ⟨by rw [List.length_set]; exact h.len, fun i hi => ?_, fun i k hik hk => h.apart i k hik (by rwa [List.length_set] at hk)⟩
  rw [List.length_set] at hi
  by_cases e : i = j
  · subst e
    rw [List.getD_eq_getElem?_getD (l := ws.set i z), List.getElem?_set_self hj]
    exact hz
  · rw [List.getD_eq_getElem?_getD (l := ws.set j z), List.getElem?_set_ne (by omega), ← List.getD_eq_getElem?_getD]
    refine own_blk (h.each i hi) hg.size (fun k hk => hg.block k ?_ ?_)
    · obtain ⟨g1, e1, _, h1⟩ := ownInts_block (h.each i hi)
      rw [e1, Option.some.injEq] at hk; omega
    · rw [← hk]
      rcases Nat.lt_or_gt_of_ne e with h1 | h1
      · exact h.apart i j h1 hj
      · exact fun e => h.apart j i h1 hi e.symm
/-- The lengths of the first rows, added. -/
def lenS (ws : List (List Int)) (k : Nat) : Nat := sumL (fun j => (ws.getD j []).length) k
theorem lenS_next (ws : List (List Int)) (k : Nat) : lenS ws (k + 1) = lenS ws k + (ws.getD k []).length := rfl
theorem lenS_mono (ws : List (List Int)) (k n : Nat) (h : k ≤ n) : lenS ws k ≤ lenS ws n := by
  induction n with
  | zero => obtain rfl : k = 0 := by omega
            exact Nat.le_refl _
  | succ n ih => by_cases e : k = n + 1
                 · rw [e]; exact Nat.le_refl _
                 · rw [lenS_next]; have := ih (by omega); omega
theorem lenS_at (ws : List (List Int)) (k n : Nat) (h : k < n) : (ws.getD k []).length ≤ lenS ws n := by
  have := lenS_mono ws (k + 1) n h; rw [lenS_next] at this; omega
/-- The rows, the first k of them marked from m on. -/
def mrows (m : Int) (ws : List (List Int)) (k : Nat) : List (List Int) := (List.range ws.length).map fun j => if j < k then marksI (m + lenS ws j) (ws.getD j []).length else ws.getD j []
theorem mrows_len (m : Int) (ws : List (List Int)) (k : Nat) : (mrows m ws k).length = ws.length := by simp [mrows]
theorem mrows_zero (m : Int) (ws : List (List Int)) : mrows m ws 0 = ws := by
  refine List.ext_getElem (by simp [mrows]) fun j h1 h2 => ?_
  simp [mrows, List.getD, h2]
theorem mrows_get (m : Int) (ws : List (List Int)) (k j : Nat) (h : j < ws.length) : (mrows m ws k).getD j [] = if j < k then marksI (m + lenS ws j) (ws.getD j []).length else ws.getD j [] := by
  rw [List.getD_eq_getElem?_getD (l := mrows m ws k), mrows, List.getElem?_map, List.getElem?_range h]; rfl
theorem mrows_next (m : Int) (ws : List (List Int)) (k : Nat) (h : k < ws.length) : (mrows m ws k).set k (marksI (m + lenS ws k) (ws.getD k []).length) = mrows m ws (k + 1) := by
  refine List.ext_getElem (by simp [mrows]) fun j h1 h2 => ?_
  have hj : j < ws.length := by simpa [mrows] using h2
  rw [List.getElem_set]
  by_cases e : k = j
  · subst e; simp [mrows]
  · rw [if_neg e]
    simp only [mrows, List.getElem_map, List.getElem_range]
    by_cases hk : j < k
    · rw [if_pos hk, if_pos (by omega)]
    · rw [if_neg hk, if_neg (by omega)]
set_option maxHeartbeats 2000000 in
theorem markRows_some (m : Int) (ws : List (List Int)) (zs bs : List Int) (y0 y2 : Value) (us : List Value) (B hi g cap n : Nat) (w : World) (hm : 0 ≤ m ∧ m ≤ 900000000000) (hn : Hid (ws.length = n)) (hT : lenS ws ws.length ≤ 1048576) (hn1 : n ≤ 1048576) (hgB : B ≤ g) (hgh : g < hi)
    (hrow : w.ownsRow B 22 1 (.slice (some ⟨g, 0, none⟩) n cap) n us) (hR : RowsOwn w B (y0 :: y2 :: us) (zs :: bs :: ws)) (hH : ∀ j k, j < ws.length + 2 → ((y0 :: y2 :: us).getD j undef).ownBlock = some k → k < hi) :
    Calls Try.prog 26 #[.slice (some ⟨g, 0, none⟩) n cap, .int .i64 m] w fun e w' => e = .returned (.int .i64 (m + (lenS ws ws.length : Nat))) ∧ w'.ownsRow B 22 1 (.slice (some ⟨g, 0, none⟩) n cap) n us ∧ RowsOwn w' B (y0 :: y2 :: us) (zs :: bs :: mrows m ws n) ∧ Mk B hi w w' := by
  have HO0 := Lib.hid hrow
  have HR0 := Lib.hid hR
  have HH := Lib.hid hH
  have HT := Lib.hid hT
  clear hrow hR hH hT
  go_enter Try.func26, Try.ntmps26
  go_wp2
  go_loopw [1, 5] (fun v i wr => ∃ k : Nat, k ≤ n ∧ i = .int .i64 k ∧ v = .int .i64 (m + (lenS ws k : Nat)) ∧ wr.ownsRow B 22 1 (.slice (some ⟨g, 0, none⟩) n cap) n us ∧ Hid (RowsOwn wr B (y0 :: y2 :: us) (zs :: bs :: mrows m ws k)) ∧ Hid (Mk B hi w wr)) (fun _ i _ => n - (intOf i).toNat)
  case atStart => exact ⟨0, by omega, rfl, by congr 1; simp [lenS, sumL], HO0.out, Lib.hid (by rw [mrows_zero]; exact HR0.out), Lib.hid (mk_refl _ _ _)⟩
  case round =>
    obtain ⟨k, hk, rfl, rfl, hown, HR, HM⟩ := hrel
    have HO := Lib.hid hown
    by_cases hlt : k < n
    · have hkw : k < ws.length := by rw [hn.out]; exact hlt
      have hu := HR.out.each (k + 2) (by simp [mrows_len]; omega)
      have hu2 : OwnInts wr B (us.getD k undef) (ws.getD k []) := by
        have h2 : (zs :: bs :: mrows m ws k).getD (k + 2) [] = ws.getD k [] := by show (mrows m ws k).getD k [] = _; rw [mrows_get m ws k k hkw, if_neg (by omega)]
        rw [h2] at hu; exact hu
      have hlen := HR0.out.len
      simp only [List.length_cons] at hlen
      have hat : wr.cell? ⟨g, k, none⟩ = some (us.getD k undef) := by rw [hown.cellAt k (by omega), List.getD_eq_getElem?_getD, List.getElem?_eq_getElem (by omega)]; rfl
      have hl : (ws.getD k []).length ≤ 1048576 := Nat.le_trans (lenS_at ws k _ hkw) HT.out
      have hb : lenS ws k ≤ 1048576 := Nat.le_trans (lenS_mono ws k _ (by omega)) HT.out
      obtain ⟨g1, e1, hg1, hg2⟩ := ownInts_block hu2
      have HU := Lib.hid hu2
      have HE := Lib.hid e1
      have HN := Lib.hid (lenS_next ws k)
      have hkn : (k : Int) < (n : Int) := by omega
      have hk0 : (0 : Int) ≤ (k : Int) := by omega
      obtain ⟨u, hu'⟩ : ∃ u, us.getD k undef = u := ⟨_, rfl⟩
      have HX := Lib.hid hu'
      rw [hu'] at hat HU HE
      obtain ⟨ua, uc, huf⟩ := iv_form (iv_own HU.out)
      rw [huf] at hat HU HE HX
      obtain ⟨l, hll⟩ : ∃ l, (ws.getD k []).length = l := ⟨_, rfl⟩
      have HLL := Lib.hid hll
      rw [hll] at hat HX hl HE
      obtain ⟨wz, hwz⟩ : ∃ z, ws.getD k [] = z := ⟨_, rfl⟩
      have HWZ := Lib.hid hwz
      have HU2 := Lib.hid (show OwnInts wr B (.slice ua l uc) (ws.getD k []) by rw [← hll]; exact HU.out)
      clear HU
      rw [hwz] at HU2
      have hlz : wz.length = l := by rw [← hwz]; exact hll
      have HLZ := Lib.hid hlz
      clear hu hu2 e1 hown hu' huf hll hwz hlz
      go_wp2_with fail
      refine (markOwn_any (m + (lenS ws k : Nat)) (by omega) _ wz B _ (by rw [HLZ.out]; exact hl) HU2.out).mono ?_
      rintro e w2 ⟨rfl, hv, hgr⟩
      rw [HLZ.out] at hv ⊢
      have hset := rowsOwn_mark (k + 2) HR.out (by simp [mrows_len]; omega) (w' := w2) (z := marksI (m + lenS ws k) l) (by
        show wr.grownBy w2 (us.getD k undef).ownBlock
        rw [HX.out]; exact hgr) (by
        show OwnInts w2 B (us.getD k undef) _
        rw [HX.out]; exact hv)
      have HS := Lib.hid (show RowsOwn w2 B (y0 :: y2 :: us) (zs :: bs :: mrows m ws (k + 1)) by
        rw [← mrows_next m ws k hkw, HLL.out]; exact hset)
      have hne : (some g : Option Nat) ≠ (Value.slice ua l uc).ownBlock := fun e => by
        obtain ⟨_, _, _, _, _, hr⟩ := HU2.out
        exact row_apart HO.out hr (Ne.symm intsT) g rfl e.symm
      have HO2 := Lib.hid (HO.out.kept hgr (.inr hne))
      have hgh1 : g1 < hi := HH.out (k + 2) g1 (by omega) (by show (us.getD k undef).ownBlock = _; rw [HX.out]; exact HE.out)
      have HM2 := Lib.hid (mk_trans HM.out (mk_of_grown (l := B) (u := hi) hgr (fun q hq => by rw [HE.out, Option.some.injEq] at hq; omega)))
      clear hv hgr hset hne
      go_wp2
      go_roundw
      case rel => exact ⟨k + 1, by omega, by go_num, by rw [HN.out, HLL.out]; congr 1; omega, HO2.out, HS, HM2⟩
      case measure => simp [intOf]; omega
    · obtain rfl : k = n := by omega
      clear hown
      have HL := Lib.hid (show lenS ws ws.length = lenS ws k by rw [hn.out])
      go_wp2
      go_ret
      exact ⟨by rw [HL.out] <;> rfl, HO.out, HR.out, HM.out⟩
set_option maxHeartbeats 2000000 in
theorem markMod_any (m : Int) (hm : 0 ≤ m ∧ m ≤ 800000000000) (y0 y1 y2 : Value) (zs bs : List Int) (ws : List (List Int)) (B hi : Nat) (w : World) (hT : zs.length + lenS ws ws.length + bs.length ≤ 1048576) (hwl : ws.length ≤ 1048576) (h : ModOwn w B hi y0 y1 y2 zs ws bs) :
    Calls Try.prog 11 #[.agg #[y0, y1, y2], .int .i64 m] w fun e w' => e = .returned (.int .i64 (m + (zs.length : Int) + (lenS ws ws.length : Nat) + (bs.length : Int))) ∧
      ModOwn w' B hi y0 y1 y2 (marksI m zs.length) (mrows (m + (zs.length : Int)) ws ws.length) (marksI (m + (zs.length : Int) + (lenS ws ws.length : Nat)) bs.length) ∧ Mk B hi w w' := by
  obtain ⟨hh, us, g, cap, rfl, h1, h2, h3, h4, h5⟩ := h
  have hba := below_al w (.cells #[y0, .slice (some ⟨g, 0, none⟩) ws.length cap, y2] 25)
  have HR0 := Lib.hid (rowsOwn_kept hba h4)
  have HO0 := Lib.hid (row_keep1 hba h3)
  have HB0 := Lib.hid hba
  have H5 := Lib.hid h5
  have hz : zs.length ≤ 1048576 := by omega
  have hbz : bs.length ≤ 1048576 := by omega
  obtain ⟨g0, e0, -, -⟩ := ownInts_block (h4.each 0 (by simp))
  obtain ⟨g2, e2, -, -⟩ := ownInts_block (h4.each 1 (by simp))
  have q0 : g0 < hi := h5 0 g0 (by omega) e0
  have q2 : g2 < hi := h5 1 g2 (by omega) e2
  have p0 : B ≤ g0 := by obtain ⟨g', e', h', _⟩ := ownInts_block (h4.each 0 (by simp)); rw [e0] at e'; simp only [Option.some.injEq] at e'; omega
  have p2 : B ≤ g2 := by obtain ⟨g', e', h', _⟩ := ownInts_block (h4.each 1 (by simp)); rw [e2] at e'; simp only [Option.some.injEq] at e'; omega
  have E0 := Lib.hid (show y0.ownBlock = some g0 from e0)
  have E2 := Lib.hid (show y2.ownBlock = some g2 from e2)
  clear hba h3 h4 h5 e0 e2
  have HN := Lib.hid (show (zs :: bs :: ws).length = ws.length + 2 from rfl)
  obtain ⟨n0, hn0⟩ : ∃ n, zs.length = n := ⟨_, rfl⟩
  obtain ⟨n1, hn1⟩ : ∃ n, ws.length = n := ⟨_, rfl⟩
  obtain ⟨n2, hn2⟩ : ∃ n, bs.length = n := ⟨_, rfl⟩
  have HN1 := Lib.hid hn1
  rw [hn1] at hT HO0 HB0 hwl HR0
  rw [hn0, hn2] at hT
  have HT := Lib.hid (show lenS ws ws.length ≤ 1048576 by rw [hn1]; omega)
  rw [hn0, hn1, hn2]
  rw [hn0] at hz
  rw [hn2] at hbz
  have HZ := Lib.hid hn0
  have HZ2 := Lib.hid hn2
  clear hn0 hn1 hn2
  go_enter Try.func11, Try.ntmps11
  go_wp2_with fail
  refine (markOwn_any m (by omega) y0 zs B _ (by rw [HZ.out]; exact hz) (HR0.out.each 0 (by simp))).mono ?_
  rintro e w1 ⟨rfl, hv, hg⟩
  rw [HZ.out] at hv ⊢
  have hne : (some g : Option Nat) ≠ y0.ownBlock := fun e => by
    obtain ⟨_, _, _, _, _, hr⟩ := HR0.out.each 0 (by simp)
    exact row_apart HO0.out hr (Ne.symm intsT) g rfl e.symm
  have HO1 := Lib.hid (HO0.out.kept hg (.inr hne))
  have HR1 := Lib.hid (show RowsOwn w1 B (y0 :: y2 :: us) (marksI m n0 :: bs :: ws) from rowsOwn_mark 0 HR0.out (by simp) hg hv)
  have k1 : w1.cell? ⟨w.heap.size, 1, none⟩ = some (.slice (some ⟨g, 0, none⟩) n1 cap) := by rw [gb_cell hg _ _ (by simp) (by rw [E0.out]; simp; omega)]; go_simp
  have k2 : w1.cell? ⟨w.heap.size, 2, none⟩ = some y2 := by rw [gb_cell hg _ _ (by simp) (by rw [E0.out]; simp; omega)]; go_simp
  have HM1 := Lib.hid (mk_trans (mk_of_below HB0.out) (mk_of_grown (l := B) (u := hi) hg (fun q hq => by rw [E0.out, Option.some.injEq] at hq; omega)))
  have hs1 : w.heap.size < w1.heap.size := by have := hg.size; simp at this; omega
  clear hv hg hne
  go_wp2_with fail
  refine (markRows_some (m + (n0 : Int)) ws (marksI m n0) bs y0 y2 us B hi g cap n1 _ (by omega) HN1 HT.out (by omega) h1 h2 HO1.out HR1.out H5.out).mono ?_
  rintro e w2 ⟨rfl, ho, hr, hM⟩
  rw [HN1.out]
  have HO2 := Lib.hid ho
  have HR2 := Lib.hid hr
  have k2' : w2.cell? ⟨w.heap.size, 2, none⟩ = some y2 := (mk_cell hM _ _ hs1 (by omega)).trans k2
  have HM2 := Lib.hid (mk_trans HM1.out hM)
  have hL : lenS ws n1 ≤ 1048576 := by have := HT.out; rw [HN1.out] at this; exact this
  clear ho hr hM k1 k2
  go_wp2_with fail
  refine (markOwn_any (m + (n0 : Int) + (lenS ws n1 : Nat)) (by omega) y2 bs B _ (by rw [HZ2.out]; exact hbz) (HR2.out.each 1 (by simp))).mono ?_
  rintro e w3 ⟨rfl, hv, hg⟩
  rw [HZ2.out] at hv ⊢
  have hne : (some g : Option Nat) ≠ y2.ownBlock := fun e => by
    obtain ⟨_, _, _, _, _, hr⟩ := HR2.out.each 1 (by simp)
    exact row_apart HO2.out hr (Ne.symm intsT) g rfl e.symm
  have HO3 := Lib.hid (HO2.out.kept hg (.inr hne))
  have HR3 := Lib.hid (show RowsOwn w3 B (y0 :: y2 :: us) (marksI m n0 :: marksI (m + (n0 : Int) + (lenS ws n1 : Nat)) n2 :: mrows (m + (n0 : Int)) ws n1) from rowsOwn_mark 1 HR2.out (by simp) hg hv)
  have HM3 := Lib.hid (mk_trans HM2.out (mk_of_grown (l := B) (u := hi) hg (fun q hq => by rw [E2.out, Option.some.injEq] at hq; omega)))
  clear hv hg hne k2'
  have hh3 : hi ≤ w3.heap.size := by have := HM3.out.size; omega
  go_wp2
  go_ret
  refine ⟨rfl, ⟨hh3, us, g, cap, by rw [mrows_len, HN1.out], h1, h2, by rw [mrows_len, HN1.out]; exact HO3.out, HR3.out, ?_⟩, HM3.out⟩
  intro j k hj hk
  rw [mrows_len] at hj
  exact H5.out j k (by omega) hk
set_option maxHeartbeats 1000000 in
theorem heldRows_some (m : Int) (ws : List (List Int)) (us : List Value) (B g cap n : Nat) (w : World) (hm : 0 ≤ m ∧ m ≤ 900000000000) (hn : Hid (ws.length = n)) (hT : lenS ws ws.length ≤ 1048576) (hn1 : n ≤ 1048576)
    (hrow : w.ownsRow B 22 1 (.slice (some ⟨g, 0, none⟩) n cap) n us) (hR : ∀ j, j < n → OwnInts w B (us.getD j undef) (marksI (m + lenS ws j) (ws.getD j []).length)) :
    Calls Try.prog 28 #[.slice (some ⟨g, 0, none⟩) n cap, .int .i64 m] w fun e w' => e = .returned (.int .i64 (m + (lenS ws ws.length : Nat))) ∧ w = w' := by
  have HO := Lib.hid hrow
  have HR := Lib.hid hR
  have HT := Lib.hid hT
  clear hrow hR hT
  go_enter Try.func28, Try.ntmps28
  go_wp2
  go_loop [1, 5] (fun v i => ∃ k : Nat, k ≤ n ∧ i = .int .i64 k ∧ v = .int .i64 (m + (lenS ws k : Nat))) (fun _ i => n - (intOf i).toNat)
  case atStart => exact ⟨0, by omega, rfl, by congr 1; simp [lenS, sumL]⟩
  case round =>
    obtain ⟨k, hk, rfl, rfl⟩ := hrel
    by_cases hlt : k < n
    · have hkw : k < ws.length := by rw [hn.out]; exact hlt
      have hat : w.cell? ⟨g, k, none⟩ = some (us.getD k undef) := by
        have hl : us.length = n := by have := HO.out.1; omega
        rw [HO.out.cellAt k (by omega), List.getD_eq_getElem?_getD, List.getElem?_eq_getElem (by omega)]; rfl
      have hl : (ws.getD k []).length ≤ 1048576 := Nat.le_trans (lenS_at ws k _ hkw) HT.out
      have hb : lenS ws k ≤ 1048576 := Nat.le_trans (lenS_mono ws k _ (by omega)) HT.out
      have HU := Lib.hid (HR.out k hlt)
      have HN := Lib.hid (lenS_next ws k)
      have hkn : (k : Int) < (n : Int) := by omega
      have hk0 : (0 : Int) ≤ (k : Int) := by omega
      obtain ⟨u, hu'⟩ : ∃ u, us.getD k undef = u := ⟨_, rfl⟩
      rw [hu'] at hat HU
      obtain ⟨ua, uc, huf⟩ := iv_form (iv_own HU.out)
      rw [huf, marksI_len] at hat HU
      clear hu' huf
      obtain ⟨l, hll⟩ : ∃ l, (ws.getD k []).length = l := ⟨_, rfl⟩
      have HLL := Lib.hid hll
      rw [hll] at hat HU hl
      clear hll
      have hnn : ¬ m + (lenS ws k : Nat) + (l : Int) < 0 := by omega
      go_wp2_with fail
      refine (heldIv_any (m + (lenS ws k : Nat)) (by omega) _ l B _ hl (iv_own HU.out)).mono ?_
      rintro e w2 ⟨rfl, rfl⟩
      go_wp2
      go_round
      case rel => exact ⟨k + 1, by omega, by go_num, by rw [HN.out, HLL.out]; congr 1; omega⟩
      case measure => simp [intOf]; omega
    · obtain rfl : k = n := by omega
      have HL := Lib.hid (show lenS ws ws.length = lenS ws k by rw [hn.out])
      go_wp2
      go_ret
      exact ⟨by rw [HL.out] <;> rfl, rfl⟩
set_option maxHeartbeats 1000000 in
theorem heldMod_any (m : Int) (hm : 0 ≤ m ∧ m ≤ 800000000000) (y0 y1 y2 : Value) (n0 n2 : Nat) (ws : List (List Int)) (B hi : Nat) (w : World) (hT : n0 + lenS ws ws.length + n2 ≤ 1048576) (hwl : ws.length ≤ 1048576)
    (h : ModOwn w B hi y0 y1 y2 (marksI m n0) (mrows (m + (n0 : Int)) ws ws.length) (marksI (m + (n0 : Int) + (lenS ws ws.length : Nat)) n2)) :
    Calls Try.prog 12 #[.agg #[y0, y1, y2], .int .i64 m] w fun e w' => e = .returned (.int .i64 (m + (n0 : Int) + (lenS ws ws.length : Nat) + (n2 : Int))) ∧ Below w.heap.size w w' := by
  obtain ⟨hh, us, g, cap, rfl, h1, h2, h3, h4, h5⟩ := h
  rw [mrows_len] at h3 h5 ⊢
  have hba := below_al w (.cells #[y0, .slice (some ⟨g, 0, none⟩) ws.length cap, y2] 25)
  have HR0 := Lib.hid (rowsOwn_kept hba h4)
  have HO0 := Lib.hid (row_keep1 hba h3)
  have HB0 := Lib.hid hba
  clear hba h3 h4 h5
  have HW := Lib.hid (show ∀ j, j < ws.length → OwnInts (w.alloc (.cells #[y0, .slice (some ⟨g, 0, none⟩) ws.length cap, y2] 25)) B (us.getD j undef) (marksI (m + (n0 : Int) + lenS ws j) (ws.getD j []).length) from fun j hj => by
    have q := HR0.out.each (j + 2) (by simp [mrows_len]; omega)
    have e : (marksI m n0 :: marksI (m + (n0 : Int) + (lenS ws ws.length : Nat)) n2 :: mrows (m + (n0 : Int)) ws ws.length).getD (j + 2) [] = marksI (m + (n0 : Int) + lenS ws j) (ws.getD j []).length := by
      show (mrows (m + (n0 : Int)) ws ws.length).getD j [] = _
      rw [mrows_get _ _ _ _ hj, if_pos hj]
    rw [e] at q; exact q)
  obtain ⟨n1, hn1⟩ : ∃ n, ws.length = n := ⟨_, rfl⟩
  have HN1 := Lib.hid hn1
  have HT := Lib.hid (show lenS ws ws.length ≤ 1048576 by omega)
  rw [hn1] at hT hwl HO0 HB0 HW HR0
  rw [hn1]
  clear hn1
  have hn0 : ¬ m + (n0 : Int) < 0 := by omega
  have hn3 : ¬ m + (n0 : Int) + (lenS ws n1 : Nat) < 0 := by omega
  have hn4 : ¬ m + (n0 : Int) + (lenS ws n1 : Nat) + (n2 : Int) < 0 := by omega
  have hL : lenS ws n1 ≤ 1048576 := by omega
  go_enter Try.func12, Try.ntmps12
  go_wp2_with fail
  refine (heldIv_any m (by omega) y0 n0 B _ (by omega) (iv_own (HR0.out.each 0 (by simp)))).mono ?_
  rintro e w1 ⟨rfl, rfl⟩
  go_wp2_with fail
  refine (heldRows_some (m + (n0 : Int)) ws us B g cap n1 _ (by omega) HN1 HT.out hwl HO0.out HW.out).mono ?_
  rintro e w1 ⟨rfl, rfl⟩
  rw [HN1.out]
  go_wp2_with fail
  refine (heldIv_any (m + (n0 : Int) + (lenS ws n1 : Nat)) (by omega) y2 n2 B _ (by omega) (iv_own (HR0.out.each 1 (by simp)))).mono ?_
  rintro e w1 ⟨rfl, rfl⟩
  go_wp2
  go_ret
  exact ⟨rfl, HB0.out⟩
/-- Rows in blocks from B on and below U. -/
def OwnRowsIn (w : World) (B U : Nat) (v : Value) (ws : List (List Int)) : Prop := ∃ g cap us, v = .slice (some ⟨g, 0, none⟩) ws.length cap ∧ B ≤ g ∧ g < U ∧ w.ownsRow B 22 1 v ws.length us ∧ RowsOwn w B us ws ∧ ∀ j k, j < ws.length → (us.getD j undef).ownBlock = some k → k < U
theorem ownRowsIn_of {w : World} {B : Nat} {v : Value} {ws : List (List Int)} (h : OwnRows w B v ws) : OwnRowsIn w B w.heap.size v ws := by
  obtain ⟨g, cap, us, rfl, h1, h2, h3, h4, h5⟩ := h
  refine ⟨g, cap, us, rfl, h1, h2, h3, h4, fun j k hj hk => ?_⟩
  obtain ⟨g1, e1, _, q⟩ := ownInts_block (h4.each j hj)
  rw [e1, Option.some.injEq] at hk; omega
theorem ownRowsIn_kept {w w' : World} {B U : Nat} {v : Value} {ws : List (List Int)} (hb : Below w.heap.size w w') (h : OwnRowsIn w B U v ws) : OwnRowsIn w' B U v ws := by
  obtain ⟨g, cap, us, rfl, h1, h2, h3, h4, h5⟩ := h
  exact ⟨g, cap, us, rfl, h1, h2, row_keep1 hb h3, rowsOwn_kept hb h4, h5⟩
theorem ownRowsIn_set {w : World} {B U : Nat} {v : Value} {ws : List (List Int)} (h : OwnRowsIn w B U v ws) (b o : Nat) (x : Value) (hb : b < B) : OwnRowsIn (w.setCell ⟨b, o, none⟩ x) B U v ws := by
  obtain ⟨g, cap, us, rfl, h1, h2, hown, h4, h5⟩ := h
  refine ⟨g, cap, us, rfl, h1, h2, hown.kept (row := some b) ⟨rfl, rfl, rfl, by simp, fun k _ hk => Below.heap_setCell _ _ _ _ (by intro e; exact hk (by simp only at e; rw [e]))⟩ (.inr (by simp [Value.ownBlock]; omega)), rowsOwn_set h4 b o x hb, h5⟩
theorem row_base1 {w : World} {B B' sz : Nat} {e : TypeId} {v : Value} {n : Nat} {xs : List Value} (h : w.ownsRow B e sz v n xs) (hB : B' ≤ B) : w.ownsRow B' e sz v n xs := by
  refine ⟨h.1, ?_⟩
  rcases h.2 with hn | ⟨g, cap, cur, rfl, hb, rest⟩
  · exact .inl hn
  · exact .inr ⟨g, cap, cur, rfl, by omega, rest⟩
theorem modOwn_join {w : World} {B u1 u2 q0 : Nat} {v0 v1 v2 : Value} {zs bs : List Int} {ws : List (List Int)} (h0 : OwnInts w B v0 zs) (e0 : v0.ownBlock = some q0) (hq : q0 < u1) (h1 : OwnRowsIn w u1 u2 v1 ws) (h2 : OwnInts w u2 v2 bs)
    (hB : B ≤ u1) (hu : u1 ≤ u2) (hs : u2 ≤ w.heap.size) : ModOwn w B w.heap.size v0 v1 v2 zs ws bs := by
  obtain ⟨g, cap, us, rfl, r1, r2, r3, r4, r5⟩ := h1
  obtain ⟨g2, e2, p2, p3⟩ := ownInts_block h2
  obtain ⟨g0, e0', p0, p1⟩ := ownInts_block h0
  refine ⟨Nat.le_refl _, us, g, cap, rfl, by omega, by omega, row_base1 r3 hB, ⟨by simp [r4.len], fun j hj => ?_, fun i j hij hj => ?_⟩, fun j k hj hk => ?_⟩
  · match j, hj with
    | 0, _ => exact h0
    | 1, _ => exact ownInts_base h2 (by omega)
    | j + 2, hj => exact ownInts_base (r4.each j (by simpa using hj)) hB
  · match i, j, hij, hj with
    | 0, 0, hij, _ => omega
    | 0, 1, _, _ => show v0.ownBlock ≠ v2.ownBlock; rw [e0, e2]; simp; omega
    | 0, j + 2, _, hj =>
      show v0.ownBlock ≠ (us.getD j undef).ownBlock
      obtain ⟨g3, e3, q3, _⟩ := ownInts_block (r4.each j (by simpa using hj))
      rw [e0, e3]; simp; omega
    | 1, 1, hij, _ => omega
    | 1, j + 2, _, hj =>
      show v2.ownBlock ≠ (us.getD j undef).ownBlock
      obtain ⟨g3, e3, q3, _⟩ := ownInts_block (r4.each j (by simpa using hj))
      have := r5 j g3 (by simpa using hj) e3
      rw [e2, e3]; simp; omega
    | i + 2, j + 2, hij, hj => exact r4.apart i j (by omega) (by simpa using hj)
  · match j, hj with
    | 0, _ => have hk' : v0.ownBlock = some k := hk
              rw [e0', Option.some.injEq] at hk'; omega
    | 1, _ => have hk' : v2.ownBlock = some k := hk
              rw [e2, Option.some.injEq] at hk'; omega
    | j + 2, hj => have := r5 j k (by omega) hk
                   omega
end Go.Proofs.Ytpjopfhkgegahaa
