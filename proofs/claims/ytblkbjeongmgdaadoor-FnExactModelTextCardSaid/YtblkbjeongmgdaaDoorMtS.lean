/- A model's text: the mathematics and the reference model. -/
import Derived.Test.YtblkbjeongmgdaaDoorModSpec
import Derived.Test.YtblkbjeongmgdaaDoorListSpec
set_option linter.unusedVariables false
namespace Go.Proofs.YtblkbjeongmgdaaDoor
open Go.ChangeShapes Go.WideShapes Go.ChangeAt Go.RowKit

theorem allIn_of {lo hi : Int} {zs : List Int} (h : ∀ j, j < zs.length → lo ≤ zs.getD j 0 ∧ zs.getD j 0 ≤ hi) : allIn lo hi zs = true := by
  unfold allIn
  rw [List.all_eq_true]
  intro x hx
  obtain ⟨j, hj, rfl⟩ := List.mem_iff_getElem.1 hx
  have := h j hj
  rw [List.getD_eq_getElem?_getD, List.getElem?_eq_getElem hj] at this
  exact inB_true this
theorem fits_in {lo hi : Int} {zs : List Int} (h : allIn lo hi zs = true) (h0 : -1000000000000 ≤ lo) (h1 : hi ≤ 1000000000000) (hl : zs.length ≤ 64) : fitsV zs = true := by
  unfold fitsV
  rw [Bool.and_eq_true, decide_eq_true_eq]
  exact ⟨allIn_of fun j hj => by have := allIn_at h j hj; omega, hl⟩
theorem fits_zones {zs : List Int} (h : zonesB zs = true) : fitsV zs = true := by
  have hl := zones_len h
  have h2 := (zones_rise h).2
  refine fits_in (lo := 0) (hi := 31) (allIn_of fun j hj => ?_) (by omega) (by omega) (by omega)
  unfold risesB at h2
  rw [List.all_eq_true] at h2
  have := h2 j (by simpa using hj)
  simp only [riseAt, inB, Bool.and_eq_true, decide_eq_true_eq] at this
  omega
theorem joinTo_size (zs : List Int) (hw : ∀ j, j < zs.length → -9223372036854775808 ≤ zs.getD j 0 ∧ zs.getD j 0 ≤ 9223372036854775807) : ∀ k, 0 < k → k ≤ zs.length → (joinTo zs k).length ≤ 22 * k
  | 0, h, _ => by omega
  | 1, _, h => by
    rw [joinTo_first zs (by omega)]
    have := hw 0 (by omega)
    have := Lib.itoa_length_le _ this.1 this.2
    omega
  | k + 2, _, h => by
    rw [joinTo_next zs (k + 1) (by omega) (by omega)]
    have h1 := joinTo_size zs hw (k + 1) (by omega) (by omega)
    have := hw (k + 1) (by omega)
    have := Lib.itoa_length_le _ this.1 this.2
    simp only [List.length_append, List.length_cons]
    omega
theorem fits_at {zs : List Int} (h : fitsV zs = true) (j : Nat) (hj : j < zs.length) : -9223372036854775808 ≤ zs.getD j 0 ∧ zs.getD j 0 ≤ 9223372036854775807 := by
  unfold fitsV at h
  rw [Bool.and_eq_true] at h
  have := allIn_at h.1 j hj
  omega
theorem fits_len {zs : List Int} (h : fitsV zs = true) : zs.length ≤ 64 := by
  unfold fitsV at h
  rw [Bool.and_eq_true, decide_eq_true_eq] at h
  exact h.2
theorem listV_size {zs : List Int} (h : fitsV zs = true) (h0 : 0 < zs.length) : (listV zs).size ≤ 1408 := by
  have hl := fits_len h
  have h1 := joinTo_size zs (fits_at h) zs.length h0 (Nat.le_refl _)
  unfold listV
  rw [if_pos h, if_neg (by omega)]
  show (joinTo zs zs.length).toArray.size ≤ _
  rw [List.size_toArray]
  omega
/-- The text of a model's first list and its first k rows. -/
def mtTo (zs : List Int) (ws : List (List Int)) : Nat → ByteArray
  | 0 => listV zs
  | k + 1 => mtTo zs ws k ++ ((⟨#[47]⟩ : ByteArray) ++ listV (ws.getD k []))
def mtV (zs : List Int) (ws : List (List Int)) (bs : List Int) : ByteArray := if modB zs ws bs = true then mtTo zs ws 5 ++ (⟨#[47]⟩ : ByteArray) ++ listV bs else ByteArray.empty
theorem ret_strM {a b : ByteArray} (h : b = a) : Ending.returned (.string b) = .returned (.string a) := by rw [h]
theorem modIn_allocM (w : World) (v0 v1 v2 : Value) (T : TypeId) : ModIn (w.alloc (.cells #[v0, v1, v2] T)) w.heap.size v0 v1 v2 :=
  ⟨by go_simp, by go_simp, by go_simp⟩
theorem mtTo_size {zs : List Int} {ws : List (List Int)} (hz : (listV zs).size ≤ 1408) (hw : ∀ j, j < 5 → (listV (ws.getD j [])).size ≤ 1408) : ∀ k, k ≤ 5 → (mtTo zs ws k).size ≤ 1409 * (k + 1)
  | 0, _ => by show (listV zs).size ≤ _; omega
  | k + 1, h => by
    have h1 := mtTo_size hz hw k (by omega)
    have h2 := hw k (by omega)
    have e : (⟨#[47]⟩ : ByteArray).size = 1 := rfl
    show (mtTo zs ws k ++ ((⟨#[47]⟩ : ByteArray) ++ listV (ws.getD k []))).size ≤ _
    rw [cat_size, cat_size, e]
    omega
theorem listAt_any (zs : List Int) (v : Value) (w : World) (h : IntsAt w v zs) (hf : fitsV zs = true) (h0 : 0 < zs.length) :
    Calls Tryd.prog 23 #[v] w fun e w' => e = .returned (.string (listV zs)) ∧ Below w.heap.size w w' := by
  obtain ⟨b, off, cap, rfl, hb, hc⟩ := ints_cells h h0
  have := list_some zs b off cap w zs.length (Lib.hid rfl) h0 (fits_len hf) hb hc (fits_at hf)
  unfold listV
  rw [if_pos hf, if_neg (by omega)]
  exact this
set_option maxRecDepth 20000 in
set_option maxHeartbeats 2000000 in
theorem l08Text_any (p : Nat) (v0 v1 v2 : Value) (zs : List Int) (ws : List (List Int)) (bs : List Int) (w : World) (hp : p < w.heap.size) (hm : ModIn w p v0 v1 v2) (h0 : IntsAt w v0 zs) (h1 : RowsAt w v1 ws) (h2 : IntsAt w v2 bs) (hM : modB zs ws bs = true) :
    Calls Tryd.prog 12 #[.pointer (some ⟨p, 0, none⟩)] w fun e w' => e = .returned (.string (mtV zs ws bs)) ∧ Below w.heap.size w w' := by
  obtain ⟨hz, ⟨hw5, hb5⟩, hwr, hbr⟩ := mod_iff.1 hM
  have hzl := zones_len hz
  have hfz := fits_zones hz
  have hfb := fits_in hbr (by omega) (by omega) (show bs.length ≤ 64 by omega)
  have hfw : ∀ j, j < 5 → fitsV (ws.getD j []) = true ∧ 0 < (ws.getD j []).length := fun j hj => by
    obtain ⟨g1, g2, -⟩ := row_iff.1 (allRows_at hwr j (by omega))
    exact ⟨fits_in g2 (by omega) (by omega) (by omega), by omega⟩
  have HSZ := Lib.hid (mtTo_size (zs := zs) (ws := ws) (listV_size hfz (by omega)) (fun j hj => listV_size (hfw j hj).1 (hfw j hj).2))
  have HSW := Lib.hid (fun j hj => listV_size (hfw j hj).1 (hfw j hj).2)
  have HSB := Lib.hid (listV_size hfb (by omega))
  have HV := Lib.hid (show mtTo zs ws 5 ++ (⟨#[47]⟩ : ByteArray) ++ listV bs = mtV zs ws bs by unfold mtV; rw [if_pos hM])
  obtain ⟨b1, o1, k1, rfl, hb1, hc1⟩ := mrows_cells h1 (by omega)
  have HCW := Lib.hid (fun j (hj : j < 5) => hc1 j (by omega))
  have HFW := Lib.hid hfw
  rw [hw5] at hm
  have HM := Lib.hid hm
  have HLZ := Lib.hid (listAt_any zs v0 w h0 hfz (by omega))
  have HB2 := Lib.hid h2
  have HFB := Lib.hid hfb
  have hbl : 0 < bs.length := by omega
  clear hM hz hw5 hb5 hwr hbr hfz hfb hfw h0 h1 h2 hm hzl hc1
  obtain ⟨c0, c1, c2⟩ := HM.out
  go_enter Tryd.func12, Tryd.ntmps12
  go_wp2_with fail
  refine HLZ.out.mono ?_
  rintro en w1 ⟨rfl, hb⟩
  have HB1 := Lib.hid hb
  clear hb c0 c1 c2 HLZ
  go_wp2
  go_loopw [3, 4] (fun v i wr => ∃ k : Nat, k ≤ 5 ∧ i = .int .i64 k ∧ v = .string (mtTo zs ws k) ∧ Below w.heap.size w wr) (fun _ i _ => 5 - (intOf i).toNat)
  case atStart => exact ⟨0, by omega, rfl, rfl, HB1.out⟩
  case round =>
    obtain ⟨k, hk, rfl, rfl, hbw⟩ := hrel
    obtain ⟨c0, c1, c2⟩ := modIn_keep hbw hp HM.out
    have HB := Lib.hid hbw
    by_cases hlt : k < 5
    · obtain ⟨u, hu, hIu⟩ := HCW.out k hlt
      have hcell : wr.cell? ⟨b1, o1 + k, none⟩ = some u := (below_cell hbw _ _ hb1).trans hu
      have hIr := ints_kept hbw hIu
      have HL := Lib.hid (listAt_any (ws.getD k []) u wr hIr (HFW.out k hlt).1 (HFW.out k hlt).2)
      have hs1 := HSZ.out k hk
      have hs2 := HSW.out k hlt
      have HN := Lib.hid (show mtTo zs ws (k + 1) = mtTo zs ws k ++ ((⟨#[47]⟩ : ByteArray) ++ listV (ws.getD k [])) from rfl)
      have e : ((⟨#[47]⟩ : ByteArray) ++ listV (ws.getD k [])).size = 1 + (listV (ws.getD k [])).size := by rw [cat_size]; rfl
      clear hbw hIr hIu hu
      generalize listV (ws.getD k []) = t at *
      generalize hsk : mtTo zs ws k = s at *
      clear hsk
      go_wp2_with fail
      refine HL.out.mono ?_
      rintro en w2 ⟨rfl, hb⟩
      have HB3 := Lib.hid (below_of HB.out hb HB.out.size)
      clear hb
      go_wp2
      go_roundw
      case rel => exact ⟨k + 1, by omega, by go_num, by rw [HN.out], HB3.out⟩
      case measure => simp [intOf]; omega
    · obtain rfl : k = 5 := by omega
      have hs1 := HSZ.out 5 (by omega)
      have hs2 := HSB.out
      have HL := Lib.hid (listAt_any bs v2 wr (ints_kept hbw HB2.out) HFB.out hbl)
      have e : (mtTo zs ws 5 ++ (⟨#[47]⟩ : ByteArray)).size = (mtTo zs ws 5).size + 1 := by rw [cat_size]; rfl
      have HVV := Lib.hid HV.out
      clear hbw HV
      generalize listV bs = t at *
      generalize mtTo zs ws 5 = s at *
      go_wp2_with fail
      refine HL.out.mono ?_
      rintro en w2 ⟨rfl, hb⟩
      have HB3 := Lib.hid (below_of HB.out hb HB.out.size)
      clear hb
      go_wp2
      go_ret
      exact ⟨ret_strM HVV.out, HB3.out⟩
set_option maxHeartbeats 2000000 in
theorem specMT_any (v0 v1 v2 : Value) (zs : List Int) (ws : List (List Int)) (bs : List Int) (w : World) (h0 : IntsAt w v0 zs) (h1 : RowsAt w v1 ws) (h2 : IntsAt w v2 bs) :
    Calls Tryd.prog 5 #[.agg #[v0, v1, v2]] w fun e w' => e = .returned (.string (mtV zs ws bs)) ∧ Below w.heap.size w w' := by
  have hba := (Below.refl w.heap.size w).alloc (Nat.le_refl _) (.cells #[v0, v1, v2] 28)
  have hmi := modIn_allocM w v0 v1 v2 28
  have hla : w.heap.size < (w.alloc (.cells #[v0, v1, v2] 28)).heap.size := by simp
  have HI0 := Lib.hid (ints_kept hba h0)
  have HI1 := Lib.hid (mrows_kept hba h1)
  have HI2 := Lib.hid (ints_kept hba h2)
  have HMI := Lib.hid hmi
  have HBA := Lib.hid hba
  have HK := Lib.hid (l08Ok_any w.heap.size v0 v1 v2 zs ws bs _ hla hmi HI0.out HI1.out HI2.out)
  clear hba hmi h0 h1 h2
  rcases Bool.eq_false_or_eq_true (modB zs ws bs) with hM | hM
  · have HMT := Lib.hid hM
    clear hM
    rw [HMT.out] at HK
    go_enter Tryd.func5, Tryd.ntmps5
    go_wp2_with fail
    refine HK.out.mono ?_
    rintro en w1 ⟨rfl, hb⟩
    have HT := Lib.hid (l08Text_any w.heap.size v0 v1 v2 zs ws bs w1 (Nat.lt_of_lt_of_le hla hb.size) (modIn_keep hb hla HMI.out) (ints_kept hb HI0.out) (mrows_kept hb HI1.out) (ints_kept hb HI2.out) HMT.out)
    have HB1 := Lib.hid (below_of HBA.out hb HBA.out.size)
    clear hb
    go_wp2_with fail
    refine HT.out.mono ?_
    rintro en w2 ⟨rfl, hb⟩
    have HB2 := Lib.hid (below_of HB1.out hb HB1.out.size)
    clear hb
    go_wp2
    go_ret
    exact ⟨rfl, HB2.out⟩
  · have HV := Lib.hid (show ByteArray.empty = mtV zs ws bs by unfold mtV; rw [if_neg (by rw [hM]; simp)])
    rw [hM] at HK
    clear hM
    go_enter Tryd.func5, Tryd.ntmps5
    go_wp2_with fail
    refine HK.out.mono ?_
    rintro en w1 ⟨rfl, hb⟩
    have HB1 := Lib.hid (below_of HBA.out hb HBA.out.size)
    clear hb
    go_wp2
    go_ret
    exact ⟨ret_strM HV.out, HB1.out⟩
end Go.Proofs.YtblkbjeongmgdaaDoor
