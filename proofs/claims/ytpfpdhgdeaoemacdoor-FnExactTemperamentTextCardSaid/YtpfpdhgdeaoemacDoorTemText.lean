/- TemperamentText: the program's text of a temperament and the reference model's. -/
import Derived.Test.YtpfpdhgdeaoemacDoorValidTemp
import Derived.Test.YtpfpdhgdeaoemacDoorListImpl
import Derived.Deep.RegionHeld3
namespace Go.Proofs.YtpfpdhgdeaoemacDoor
open Go.ChangeShapes Go.WideShapes Go.ChangeAt Go.RowKit

/-- A list of numbers at the beginning of a block. -/
def Ints0 (w : World) (v : Value) (zs : List Int) : Prop := zs.length ≤ 1048576 ∧ ∃ g c, v = .slice (some ⟨g, 0, none⟩) zs.length c ∧ g < w.heap.size ∧ ∀ j, j < zs.length → w.cell? ⟨g, 0 + j, none⟩ = some (.int .i64 (zs.getD j 0))
theorem ints0_ints {w : World} {v : Value} {zs : List Int} (h : Ints0 w v zs) : IntsAt w v zs := by
  obtain ⟨hl, g, c, rfl, hg, hc⟩ := h
  exact ⟨hl, .inr ⟨g, 0, c, rfl, hg, hc⟩⟩
theorem ints0_kept {w w' : World} {v : Value} {zs : List Int} (hb : Below w.heap.size w w') (h : Ints0 w v zs) : Ints0 w' v zs := by
  obtain ⟨hl, g, c, rfl, hg, hc⟩ := h
  exact ⟨hl, g, c, rfl, by have := hb.size; omega, fun j hj => by rw [hb.cell (p := ⟨g, 0 + j, none⟩) hg]; exact hc j hj⟩
theorem own_ints0 {w : World} {B : Nat} {v : Value} {zs : List Int} (hl : zs.length ≤ 1048576) (h : OwnAt w B v zs) : Ints0 w v zs := by
  obtain ⟨B', _, h2⟩ := h
  obtain ⟨g, cap, rfl, _, hlt, hown⟩ := h2
  refine ⟨hl, g, cap, rfl, hlt, fun j hj => ?_⟩
  rw [Nat.zero_add, hown.cellAt j (by omega), i64s_get _ j hj]

def lineT (s : ByteArray) (zs : List Int) : ByteArray := s ++ (⟨#[32]⟩ : ByteArray) ++ ⟨(joinTo zs 12).toArray⟩
def temT (s : ByteArray) (zs : List Int) : ByteArray := if tempB s zs = true then lineT s zs else ByteArray.empty
theorem temB_parts {s : ByteArray} {zs : List Int} (h : tempB s zs = true) : s.size ≤ 10 ∧ zs.length = 12 ∧ ∀ j, j < 12 → -500 ≤ zs.getD j 0 ∧ zs.getD j 0 ≤ 500 := by
  unfold tempB nameB NameP at h
  simp only [Bool.and_eq_true, decide_eq_true_eq] at h
  obtain ⟨h1, h2, h3⟩ := h
  refine ⟨(of_decide_eq_true h1).2.1, h2, fun j hj => ?_⟩
  unfold allIn at h3
  rw [List.all_eq_true] at h3
  have := h3 (zs[j]'(by omega)) (List.getElem_mem _)
  rw [List.getD_eq_getElem?_getD, List.getElem?_eq_getElem (by omega)]
  exact inB_iff.1 this
theorem join_size {zs : List Int} (h : zs.length = 12) (hb : ∀ j, j < 12 → -500 ≤ zs.getD j 0 ∧ zs.getD j 0 ≤ 500) : (⟨(joinTo zs 12).toArray⟩ : ByteArray).size ≤ 264 := by
  have := joinTo_len zs (fun j hj => by have := hb j (by omega); omega) 12 (by omega)
  show (joinTo zs 12).toArray.size ≤ _
  rw [List.size_toArray]
  omega
theorem list_valid {zs : List Int} (h : zs.length = 12) (hb : ∀ j, j < 12 → -500 ≤ zs.getD j 0 ∧ zs.getD j 0 ≤ 500) : listV zs = ⟨(joinTo zs 12).toArray⟩ := by
  have hf : fitsV zs = true := by
    unfold fitsV
    rw [allIn_true (fun j hj => inB_true (by have := hb j (by omega); omega)), h]
    rfl
  unfold listV
  rw [if_pos hf, if_neg (by omega), h]
theorem held2 {w W w2 : World} {b : Nat} {x y : Value} (hB : Below w.heap.size w W) (hb0 : b < W.heap.size) (h0 : W.cell? ⟨b, 0, none⟩ = some x) (h1 : W.cell? ⟨b, 1, none⟩ = some y) (hb : Below W.drew.heap.size W.drew w2) :
    w2.cell? ⟨b, 0, none⟩ = some x ∧ w2.cell? ⟨b, 1, none⟩ = some y ∧ Below w.heap.size w w2 := by
  have hb2 : Below W.heap.size W w2 := ⟨hb.os, hb.tape, hb.output, hb.size, hb.block⟩
  exact ⟨by rw [hb2.cell (p := ⟨b, 0, none⟩) hb0]; exact h0, by rw [hb2.cell (p := ⟨b, 1, none⟩) hb0]; exact h1, hB.trans (hb2.mono hB.size)⟩

set_option maxRecDepth 20000 in
set_option maxHeartbeats 1000000 in
theorem l03Line_any (s : ByteArray) (zs : List Int) (b g c : Nat) (w : World) (hv : tempB s zs = true) (hb0 : b < w.heap.size) (h0 : w.cell? ⟨b, 0, none⟩ = some (.string s)) (h1 : w.cell? ⟨b, 1, none⟩ = some (.slice (some ⟨g, 0, none⟩) 12 c)) (hg : g < w.heap.size)
    (hc : ∀ j, j < 12 → w.cell? ⟨g, 0 + j, none⟩ = some (.int .i64 (zs.getD j 0))) :
    Calls Tryd.prog 16 #[.pointer (some ⟨b, 0, none⟩)] w fun e w' => e = .returned (.string (lineT s zs)) ∧ Below w.heap.size w w' := by
  obtain ⟨hs, hl, hbd⟩ := temB_parts hv
  have hj := join_size hl hbd
  have HL := Lib.hid (show s ++ (⟨#[32]⟩ : ByteArray) ++ (⟨(joinTo zs 12).toArray⟩ : ByteArray) = lineT s zs from rfl)
  have HC := Lib.hid (show Calls Tryd.prog 29 #[.slice (some ⟨g, 0, none⟩) 12 c] w.drew fun e w' => e = .returned (.string ⟨(joinTo zs 12).toArray⟩) ∧ Below w.drew.heap.size w.drew w' from
    list_some zs g 0 c w.drew 12 (Lib.hid hl) (by omega) (by omega) hg hc (fun j hj => by have := hbd j hj; omega))
  generalize (⟨(joinTo zs 12).toArray⟩ : ByteArray) = z at *
  have hq1 : ¬ 9223372036854775807 < s.size + 1 := by omega
  have hq2 : ¬ 9223372036854775807 < s.size + 1 + z.size := by omega
  clear hc hbd hl hv
  go_enter Tryd.func16, Tryd.ntmps16
  go_wp2
  go_region_held3 (fun w' => w'.cell? ⟨b, 0, none⟩ = some (.string s) ∧ w'.cell? ⟨b, 1, none⟩ = some (.slice (some ⟨g, 0, none⟩) 12 c) ∧ Below w.heap.size w w') (first | exact ⟨h0, h1, ⟨rfl, rfl, rfl, Nat.le_refl _, fun _ _ => rfl⟩⟩ | exact held2 (Below.refl _ _) hb0 h0 h1 hb2 | assumption)
    (first | (go_at_call 29; refine HC.out.mono ?_; rintro e w2 ⟨rfl, hb2⟩))
  clear hb2
  rename_i hHeld
  have HE := Lib.hid hHeld.2.2
  clear hHeld
  go_wp2
  go_ret
  exact ⟨ret_string HL.out, HE.out⟩

set_option maxRecDepth 20000 in
set_option maxHeartbeats 1000000 in
theorem specTemText_any (s : ByteArray) (v : Value) (zs : List Int) (w : World) (h : Ints0 w v zs) (hs : s.size ≤ 9223372036854775807) :
    Calls Tryd.prog 6 #[.agg #[.string s, v]] w fun e w' => e = .returned (.string (temT s zs)) ∧ Below w.heap.size w w' := by
  have HI := Lib.hid (ints0_ints h)
  obtain ⟨_, g, c, rfl, hg, hc⟩ := h
  rcases t_cases (tempB s zs) with hv | hv
  · obtain ⟨_, hl, _⟩ := temB_parts hv
    have HR := Lib.hid (show temT s zs = lineT s zs by unfold temT; rw [if_pos hv])
    rw [hl] at HI hc ⊢
    have HC := Lib.hid hc
    have HV := Lib.hid hv
    clear hc hv hl
    go_enter Tryd.func6, Tryd.ntmps6
    go_wp2_with fail
    refine (l03Ok_any s _ zs _ _ ⟨by go_simp, by go_simp, ints_kept ((Below.refl _ _).alloc (Nat.le_refl _) _) HI.out⟩ hs).mono ?_
    rintro e w1 ⟨rfl, rfl⟩
    rw [HV.out]
    have HB := Lib.hid ((Below.refl w.heap.size w).alloc (Nat.le_refl _) (.cells #[.string s, .slice (some ⟨g, 0, none⟩) 12 c] 27))
    go_wp2_with fail
    refine (l03Line_any s zs w.heap.size g c _ HV.out (by simp) (by go_simp) (by go_simp) (by have := HB.out.size; omega) (fun j hj => by rw [HB.out.cell (p := ⟨g, 0 + j, none⟩) hg]; exact HC.out j hj)).mono ?_
    rintro e w2 ⟨rfl, hb2⟩
    have HB2 := Lib.hid (below_of HB.out hb2 HB.out.size)
    clear hb2
    go_wp2
    go_ret
    exact ⟨ret_string HR.out.symm, HB2.out⟩
  · have HR := Lib.hid (show temT s zs = ByteArray.empty by unfold temT; rw [if_neg (by rw [hv]; simp)])
    have HV := Lib.hid hv
    clear hc hv
    go_enter Tryd.func6, Tryd.ntmps6
    go_wp2_with fail
    refine (l03Ok_any s _ zs _ _ ⟨by go_simp, by go_simp, ints_kept ((Below.refl _ _).alloc (Nat.le_refl _) _) HI.out⟩ hs).mono ?_
    rintro e w1 ⟨rfl, rfl⟩
    rw [HV.out]
    go_wp2
    go_ret
    exact ⟨ret_string HR.out.symm, (Below.refl _ _).alloc (Nat.le_refl _) _⟩

set_option maxRecDepth 20000 in
set_option maxHeartbeats 1000000 in
theorem implTemText_any (s : ByteArray) (v : Value) (zs : List Int) (w : World) (h : Ints0 w v zs) (hs : s.size ≤ 9223372036854775807) (hp : Hid (PowOk w)) :
    Calls Tryd.prog 8 #[.agg #[.string s, v]] w fun e w' => e = .returned (.string (temT s zs)) ∧ Below w.heap.size w w' := by
  have HI := Lib.hid (ints0_ints h)
  obtain ⟨_, g, c, rfl, hg, hc⟩ := h
  rcases t_cases (tempB s zs) with hv | hv
  · obtain ⟨hsz, hl, hbd⟩ := temB_parts hv
    have hj := join_size hl hbd
    have HR := Lib.hid (show s ++ (⟨#[32]⟩ : ByteArray) ++ (⟨(joinTo zs 12).toArray⟩ : ByteArray) = temT s zs by unfold temT; rw [if_pos hv]; rfl)
    have HLV := Lib.hid (list_valid hl hbd)
    have HLN := Lib.hid hl
    rw [hl] at HI hc ⊢
    have HC := Lib.hid hc
    have HV := Lib.hid hv
    clear hc hv hbd hl
    generalize (⟨(joinTo zs 12).toArray⟩ : ByteArray) = z at *
    have hq1 : ¬ 9223372036854775807 < s.size + 1 := by omega
    have hq2 : ¬ 9223372036854775807 < s.size + 1 + z.size := by omega
    go_enter Tryd.func8, Tryd.ntmps8
    go_wp2_with fail
    refine (implValid_any s _ zs _ (ints_kept ((Below.refl _ _).alloc (Nat.le_refl _) _) HI.out) hs).mono ?_
    rintro e w1 ⟨rfl, hb⟩
    rw [HV.out]
    have h0 : w1.cell? ⟨w.heap.size, 0, none⟩ = some (.string s) := by rw [below_cell hb _ _ (by simp)]; go_simp
    have h1 : w1.cell? ⟨w.heap.size, 1, none⟩ = some (.slice (some ⟨g, 0, none⟩) 12 c) := by rw [below_cell hb _ _ (by simp)]; go_simp
    have HB := Lib.hid (below_of ((Below.refl _ _).alloc (Nat.le_refl _) _) hb (by simp))
    have hb0 : w.heap.size < w1.heap.size := cell_lt5 h0
    have HG := Lib.hid (show Calls Tryd.prog 19 #[.slice (some ⟨g, 0, none⟩) 12 c] w1.drew fun e w' => e = .returned (.string z) ∧ Below w1.drew.heap.size w1.drew w' by
      rw [← HLV.out]
      exact implListText_any zs g c w1.drew 12 HLN (by omega) (by show g < w1.heap.size; omega) (fun j hj => by show w1.cell? _ = _; rw [HB.out.cell (p := ⟨g, 0 + j, none⟩) hg]; exact HC.out j hj) (Lib.hid (pow_kept (show Below w1.heap.size w1 w1.drew from ⟨rfl, rfl, rfl, Nat.le_refl _, fun _ _ => rfl⟩) (pow_kept HB.out hp.out))))
    clear hb
    go_wp2
    go_region_held3 (fun w' => w'.cell? ⟨w.heap.size, 0, none⟩ = some (.string s) ∧ w'.cell? ⟨w.heap.size, 1, none⟩ = some (.slice (some ⟨g, 0, none⟩) 12 c) ∧ Below w.heap.size w w') (first | exact ⟨h0, h1, ⟨HB.out.os, HB.out.tape, HB.out.output, HB.out.size, HB.out.block⟩⟩ | exact held2 HB.out hb0 h0 h1 hb2 | assumption)
      (first | (go_at_call 19; refine HG.out.mono ?_; rintro e w2 ⟨rfl, hb2⟩))
    clear hb2
    rename_i hHeld
    have HE := Lib.hid hHeld.2.2
    clear hHeld
    go_wp2
    go_ret
    exact ⟨ret_string HR.out, HE.out⟩
  · have HR := Lib.hid (show temT s zs = ByteArray.empty by unfold temT; rw [if_neg (by rw [hv]; simp)])
    have HV := Lib.hid hv
    clear hc hv
    go_enter Tryd.func8, Tryd.ntmps8
    go_wp2_with fail
    refine (implValid_any s _ zs _ (ints_kept ((Below.refl _ _).alloc (Nat.le_refl _) _) HI.out) hs).mono ?_
    rintro e w1 ⟨rfl, hb⟩
    rw [HV.out]
    have HB := Lib.hid (below_of ((Below.refl _ _).alloc (Nat.le_refl _) _) hb (by simp))
    clear hb
    go_wp2
    go_ret
    exact ⟨ret_string HR.out.symm, HB.out⟩
end Go.Proofs.YtpfpdhgdeaoemacDoor
