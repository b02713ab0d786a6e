/- The text of a measurement: when one is valid, and the reference model's text. -/
import Derived.Test.YtfleececlafjkabDoorPartNameQ
import Derived.Test.YtfleececlafjkabDoorHzText
import Derived.Test.YtfleececlafjkabDoorNameSpecE
import Derived.Test.YtfleececlafjkabDoorNameImplE
import Derived.Deep.RegionHeld3
import Derived.Deep.Strs
import Derived.Lib.SmallJoins
set_option linter.unusedVariables false
namespace Go.Proofs.YtfleececlafjkabDoor
open Go.ChangeShapes Go.WideShapes Go.ChangeAt Go.RowKit Go.Deep

def meaB (s : ByteArray) (k f : Int) : Bool := nameB s && (inB k 1 5 && okF f)
def meaT (s : ByteArray) (k f : Int) : ByteArray := s ++ (⟨#[32]⟩ : ByteArray) ++ pnT k ++ (⟨#[32]⟩ : ByteArray) ++ hzT f.toNat
def meaV (s : ByteArray) (k f : Int) : ByteArray := if meaB s k f = true then meaT s k f else ByteArray.empty
theorem mea_iff {s : ByteArray} {k f : Int} : meaB s k f = true ↔ nameB s = true ∧ inB k 1 5 = true ∧ okF f = true := by simp [meaB]
theorem pnT_size (k : Int) : (pnT k).size ≤ 7 := by
  unfold pnT
  split
  · have hA : ∀ j : Nat, (partNms.getD j ByteArray.empty).size ≤ 7 := fun j => by
      by_cases h : j < 5
      · rcases (by omega : j = 0 ∨ j = 1 ∨ j = 2 ∨ j = 3 ∨ j = 4) with rfl | rfl | rfl | rfl | rfl <;> decide
      · rw [List.getD_eq_getElem?_getD, List.getElem?_eq_none (show partNms.length ≤ j from Nat.le_of_not_lt h)]; decide
    exact hA _
  · decide
theorem hzT_size (n : Nat) (h : n ≤ 20000000) : (hzT n).size ≤ 30 := by
  have h1 := digits_len (n / 1000) (by omega)
  have h3 : (dg3 (n % 1000)).length = 3 := rfl
  show (hzL n).toArray.size ≤ 30
  rw [List.size_toArray]
  unfold hzL
  rw [List.length_append, List.length_cons, h3]
  omega
theorem nameM_size {s : ByteArray} (h : nameB s = true) : s.size ≤ 10 := by
  unfold nameB NameP at h
  exact (of_decide_eq_true h).2.1
theorem ret_strM {a b : ByteArray} (h : a = b) : Ending.returned (.string a) = .returned (.string b) := by rw [h]
/-- Block p holds a measurement. -/
structure MeaIn (w : World) (p : Nat) (s : ByteArray) (k f : Int) : Prop where
  c0 : w.cell? ⟨p, 0, none⟩ = some (.string s)
  c1 : w.cell? ⟨p, 1, none⟩ = some (.int .i64 k)
  c2 : w.cell? ⟨p, 2, none⟩ = some (.int .i64 f)
theorem mea_kept {w w' : World} {p : Nat} {s : ByteArray} {k f : Int} (hb : Below w.heap.size w w') (hl : p < w.heap.size) (h : MeaIn w p s k f) : MeaIn w' p s k f :=
  ⟨(below_cell hb _ _ hl).trans h.c0, (below_cell hb _ _ hl).trans h.c1, (below_cell hb _ _ hl).trans h.c2⟩
theorem mea_new (w : World) (s : ByteArray) (k f : Int) (T : TypeId) : MeaIn (w.alloc (.cells #[.string s, .int .i64 k, .int .i64 f] T)) w.heap.size s k f := ⟨by go_simp, by go_simp, by go_simp⟩
set_option maxHeartbeats 1000000 in
theorem l11One_any (p : Nat) (s : ByteArray) (k f : Int) (w : World) (h : MeaIn w p s k f) (hs : s.size ≤ maxLen) :
    Calls Tryd.prog 18 #[.pointer (some ⟨p, 0, none⟩)] w fun e w' => e = .returned (.bool (meaB s k f)) ∧ w = w' := by
  obtain ⟨c0, c1, c2⟩ := h
  rcases Bool.eq_false_or_eq_true (nameB s) with h1 | h1
  · have H1 := Lib.hid h1
    rcases Bool.eq_false_or_eq_true (inB k 1 5) with h2 | h2
    · have H2 := Lib.hid h2
      have HF := Lib.hid (show meaB s k f = okF f by unfold meaB; rw [h1, h2]; rfl)
      clear h1 h2
      go_enter Tryd.func18, Tryd.ntmps18
      go_wp2_with fail
      refine (specName_any s _ hs).mono ?_
      rintro e w2 ⟨rfl, rfl⟩
      rw [H1.out]
      go_wp2_with fail
      refine (l04Partial_any k _).mono ?_
      rintro e w2 ⟨rfl, rfl⟩
      rw [H2.out]
      go_wp2_with fail
      refine (l02Ok_any f _).mono ?_
      rintro e w2 ⟨rfl, rfl⟩
      go_wp2
      go_ret
      exact ⟨ret_bool HF.out.symm, rfl⟩
    · have H2 := Lib.hid h2
      have HF := Lib.hid (show meaB s k f = false by unfold meaB; rw [h1, h2]; rfl)
      clear h1 h2
      go_enter Tryd.func18, Tryd.ntmps18
      go_wp2_with fail
      refine (specName_any s _ hs).mono ?_
      rintro e w2 ⟨rfl, rfl⟩
      rw [H1.out]
      go_wp2_with fail
      refine (l04Partial_any k _).mono ?_
      rintro e w2 ⟨rfl, rfl⟩
      rw [H2.out]
      go_wp2
      go_ret
      exact ⟨ret_bool HF.out.symm, rfl⟩
  · have H1 := Lib.hid h1
    have HF := Lib.hid (show meaB s k f = false by unfold meaB; rw [h1]; rfl)
    clear h1
    go_enter Tryd.func18, Tryd.ntmps18
    go_wp2_with fail
    refine (specName_any s _ hs).mono ?_
    rintro e w2 ⟨rfl, rfl⟩
    rw [H1.out]
    go_wp2
    go_ret
    exact ⟨ret_bool HF.out.symm, rfl⟩
theorem mea_next {W w w2 : World} {p : Nat} {x y z : Value} (hz : p < W.heap.size)
    (h : w.cell? ⟨p, 0, none⟩ = some x ∧ w.cell? ⟨p, 1, none⟩ = some y ∧ w.cell? ⟨p, 2, none⟩ = some z ∧ Below W.heap.size W w) (hb : Below w.heap.size w w2) :
    w2.cell? ⟨p, 0, none⟩ = some x ∧ w2.cell? ⟨p, 1, none⟩ = some y ∧ w2.cell? ⟨p, 2, none⟩ = some z ∧ Below W.heap.size W w2 := by
  obtain ⟨h3, h4, h5, hB⟩ := h
  have k2 := Nat.lt_of_lt_of_le hz hB.size
  exact ⟨(below_cell hb _ _ k2).trans h3, (below_cell hb _ _ k2).trans h4, (below_cell hb _ _ k2).trans h5, below_of hB hb hB.size⟩
set_option maxRecDepth 20000 in
set_option maxHeartbeats 2000000 in
theorem l11Text_any (p : Nat) (s : ByteArray) (k f : Int) (w : World) (h : MeaIn w p s k f) (hl : p < w.heap.size) (hv : meaB s k f = true) :
    Calls Tryd.prog 19 #[.pointer (some ⟨p, 0, none⟩)] w fun e w' => e = .returned (.string (meaT s k f)) ∧ Below w.heap.size w w' := by
  obtain ⟨v1, v2, v3⟩ := mea_iff.1 hv
  obtain ⟨f0, f1⟩ := okF_iff.1 v3
  obtain ⟨n, rfl⟩ := Int.eq_ofNat_of_zero_le (by omega : 0 ≤ f)
  obtain ⟨c0, c1, c2⟩ := h
  have HN := Lib.hid (show meaT s k (n : Int) = s ++ (⟨#[32]⟩ : ByteArray) ++ pnT k ++ (⟨#[32]⟩ : ByteArray) ++ hzT n from rfl)
  have z1 := nameM_size v1
  have z2 := pnT_size k
  have z3 := hzT_size n (by omega)
  have HP := Lib.hid (fun w => specPartName_any k w)
  have HH := Lib.hid (fun w => l02Hertz_any n w (by omega) (by omega))
  generalize pnT k = tp at *
  generalize hzT n = th at *
  have g1 : ¬ 9223372036854775807 < s.size + 1 := by omega
  have g2 : ¬ 9223372036854775807 < s.size + 1 + tp.size := by omega
  have g3 : ¬ 9223372036854775807 < s.size + 1 + tp.size + 1 := by omega
  have g4 : ¬ 9223372036854775807 < s.size + 1 + tp.size + 1 + th.size := by omega
  have HS := Lib.hid (show w.drew.cell? ⟨p, 0, none⟩ = some (.string s) ∧ w.drew.cell? ⟨p, 1, none⟩ = some (.int .i64 k) ∧ w.drew.cell? ⟨p, 2, none⟩ = some (.int .i64 (n : Int)) ∧ Below w.heap.size w w.drew from ⟨c0, c1, c2, ⟨rfl, rfl, rfl, Nat.le_refl _, fun _ _ => rfl⟩⟩)
  clear z1 z2 z3 v1 v2 v3 hv f0 f1
  go_enter Tryd.func19, Tryd.ntmps19
  go_wp2
  go_region_held3 (fun w' => w'.cell? ⟨p, 0, none⟩ = some (.string s) ∧ w'.cell? ⟨p, 1, none⟩ = some (.int .i64 k) ∧ w'.cell? ⟨p, 2, none⟩ = some (.int .i64 (n : Int)) ∧ Below w.heap.size w w')
    (first | exact HS.out | assumption)
    (first
      | (go_at_call 37; refine (HP.out _).mono ?_; rintro e w6 ⟨rfl, hb6⟩; have hk6 := mea_next hl (by assumption) hb6)
      | (go_at_call 38; refine (HH.out _).mono ?_; rintro e w7 ⟨rfl, hb7⟩; have hk7 := mea_next hl (by assumption) hb7))
  have HB2 := Lib.hid hk7.2.2.2
  clear hk6 hk7
  go_wp2
  go_ret
  exact ⟨ret_strM HN.out.symm, HB2.out⟩
set_option maxHeartbeats 1000000 in
theorem specMT_any (s : ByteArray) (k f : Int) (w : World) (hs : s.size ≤ maxLen) :
    Calls Tryd.prog 7 #[.agg #[.string s, .int .i64 k, .int .i64 f]] w fun e w' => e = .returned (.string (meaV s k f)) ∧ Below w.heap.size w w' := by
  have HM := Lib.hid (mea_new w s k f 26)
  have hl : w.heap.size < (w.alloc (.cells #[.string s, .int .i64 k, .int .i64 f] 26)).heap.size := by simp
  have HB := Lib.hid ((Below.refl w.heap.size w).alloc (Nat.le_refl _) (.cells #[.string s, .int .i64 k, .int .i64 f] 26))
  rcases Bool.eq_false_or_eq_true (meaB s k f) with h1 | h1
  · have H1 := Lib.hid h1
    have HR := Lib.hid (show meaV s k f = meaT s k f by unfold meaV; rw [if_pos h1])
    rw [HR.out]
    clear h1
    go_enter Tryd.func7, Tryd.ntmps7
    go_wp2_with fail
    generalize (w.alloc (.cells #[.string s, .int .i64 k, .int .i64 f] 26)) = wA at *
    refine (l11One_any _ s k f _ HM.out hs).mono ?_
    rintro e w2 ⟨rfl, rfl⟩
    rw [H1.out]
    go_wp2_with fail
    refine (l11Text_any _ s k f _ HM.out hl H1.out).mono ?_
    rintro e w3 ⟨rfl, hb⟩
    have HB2 := Lib.hid (below_of HB.out hb HB.out.size)
    clear hb
    go_wp2
    go_ret
    exact ⟨rfl, HB2.out⟩
  · have H1 := Lib.hid h1
    have HR := Lib.hid (show meaV s k f = ByteArray.empty by unfold meaV; rw [if_neg (by rw [h1]; simp)])
    rw [HR.out]
    clear h1
    go_enter Tryd.func7, Tryd.ntmps7
    go_wp2_with fail
    generalize (w.alloc (.cells #[.string s, .int .i64 k, .int .i64 f] 26)) = wA at *
    refine (l11One_any _ s k f _ HM.out hs).mono ?_
    rintro e w2 ⟨rfl, rfl⟩
    rw [H1.out]
    go_wp2
    go_ret
    exact ⟨rfl, HB.out⟩
end Go.Proofs.YtfleececlafjkabDoor
