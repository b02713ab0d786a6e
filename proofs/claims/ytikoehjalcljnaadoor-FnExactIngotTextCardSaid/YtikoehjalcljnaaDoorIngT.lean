/- An ingot as text: both programs. -/
import Derived.Test.YtikoehjalcljnaaDoorIngI
import Derived.Test.YtikoehjalcljnaaDoorIngArg
import Derived.Test.YtikoehjalcljnaaDoorListImpl
import Derived.Deep.RegionHeld3
set_option linter.unusedVariables false
namespace Go.Proofs.YtikoehjalcljnaaDoor
open Go.ChangeShapes Go.WideShapes Go.ChangeAt Go.RowKit

def ingT (s : ByteArray) (a x y z : Int) : ByteArray := s ++ (⟨#[32]⟩ : ByteArray) ++ ⟨(joinTo [a, x, y, z] 4).toArray⟩
def ingTx (s : ByteArray) (a x y z : Int) : ByteArray := if ingB (s, a, x, y, z) = true then ingT s a x y z else ByteArray.empty
theorem ing_bd {s : ByteArray} {a x y z : Int} (h : ingB (s, a, x, y, z) = true) : s.size ≤ 10 ∧ ∀ j, j < 4 → 0 ≤ ([a, x, y, z] : List Int).getD j 0 ∧ ([a, x, y, z] : List Int).getD j 0 ≤ 20000000 := by
  obtain ⟨h1, ⟨a0, a1⟩, h3⟩ := ing_iff.1 h
  simp only at h1 a0 a1 h3
  obtain ⟨⟨x0, x1⟩, ⟨y0, y1⟩, ⟨z0, z1⟩, -⟩ := alloy_iff.1 h3
  refine ⟨?_, fun j hj => ?_⟩
  · unfold nameB NameP at h1
    exact (of_decide_eq_true h1).2.1
  · match j, hj with
    | 0, _ => exact ⟨by simpa using (by omega : 0 ≤ a), by simpa using a1⟩
    | 1, _ => exact ⟨by simpa using x0, by simpa using (by omega : x ≤ 20000000)⟩
    | 2, _ => exact ⟨by simpa using y0, by simpa using (by omega : y ≤ 20000000)⟩
    | 3, _ => exact ⟨by simpa using z0, by simpa using (by omega : z ≤ 20000000)⟩
theorem join4_size {zs : List Int} (h : zs.length = 4) (hb : ∀ j, j < 4 → 0 ≤ zs.getD j 0 ∧ zs.getD j 0 ≤ 20000000) : (⟨(joinTo zs 4).toArray⟩ : ByteArray).size ≤ 88 := by
  have := joinTo_len zs (fun j hj => by have := hb j (by omega); omega) 4 (by omega)
  show (joinTo zs 4).toArray.size ≤ _
  rw [List.size_toArray]
  omega
theorem list4_valid {zs : List Int} (h : zs.length = 4) (hb : ∀ j, j < 4 → 0 ≤ zs.getD j 0 ∧ zs.getD j 0 ≤ 20000000) : listV zs = ⟨(joinTo zs 4).toArray⟩ := by
  have hf : fitsV zs = true := by
    unfold fitsV
    rw [allIn_true (fun j hj => inB_true (by have := hb j (by omega); omega)), h]
    rfl
  unfold listV
  rw [if_pos hf, if_neg (by omega), h]
theorem cellI4G (w : World) (a x y z : Int) (T : TypeId) (n : Nat) (hn : n = w.heap.size) : ∀ j, j < 4 → (w.alloc (.cells #[.int .i64 a, .int .i64 x, .int .i64 y, .int .i64 z] T)).cell? ⟨n, 0 + j, none⟩ = some (.int .i64 (([a, x, y, z] : List Int).getD j 0)) := by
  subst hn
  intro j hj
  match j, hj with
  | 0, _ => go_simp
  | 1, _ => go_simp
  | 2, _ => go_simp
  | 3, _ => go_simp
theorem below_aldG (w : World) (o : Obj) : Below w.heap.size w (w.alloc o).drew := (let h := below_alG w o; ⟨h.os, h.tape, h.output, h.size, h.block⟩)
theorem below_ltG (W : World) (o : Obj) : W.heap.size < (W.alloc o).heap.size := alloc_ltG W o
theorem ret_strG {a b : ByteArray} (h : a = b) : Ending.returned (.string a) = .returned (.string b) := by rw [h]
theorem gS_next {w w' w2 : World} {p : Nat} {s : ByteArray} {a x y z : Int} (h : w'.cell? ⟨p, 0, none⟩ = some (.string s) ∧ w'.cell? ⟨p, 1, none⟩ = some (.int .i64 a) ∧ w'.cell? ⟨p, 2, none⟩ = some (.int .i64 x) ∧ w'.cell? ⟨p, 3, none⟩ = some (.int .i64 y) ∧ w'.cell? ⟨p, 4, none⟩ = some (.int .i64 z) ∧ p < w'.heap.size ∧ Below w.heap.size w w') (hb : Below w'.heap.size w' w2) : w2.cell? ⟨p, 0, none⟩ = some (.string s) ∧ w2.cell? ⟨p, 1, none⟩ = some (.int .i64 a) ∧ w2.cell? ⟨p, 2, none⟩ = some (.int .i64 x) ∧ w2.cell? ⟨p, 3, none⟩ = some (.int .i64 y) ∧ w2.cell? ⟨p, 4, none⟩ = some (.int .i64 z) ∧ p < w2.heap.size ∧ Below w.heap.size w w2 :=
  ⟨(below_cell hb _ _ h.2.2.2.2.2.1).trans h.1, (below_cell hb _ _ h.2.2.2.2.2.1).trans h.2.1, (below_cell hb _ _ h.2.2.2.2.2.1).trans h.2.2.1, (below_cell hb _ _ h.2.2.2.2.2.1).trans h.2.2.2.1, (below_cell hb _ _ h.2.2.2.2.2.1).trans h.2.2.2.2.1, Nat.lt_of_lt_of_le h.2.2.2.2.2.1 hb.size, below_of h.2.2.2.2.2.2 hb h.2.2.2.2.2.2.size⟩
theorem gS_al {w w' : World} {p : Nat} {s : ByteArray} {a x y z : Int} {o : Obj} (h : w'.cell? ⟨p, 0, none⟩ = some (.string s) ∧ w'.cell? ⟨p, 1, none⟩ = some (.int .i64 a) ∧ w'.cell? ⟨p, 2, none⟩ = some (.int .i64 x) ∧ w'.cell? ⟨p, 3, none⟩ = some (.int .i64 y) ∧ w'.cell? ⟨p, 4, none⟩ = some (.int .i64 z) ∧ p < w'.heap.size ∧ Below w.heap.size w w') : (w'.alloc o).cell? ⟨p, 0, none⟩ = some (.string s) ∧ (w'.alloc o).cell? ⟨p, 1, none⟩ = some (.int .i64 a) ∧ (w'.alloc o).cell? ⟨p, 2, none⟩ = some (.int .i64 x) ∧ (w'.alloc o).cell? ⟨p, 3, none⟩ = some (.int .i64 y) ∧ (w'.alloc o).cell? ⟨p, 4, none⟩ = some (.int .i64 z) ∧ p < (w'.alloc o).heap.size ∧ Below w.heap.size w (w'.alloc o) :=
  gS_next h ((Below.refl _ _).alloc (Nat.le_refl _) o)
set_option maxRecDepth 20000 in
set_option maxHeartbeats 4000000 in
theorem l13Text_any (p : Nat) (s : ByteArray) (a x y z : Int) (w : World) (h : GBlk w p (s, a, x, y, z)) (hl : p < w.heap.size) (hv : ingB (s, a, x, y, z) = true) :
    Calls Tryd.prog 25 #[.pointer (some ⟨p, 0, none⟩)] w fun e w' => e = .returned (.string (ingT s a x y z)) ∧ Below w.heap.size w w' := by
  have c0 : w.cell? ⟨p, 0, none⟩ = some (.string s) := h.c0
  have c1 : w.cell? ⟨p, 1, none⟩ = some (.int .i64 a) := h.c1
  have c2 : w.cell? ⟨p, 2, none⟩ = some (.int .i64 x) := h.c2
  have c3 : w.cell? ⟨p, 3, none⟩ = some (.int .i64 y) := h.c3
  have c4 : w.cell? ⟨p, 4, none⟩ = some (.int .i64 z) := h.c4
  obtain ⟨hz, hbd⟩ := ing_bd hv
  have hj := join4_size rfl hbd
  have HC := Lib.hid (list_some [a, x, y, z] w.heap.size 0 4 (w.alloc (.cells #[.int .i64 a, .int .i64 x, .int .i64 y, .int .i64 z] 2)).drew 4 (Lib.hid rfl) (by omega) (by omega) (alloc_ltG w _) (cellI4G w a x y z _ _ rfl) (fun j hj => by have := hbd j hj; omega))
  have HN := Lib.hid (show ingT s a x y z = s ++ (⟨#[32]⟩ : ByteArray) ++ ⟨(joinTo [a, x, y, z] 4).toArray⟩ from rfl)
  generalize (⟨(joinTo [a, x, y, z] 4).toArray⟩ : ByteArray) = tl at *
  have g1 : ¬ 9223372036854775807 < s.size + 1 := by omega
  have g2 : ¬ 9223372036854775807 < s.size + 1 + tl.size := by omega
  clear h hv hbd hz hj
  go_enter Tryd.func25, Tryd.ntmps25
  go_wp2
  have HS0 := Lib.hid (show w.drew.cell? ⟨p, 0, none⟩ = some (.string s) ∧ w.drew.cell? ⟨p, 1, none⟩ = some (.int .i64 a) ∧ w.drew.cell? ⟨p, 2, none⟩ = some (.int .i64 x) ∧ w.drew.cell? ⟨p, 3, none⟩ = some (.int .i64 y) ∧ w.drew.cell? ⟨p, 4, none⟩ = some (.int .i64 z) ∧ p < w.drew.heap.size ∧ Below w.heap.size w w.drew from ⟨c0, c1, c2, c3, c4, hl, ⟨rfl, rfl, rfl, Nat.le_refl _, fun _ _ => rfl⟩⟩)
  have HAL := Lib.hid (show Below w.heap.size w ((w.alloc (.cells #[.int .i64 a, .int .i64 x, .int .i64 y, .int .i64 z] 2)).drew) from (let h := below_alG w (.cells #[.int .i64 a, .int .i64 x, .int .i64 y, .int .i64 z] 2); ⟨h.os, h.tape, h.output, h.size, h.block⟩))
  have HS1 := Lib.hid (show ((w.alloc (.cells #[.int .i64 a, .int .i64 x, .int .i64 y, .int .i64 z] 2)).drew).cell? ⟨p, 0, none⟩ = some (.string s) ∧ ((w.alloc (.cells #[.int .i64 a, .int .i64 x, .int .i64 y, .int .i64 z] 2)).drew).cell? ⟨p, 1, none⟩ = some (.int .i64 a) ∧ ((w.alloc (.cells #[.int .i64 a, .int .i64 x, .int .i64 y, .int .i64 z] 2)).drew).cell? ⟨p, 2, none⟩ = some (.int .i64 x) ∧ ((w.alloc (.cells #[.int .i64 a, .int .i64 x, .int .i64 y, .int .i64 z] 2)).drew).cell? ⟨p, 3, none⟩ = some (.int .i64 y) ∧ ((w.alloc (.cells #[.int .i64 a, .int .i64 x, .int .i64 y, .int .i64 z] 2)).drew).cell? ⟨p, 4, none⟩ = some (.int .i64 z) ∧ p < ((w.alloc (.cells #[.int .i64 a, .int .i64 x, .int .i64 y, .int .i64 z] 2)).drew).heap.size ∧ Below w.heap.size w ((w.alloc (.cells #[.int .i64 a, .int .i64 x, .int .i64 y, .int .i64 z] 2)).drew) from gS_next (w := w) (w' := w) ⟨c0, c1, c2, c3, c4, hl, Below.refl _ _⟩ HAL.out)
  go_region_held3 (fun w' => w'.cell? ⟨p, 0, none⟩ = some (.string s) ∧ w'.cell? ⟨p, 1, none⟩ = some (.int .i64 a) ∧ w'.cell? ⟨p, 2, none⟩ = some (.int .i64 x) ∧ w'.cell? ⟨p, 3, none⟩ = some (.int .i64 y) ∧ w'.cell? ⟨p, 4, none⟩ = some (.int .i64 z) ∧ p < w'.heap.size ∧ Below w.heap.size w w')
    (first | exact HS0.out | exact HS1.out | assumption | exact hs6)
    (first
      | (go_at_call 40; refine (HC.out).mono ?_; rintro en w6 ⟨rfl, hb6⟩; have hs6 := gS_next HS1.out hb6))
  have HB2 := Lib.hid hs6.2.2.2.2.2.2
  clear hs6
  go_wp2
  go_ret
  exact ⟨ret_strG HN.out.symm, HB2.out⟩
set_option maxHeartbeats 1000000 in
theorem specIT_any (s : ByteArray) (a x y z : Int) (w : World) (hs : s.size ≤ maxLen) :
    Calls Tryd.prog 12 #[.agg #[.string s, .int .i64 a, .int .i64 x, .int .i64 y, .int .i64 z]] w fun e w' => e = .returned (.string (ingTx s a x y z)) ∧ Below w.heap.size w w' := by
  have HM := Lib.hid (Gblk_new w (s, a, x, y, z) 36)
  have hl : w.heap.size < (w.alloc (.cells #[.string s, .int .i64 a, .int .i64 x, .int .i64 y, .int .i64 z] 36)).heap.size := by simp
  have HB := Lib.hid (below_alG w (.cells #[.string s, .int .i64 a, .int .i64 x, .int .i64 y, .int .i64 z] 36))
  rcases Bool.eq_false_or_eq_true (ingB (s, a, x, y, z)) with h1 | h1
  · have H1 := Lib.hid h1
    have HR := Lib.hid (show ingTx s a x y z = ingT s a x y z by unfold ingTx; rw [if_pos h1])
    rw [HR.out]
    clear h1
    go_enter Tryd.func12, Tryd.ntmps12
    go_wp2_with fail
    generalize (w.alloc (.cells #[.string s, .int .i64 a, .int .i64 x, .int .i64 y, .int .i64 z] 36)) = wA at *
    refine (l13One_any _ 0 s a x y z _ HM.out hs).mono ?_
    rintro e w2 ⟨rfl, m, rfl⟩
    rw [H1.out]
    have HM2 := Lib.hid (show GBlk (wA.drewN m) w.heap.size (s, a, x, y, z) from gin_drew HM.out)
    have HB1 := Lib.hid (below_of HB.out (below_drewNG _ m) HB.out.size)
    go_wp2_with fail
    refine (l13Text_any _ s a x y z _ HM2.out hl H1.out).mono ?_
    rintro e w3 ⟨rfl, hb⟩
    have HB2 := Lib.hid (below_of HB1.out hb HB1.out.size)
    clear hb
    go_wp2
    go_ret
    exact ⟨rfl, HB2.out⟩
  · have H1 := Lib.hid h1
    have HR := Lib.hid (show ingTx s a x y z = ByteArray.empty by unfold ingTx; rw [if_neg (by rw [h1]; simp)])
    rw [HR.out]
    clear h1
    go_enter Tryd.func12, Tryd.ntmps12
    go_wp2_with fail
    generalize (w.alloc (.cells #[.string s, .int .i64 a, .int .i64 x, .int .i64 y, .int .i64 z] 36)) = wA at *
    refine (l13One_any _ 0 s a x y z _ HM.out hs).mono ?_
    rintro e w2 ⟨rfl, m, rfl⟩
    rw [H1.out]
    go_wp2
    go_ret
    exact ⟨rfl, below_of HB.out (below_drewNG _ m) HB.out.size⟩
set_option maxRecDepth 20000 in
set_option maxHeartbeats 4000000 in
theorem implIT_any (s : ByteArray) (a x y z : Int) (w : World) (hs : s.size ≤ maxLen) (hp : Hid (PowOk w)) :
    Calls Tryd.prog 14 #[.agg #[.string s, .int .i64 a, .int .i64 x, .int .i64 y, .int .i64 z]] w fun e w' => e = .returned (.string (ingTx s a x y z)) ∧ Below w.heap.size w w' := by
  have HM := Lib.hid (Gblk_new w (s, a, x, y, z) 36)
  have hl0 : w.heap.size < (w.alloc (.cells #[.string s, .int .i64 a, .int .i64 x, .int .i64 y, .int .i64 z] 36)).heap.size := by simp
  have HB := Lib.hid (below_alG w (.cells #[.string s, .int .i64 a, .int .i64 x, .int .i64 y, .int .i64 z] 36))
  rcases Bool.eq_false_or_eq_true (ingB (s, a, x, y, z)) with h1 | h1
  · have H1 := Lib.hid h1
    have HR := Lib.hid (show ingTx s a x y z = ingT s a x y z by unfold ingTx; rw [if_pos h1])
    rw [HR.out]
    obtain ⟨hz, hbd⟩ := ing_bd h1
    have hj := join4_size rfl hbd
    have HC := Lib.hid (fun (W : World) (hW : PowOk W) => implListText_any [a, x, y, z] W.heap.size 4 (W.alloc (.cells #[.int .i64 a, .int .i64 x, .int .i64 y, .int .i64 z] 2)).drew 4 (Lib.hid rfl) (by omega) (alloc_ltG W _) (cellI4G W a x y z _ _ rfl) (Lib.hid (show PowOk (W.alloc (.cells #[.int .i64 a, .int .i64 x, .int .i64 y, .int .i64 z] 2)).drew from pow_kept (below_aldG W (.cells #[.int .i64 a, .int .i64 x, .int .i64 y, .int .i64 z] 2)) hW)))
    rw [list4_valid rfl hbd] at HC
    have HN := Lib.hid (show ingT s a x y z = s ++ (⟨#[32]⟩ : ByteArray) ++ ⟨(joinTo [a, x, y, z] 4).toArray⟩ from rfl)
    generalize (⟨(joinTo [a, x, y, z] 4).toArray⟩ : ByteArray) = tl at *
    have g1 : ¬ 9223372036854775807 < s.size + 1 := by omega
    have g2 : ¬ 9223372036854775807 < s.size + 1 + tl.size := by omega
    clear h1 hbd hz hj
    go_enter Tryd.func14, Tryd.ntmps14
    go_wp2_with fail
    generalize (w.alloc (.cells #[.string s, .int .i64 a, .int .i64 x, .int .i64 y, .int .i64 z] 36)) = wA at *
    refine (implIngValid_any s a x y z _ hs).mono ?_
    rintro e w2 ⟨rfl, hb⟩
    rw [H1.out]
    obtain ⟨c0, c1, c2, c3, c4⟩ := Gin_kept hb hl0 HM.out
    simp only at c0 c1 c2 c3 c4
    have hl := Nat.lt_of_lt_of_le hl0 hb.size
    have HB2 := Lib.hid (below_of HB.out hb HB.out.size)
    have HPO := Lib.hid (show PowOk w2 from pow_kept HB2.out hp.out)
    clear hb
    go_wp2
    have HS0 := Lib.hid (show w2.drew.cell? ⟨w.heap.size, 0, none⟩ = some (.string s) ∧ w2.drew.cell? ⟨w.heap.size, 1, none⟩ = some (.int .i64 a) ∧ w2.drew.cell? ⟨w.heap.size, 2, none⟩ = some (.int .i64 x) ∧ w2.drew.cell? ⟨w.heap.size, 3, none⟩ = some (.int .i64 y) ∧ w2.drew.cell? ⟨w.heap.size, 4, none⟩ = some (.int .i64 z) ∧ w.heap.size < w2.drew.heap.size ∧ Below w2.heap.size w2 w2.drew from ⟨c0, c1, c2, c3, c4, hl, ⟨rfl, rfl, rfl, Nat.le_refl _, fun _ _ => rfl⟩⟩)
    have HAL := Lib.hid (show Below w2.heap.size w2 ((w2.alloc (.cells #[.int .i64 a, .int .i64 x, .int .i64 y, .int .i64 z] 2)).drew) from (let h := below_alG w2 (.cells #[.int .i64 a, .int .i64 x, .int .i64 y, .int .i64 z] 2); ⟨h.os, h.tape, h.output, h.size, h.block⟩))
    have HS1 := Lib.hid (show ((w2.alloc (.cells #[.int .i64 a, .int .i64 x, .int .i64 y, .int .i64 z] 2)).drew).cell? ⟨w.heap.size, 0, none⟩ = some (.string s) ∧ ((w2.alloc (.cells #[.int .i64 a, .int .i64 x, .int .i64 y, .int .i64 z] 2)).drew).cell? ⟨w.heap.size, 1, none⟩ = some (.int .i64 a) ∧ ((w2.alloc (.cells #[.int .i64 a, .int .i64 x, .int .i64 y, .int .i64 z] 2)).drew).cell? ⟨w.heap.size, 2, none⟩ = some (.int .i64 x) ∧ ((w2.alloc (.cells #[.int .i64 a, .int .i64 x, .int .i64 y, .int .i64 z] 2)).drew).cell? ⟨w.heap.size, 3, none⟩ = some (.int .i64 y) ∧ ((w2.alloc (.cells #[.int .i64 a, .int .i64 x, .int .i64 y, .int .i64 z] 2)).drew).cell? ⟨w.heap.size, 4, none⟩ = some (.int .i64 z) ∧ w.heap.size < ((w2.alloc (.cells #[.int .i64 a, .int .i64 x, .int .i64 y, .int .i64 z] 2)).drew).heap.size ∧ Below w2.heap.size w2 ((w2.alloc (.cells #[.int .i64 a, .int .i64 x, .int .i64 y, .int .i64 z] 2)).drew) from gS_next (w := w2) (w' := w2) ⟨c0, c1, c2, c3, c4, hl, Below.refl _ _⟩ HAL.out)
    go_region_held3 (fun w' => w'.cell? ⟨w.heap.size, 0, none⟩ = some (.string s) ∧ w'.cell? ⟨w.heap.size, 1, none⟩ = some (.int .i64 a) ∧ w'.cell? ⟨w.heap.size, 2, none⟩ = some (.int .i64 x) ∧ w'.cell? ⟨w.heap.size, 3, none⟩ = some (.int .i64 y) ∧ w'.cell? ⟨w.heap.size, 4, none⟩ = some (.int .i64 z) ∧ w.heap.size < w'.heap.size ∧ Below w2.heap.size w2 w')
      (first | exact HS0.out | exact HS1.out | assumption | exact hs6)
      (first
        | (go_at_call 28; refine (HC.out w2 HPO.out).mono ?_; rintro en w6 ⟨rfl, hb6⟩; have hs6 := gS_next HS1.out hb6))
    have HB3 := Lib.hid (below_of HB2.out hs6.2.2.2.2.2.2 HB2.out.size)
    clear hs6
    go_wp2
    go_ret
    exact ⟨ret_strG HN.out.symm, HB3.out⟩
  · have H1 := Lib.hid h1
    have HR := Lib.hid (show ingTx s a x y z = ByteArray.empty by unfold ingTx; rw [if_neg (by rw [h1]; simp)])
    rw [HR.out]
    clear h1
    go_enter Tryd.func14, Tryd.ntmps14
    go_wp2_with fail
    generalize (w.alloc (.cells #[.string s, .int .i64 a, .int .i64 x, .int .i64 y, .int .i64 z] 36)) = wA at *
    refine (implIngValid_any s a x y z _ hs).mono ?_
    rintro e w2 ⟨rfl, hb⟩
    rw [H1.out]
    have HB2 := Lib.hid (below_of HB.out hb HB.out.size)
    clear hb
    go_wp2
    go_ret
    exact ⟨rfl, HB2.out⟩
end Go.Proofs.YtikoehjalcljnaaDoor
