/- The tin of an ingot and the density of an alloy: both programs. -/
import Derived.Test.YtikoehjalcljnaaIngI
import Derived.Test.YtikoehjalcljnaaDiv
set_option linter.unusedVariables false
namespace Go.Proofs.Ytikoehjalcljnaa
open Go.ChangeShapes Go.WideShapes Go.ChangeAt Go.RowKit

def invC (b : Bool) : Int := if b then 0 else 1
def tinV (r : Gt) : Int := if ingB r then nq (r.2.1 * r.2.2.2.1) 1000000 else 0
def denV (x y z : Int) : Int := if alloyB x y z then nq (8960 * x + 7310 * y + 8000 * z) 1000000 else 0
theorem ret2G {a b c d : Int} (h : a = c) (k : b = d) : Ending.returned (.tuple #[.int .i64 a, .int .i64 b]) = .returned (.tuple #[.int .i64 c, .int .i64 d]) := by rw [h, k]
theorem prod_bdG {a y A Y : Int} (h0 : 0 ≤ a) (h1 : a ≤ A) (h2 : 0 ≤ y) (h3 : y ≤ Y) : 0 ≤ a * y ∧ a * y ≤ A * Y :=
  ⟨Int.mul_nonneg h0 h2, Int.mul_le_mul h1 h3 h2 (by omega)⟩
set_option maxHeartbeats 2000000 in
theorem specTin_any (s : ByteArray) (a x y z : Int) (w : World) (hs : s.size ≤ maxLen) :
    Calls Try.prog 31 #[.agg #[.string s, .int .i64 a, .int .i64 x, .int .i64 y, .int .i64 z]] w fun e w' => e = .returned (.tuple #[.int .i64 (tinV (s, a, x, y, z)), .int .i64 (invC (ingB (s, a, x, y, z)))]) ∧ Below w.heap.size w w' := by
  have HBA := Lib.hid (below_alG w (.cells #[.string s, .int .i64 a, .int .i64 x, .int .i64 y, .int .i64 z] 60))
  rcases Bool.eq_false_or_eq_true (ingB (s, a, x, y, z)) with h1 | h1
  · have H1 := Lib.hid h1
    have hg := ing_iff.1 h1
    obtain ⟨-, ⟨a0, a1⟩, hal⟩ := hg
    simp only at a0 a1 hal
    obtain ⟨-, ⟨y0, y1⟩, -, -⟩ := alloy_iff.1 hal
    obtain ⟨p0, p1⟩ := prod_bdG (A := 20000000) (Y := 1000000) (by omega) a1 y0 y1
    obtain ⟨q, hq⟩ : ∃ q, nq (a * y) 1000000 = q := ⟨_, rfl⟩
    have HV := Lib.hid (show tinV (s, a, x, y, z) = q by unfold tinV; rw [h1]; simpa using hq)
    have HK := Lib.hid (show invC (ingB (s, a, x, y, z)) = 0 by rw [h1]; rfl)
    have HW := Lib.hid (show wrap64 (a * y) = a * y from IntWalk.wrap64_in _ (by omega))
    have HT := Lib.hid (show ∀ (p : Int) (w : World), p = a * y → Calls Try.prog 58 #[.int .i64 p, .int .i64 1000000] w fun e w' => e = .returned (.int .i64 q) ∧ w = w' from fun p w h => by subst h; rw [← hq]; exact specDiv_any (a * y) 1000000 w (by omega) (by omega) (by omega))
    clear h1 hal a0 a1 y0 y1 p0 p1 hq
    go_enter Try.func31, Try.ntmps31
    go_wp2_with fail
    refine (l13One_any w.heap.size 0 s a x y z _ (Gblk_new w (s, a, x, y, z) 60) hs).mono ?_
    rintro e w2 ⟨rfl, m, rfl⟩
    rw [H1.out]
    go_wp2_with fail
    refine ((HT.out _ _ (by first | exact HW.out | rfl)).mono ?_)
    rintro e w3 ⟨rfl, rfl⟩
    go_wp2
    go_ret2
    exact ⟨ret2G HV.out.symm HK.out.symm, below_of HBA.out (below_drewNG _ _) HBA.out.size⟩
  · have H1 := Lib.hid h1
    have HV := Lib.hid (show tinV (s, a, x, y, z) = 0 by unfold tinV; rw [h1]; rfl)
    have HK := Lib.hid (show invC (ingB (s, a, x, y, z)) = 1 by rw [h1]; rfl)
    clear h1
    go_enter Try.func31, Try.ntmps31
    go_wp2_with fail
    refine (l13One_any w.heap.size 0 s a x y z _ (Gblk_new w (s, a, x, y, z) 60) hs).mono ?_
    rintro e w2 ⟨rfl, m, rfl⟩
    rw [H1.out]
    go_wp2
    go_ret2
    exact ⟨ret2G HV.out.symm HK.out.symm, below_of HBA.out (below_drewNG _ _) HBA.out.size⟩
set_option maxHeartbeats 2000000 in
theorem implTin_any (s : ByteArray) (a x y z : Int) (w : World) (hs : s.size ≤ maxLen) :
    Calls Try.prog 33 #[.agg #[.string s, .int .i64 a, .int .i64 x, .int .i64 y, .int .i64 z]] w fun e w' => e = .returned (.tuple #[.int .i64 (tinV (s, a, x, y, z)), .int .i64 (invC (ingB (s, a, x, y, z)))]) ∧ Below w.heap.size w w' := by
  have HBA := Lib.hid (below_alG w (.cells #[.string s, .int .i64 a, .int .i64 x, .int .i64 y, .int .i64 z] 60))
  rcases Bool.eq_false_or_eq_true (ingB (s, a, x, y, z)) with h1 | h1
  · have H1 := Lib.hid h1
    have hg := ing_iff.1 h1
    obtain ⟨-, ⟨a0, a1⟩, hal⟩ := hg
    simp only at a0 a1 hal
    obtain ⟨-, ⟨y0, y1⟩, -, -⟩ := alloy_iff.1 hal
    obtain ⟨p0, p1⟩ := prod_bdG (A := 20000000) (Y := 1000000) (by omega) a1 y0 y1
    obtain ⟨q, hq⟩ : ∃ q, nq (a * y) 1000000 = q := ⟨_, rfl⟩
    have HV := Lib.hid (show tinV (s, a, x, y, z) = q by unfold tinV; rw [h1]; simpa using hq)
    have HK := Lib.hid (show invC (ingB (s, a, x, y, z)) = 0 by rw [h1]; rfl)
    have HW := Lib.hid (show wrap64 (a * y) = a * y from IntWalk.wrap64_in _ (by omega))
    have HT := Lib.hid (show ∀ (p : Int) (w : World), p = a * y → Calls Try.prog 59 #[.int .i64 p, .int .i64 1000000] w fun e w' => e = .returned (.int .i64 q) ∧ Below w.heap.size w w' from fun p w h => by subst h; rw [← hq]; exact nearest_any (a * y) 1000000 w (by omega) (by omega))
    clear h1 hal a0 a1 y0 y1 p0 p1 hq
    go_enter Try.func33, Try.ntmps33
    go_wp2_with fail
    refine (implIngValid_any s a x y z _ hs).mono ?_
    rintro e w2 ⟨rfl, hb⟩
    rw [H1.out]
    have hl : w.heap.size < (w.alloc (.cells #[.string s, .int .i64 a, .int .i64 x, .int .i64 y, .int .i64 z] 60)).heap.size := by simp
    obtain ⟨d0, d1, d2, d3, d4⟩ := Gin_kept hb hl (Gblk_new w (s, a, x, y, z) 60)
    simp only at d0 d1 d2 d3 d4
    have HB2 := Lib.hid (below_of HBA.out hb HBA.out.size)
    clear hb
    go_wp2_with fail
    refine ((HT.out _ _ (by first | exact HW.out | rfl)).mono ?_)
    rintro e w3 ⟨rfl, hb⟩
    have HB3 := Lib.hid (below_of HB2.out hb HB2.out.size)
    clear hb
    go_wp2
    go_ret2
    exact ⟨ret2G HV.out.symm HK.out.symm, HB3.out⟩
  · have H1 := Lib.hid h1
    have HV := Lib.hid (show tinV (s, a, x, y, z) = 0 by unfold tinV; rw [h1]; rfl)
    have HK := Lib.hid (show invC (ingB (s, a, x, y, z)) = 1 by rw [h1]; rfl)
    clear h1
    go_enter Try.func33, Try.ntmps33
    go_wp2_with fail
    refine (implIngValid_any s a x y z _ hs).mono ?_
    rintro e w2 ⟨rfl, hb⟩
    rw [H1.out]
    have HB2 := Lib.hid (below_of HBA.out hb HBA.out.size)
    clear hb
    go_wp2
    go_ret2
    exact ⟨ret2G HV.out.symm HK.out.symm, HB2.out⟩
set_option maxHeartbeats 2000000 in
theorem specDen_any (x y z : Int) (w : World) :
    Calls Try.prog 39 #[.agg #[.int .i64 x, .int .i64 y, .int .i64 z]] w fun e w' => e = .returned (.tuple #[.int .i64 (denV x y z), .int .i64 (invC (alloyB x y z))]) ∧ Below w.heap.size w w' := by
  have HBA := Lib.hid (below_alG w (.cells #[.int .i64 x, .int .i64 y, .int .i64 z] 38))
  rcases Bool.eq_false_or_eq_true (alloyB x y z) with h1 | h1
  · have H1 := Lib.hid h1
    obtain ⟨⟨x0, x1⟩, ⟨y0, y1⟩, ⟨z0, z1⟩, -⟩ := alloy_iff.1 h1
    obtain ⟨q, hq⟩ : ∃ q, nq (8960 * x + 7310 * y + 8000 * z) 1000000 = q := ⟨_, rfl⟩
    have HV := Lib.hid (show denV x y z = q by unfold denV; rw [h1]; simpa using hq)
    have HK := Lib.hid (show invC (alloyB x y z) = 0 by rw [h1]; rfl)
    have hw1 : IntKind.i64.wrap (8960 * x) = 8960 * x := IntWalk.i64_in _ (by omega)
    have hw2 : IntKind.i64.wrap (7310 * y) = 7310 * y := IntWalk.i64_in _ (by omega)
    have hw3 : IntKind.i64.wrap (8960 * x + 7310 * y) = 8960 * x + 7310 * y := IntWalk.i64_in _ (by omega)
    have hw4 : IntKind.i64.wrap (8000 * z) = 8000 * z := IntWalk.i64_in _ (by omega)
    have hw5 : IntKind.i64.wrap (8960 * x + 7310 * y + 8000 * z) = 8960 * x + 7310 * y + 8000 * z := IntWalk.i64_in _ (by omega)
    have HT := Lib.hid (show ∀ (p : Int) (w : World), p = 8960 * x + 7310 * y + 8000 * z → Calls Try.prog 58 #[.int .i64 p, .int .i64 1000000] w fun e w' => e = .returned (.int .i64 q) ∧ w = w' from fun p w h => by subst h; rw [← hq]; exact specDiv_any _ 1000000 w (by omega) (by omega) (by omega))
    clear h1 hq
    go_enter Try.func39, Try.ntmps39
    go_wp2_with fail
    refine (l13Alloy_any w.heap.size 0 x y z _ (by go_simp) (by go_simp) (by go_simp)).mono ?_
    rintro e w2 ⟨rfl, m, rfl⟩
    rw [H1.out]
    go_wp2_with fail
    refine ((HT.out _ _ (by first | rfl | (simp only [hw1, hw2, hw3, hw4, hw5]))).mono ?_)
    rintro e w3 ⟨rfl, rfl⟩
    go_wp2
    go_ret2
    exact ⟨ret2G HV.out.symm HK.out.symm, below_of HBA.out (below_drewNG _ _) HBA.out.size⟩
  · have H1 := Lib.hid h1
    have HV := Lib.hid (show denV x y z = 0 by unfold denV; rw [h1]; rfl)
    have HK := Lib.hid (show invC (alloyB x y z) = 1 by rw [h1]; rfl)
    clear h1
    go_enter Try.func39, Try.ntmps39
    go_wp2_with fail
    refine (l13Alloy_any w.heap.size 0 x y z _ (by go_simp) (by go_simp) (by go_simp)).mono ?_
    rintro e w2 ⟨rfl, m, rfl⟩
    rw [H1.out]
    go_wp2
    go_ret2
    exact ⟨ret2G HV.out.symm HK.out.symm, below_of HBA.out (below_drewNG _ _) HBA.out.size⟩
set_option maxHeartbeats 2000000 in
theorem implDen_any (x y z : Int) (w : World) :
    Calls Try.prog 40 #[.agg #[.int .i64 x, .int .i64 y, .int .i64 z]] w fun e w' => e = .returned (.tuple #[.int .i64 (denV x y z), .int .i64 (invC (alloyB x y z))]) ∧ Below w.heap.size w w' := by
  have HBA := Lib.hid (below_alG w (.cells #[.int .i64 x, .int .i64 y, .int .i64 z] 38))
  rcases Bool.eq_false_or_eq_true (alloyB x y z) with h1 | h1
  · have H1 := Lib.hid h1
    obtain ⟨⟨x0, x1⟩, ⟨y0, y1⟩, ⟨z0, z1⟩, -⟩ := alloy_iff.1 h1
    obtain ⟨q, hq⟩ : ∃ q, nq (8960 * x + 7310 * y + 8000 * z) 1000000 = q := ⟨_, rfl⟩
    have HV := Lib.hid (show denV x y z = q by unfold denV; rw [h1]; simpa using hq)
    have HK := Lib.hid (show invC (alloyB x y z) = 0 by rw [h1]; rfl)
    have hw1 : IntKind.i64.wrap (8960 * x) = 8960 * x := IntWalk.i64_in _ (by omega)
    have hw2 : IntKind.i64.wrap (7310 * y) = 7310 * y := IntWalk.i64_in _ (by omega)
    have hw3 : IntKind.i64.wrap (8960 * x + 7310 * y) = 8960 * x + 7310 * y := IntWalk.i64_in _ (by omega)
    have hw4 : IntKind.i64.wrap (8000 * z) = 8000 * z := IntWalk.i64_in _ (by omega)
    have hw5 : IntKind.i64.wrap (8960 * x + 7310 * y + 8000 * z) = 8960 * x + 7310 * y + 8000 * z := IntWalk.i64_in _ (by omega)
    have HT := Lib.hid (show ∀ (p : Int) (w : World), p = 8960 * x + 7310 * y + 8000 * z → Calls Try.prog 59 #[.int .i64 p, .int .i64 1000000] w fun e w' => e = .returned (.int .i64 q) ∧ Below w.heap.size w w' from fun p w h => by subst h; rw [← hq]; exact nearest_any _ 1000000 w (by omega) (by omega))
    clear h1 hq
    go_enter Try.func40, Try.ntmps40
    go_wp2_with fail
    refine (implVA_any x y z _).mono ?_
    rintro e w2 ⟨rfl, hb⟩
    rw [H1.out]
    have hl : w.heap.size < (w.alloc (.cells #[.int .i64 x, .int .i64 y, .int .i64 z] 38)).heap.size := by simp
    have d0 : w2.cell? ⟨w.heap.size, 0, none⟩ = some (.int .i64 x) := (below_cell hb _ _ hl).trans (by go_simp)
    have d1 : w2.cell? ⟨w.heap.size, 1, none⟩ = some (.int .i64 y) := (below_cell hb _ _ hl).trans (by go_simp)
    have d2 : w2.cell? ⟨w.heap.size, 2, none⟩ = some (.int .i64 z) := (below_cell hb _ _ hl).trans (by go_simp)
    have HB2 := Lib.hid (below_of HBA.out hb HBA.out.size)
    clear hb
    go_wp2_with fail
    refine ((HT.out _ _ (by first | rfl | (simp only [hw1, hw2, hw3, hw4, hw5]))).mono ?_)
    rintro e w3 ⟨rfl, hb⟩
    have HB3 := Lib.hid (below_of HB2.out hb HB2.out.size)
    clear hb
    go_wp2
    go_ret2
    exact ⟨ret2G HV.out.symm HK.out.symm, HB3.out⟩
  · have H1 := Lib.hid h1
    have HV := Lib.hid (show denV x y z = 0 by unfold denV; rw [h1]; rfl)
    have HK := Lib.hid (show invC (alloyB x y z) = 1 by rw [h1]; rfl)
    clear h1
    go_enter Try.func40, Try.ntmps40
    go_wp2_with fail
    refine (implVA_any x y z _).mono ?_
    rintro e w2 ⟨rfl, hb⟩
    rw [H1.out]
    have HB2 := Lib.hid (below_of HBA.out hb HBA.out.size)
    clear hb
    go_wp2
    go_ret2
    exact ⟨ret2G HV.out.symm HK.out.symm, HB2.out⟩
end Go.Proofs.Ytikoehjalcljnaa
