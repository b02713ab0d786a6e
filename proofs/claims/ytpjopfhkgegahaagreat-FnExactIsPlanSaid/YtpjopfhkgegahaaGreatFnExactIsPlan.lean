/- At every argument IsPlan answers as its model, and its arguments are as they were. -/
import Derived.Test.YtpjopfhkgegahaaGreatRows
import Derived.Test.YtpjopfhkgegahaaGreatG1
import Derived.Test.YtpjopfhkgegahaaGreatModX
import Derived.Test.YtpjopfhkgegahaaGreatG4
import Derived.Test.YtpjopfhkgegahaaGreatG2
import Derived.Test.YtpjopfhkgegahaaGreatG5
import Derived.Test.YtpjopfhkgegahaaGreatGoal
import Derived.Test.YtpjopfhkgegahaaGreatG3
import Derived.Test.YtpjopfhkgegahaaGreatRingRes
import Derived.Test.YtpjopfhkgegahaaGreatIntRes
import Derived.Deep.RegionHeld3
namespace Go.Proofs.YtpjopfhkgegahaaGreat.fnExactIsPlan
open Go.ChangeShapes Go.WideShapes Go.ChangeAt Go.RowKit
open Go.ChangeMaps (open_string shut_string)
set_option linter.unusedVariables false

theorem own : ownKnob Tryz.prog.godebug = none := by kernel_rfl

set_option maxRecDepth 100000 in
set_option maxHeartbeats 8000000 in
theorem walk (v0 : Value) (s1 : ByteArray) (p1 : Option Addr) (len1 cap1 : Nat) (s2a s2b s2c s2e s2f s2t s2q : Int) (p3 : Option Addr) (len3 cap3 : Nat) (w1 : s1.size ≤ 9223372036854775807 ∧ len1 ≤ 9223372036854775807) (w2 : (Lit.int .i64 s2a).wf = true ∧ (Lit.int .i64 s2b).wf = true ∧ (Lit.int .i64 s2c).wf = true ∧ (Lit.int .i64 s2e).wf = true ∧ (Lit.int .i64 s2f).wf = true ∧ (Lit.int .i64 s2t).wf = true ∧ (Lit.int .i64 s2q).wf = true) (w3 : len3 ≤ 9223372036854775807) (w : World) (hI0 : ModArgX w v0) (hI1 : len1 ≤ 1048576 → ∃ zs : List Rg, zs.length = len1 ∧ RingsAt w (.slice p1 len1 cap1) zs) (hI3 : len3 ≤ 1048576 → ∃ zs : List Ct, zs.length = len3 ∧ CutsAt w (.slice p3 len3 cap3) zs) :
    Calls Tryz.prog 3 #[v0, .agg #[.string s1, .slice p1 len1 cap1], .agg #[.int .i64 s2a, .int .i64 s2b, .int .i64 s2c, .int .i64 s2e, .int .i64 s2f, .int .i64 s2t, .int .i64 s2q], .slice p3 len3 cap3] w fun e w' => e = .returned (.bool true) ∧ Below w.heap.size w w' := by
  obtain ⟨x0a, x0b, x0c, N0, rfl, hsz0, hmk0⟩ := hI0
  have HSZ0 := Lib.hid hsz0
  clear hsz0
  obtain ⟨hs1, hlen1⟩ := w1
  have hw2 := Lib.hid w2
  clear w2
  have hlen3 := w3
  clear w3
  have HV1 := Lib.hid (show ∃ a' c', Value.slice p1 len1 cap1 = .slice a' len1 c' from ⟨_, _, rfl⟩)
  generalize Value.slice p1 len1 cap1 = v1 at *
  by_cases hbig0 : (N0) ≤ 1048576
  · obtain ⟨T1, hT1⟩ : ∃ T, (N0) = T := ⟨_, rfl⟩
    have HL0 := Lib.hid (show leftN N0 (1048576) = 1048576 - (T1 : Int) by rw [leftN_yes (by omega)]; omega)
    have hTb1 : T1 ≤ 1048576 := by omega
    obtain ⟨mz0, mw0, mb0, hmn0, hma0⟩ := hmk0 (by omega)
    have HZ0 := Lib.hid hma0
    have hmt0 : mz0.length + lenS mw0 mw0.length + mb0.length ≤ 1048576 ∧ mw0.length ≤ 1048576 ∧ mz0.length ≤ 1048576 ∧ mb0.length ≤ 1048576 ∧ lenS mw0 mw0.length ≤ 1048576 := by omega
    have HML0 := Lib.hid hmt0
    clear hmn0 hma0 hmk0
    by_cases hbig1 : T1 + (s1.size + len1) ≤ 1048576
    · obtain ⟨T2, hT2⟩ : ∃ T, T1 + (s1.size + len1) = T := ⟨_, rfl⟩
      have HL1 := Lib.hid (show leftP s1.size len1 (1048576 - (T1 : Int)) = 1048576 - (T2 : Int) by rw [leftP_yes (by omega)]; omega)
      have hTb2 : T2 ≤ 1048576 := by omega
      obtain ⟨zs1, hz1, hzs1⟩ := hI1 (by omega)
      have HZ1 := Lib.hid hzs1
      have HNA1 := Lib.hid hz1
      have HZL1 := Lib.hid (show zs1.length ≤ 1048576 by omega)
      clear hzs1 hz1 hI1
      have hTl1 : len1 ≤ 1048576 := by omega
      by_cases hbig2 : T2 + (len3) ≤ 1048576
      · obtain ⟨T3, hT3⟩ : ∃ T, T2 + (len3) = T := ⟨_, rfl⟩
        have HL2 := Lib.hid (show (if (1048576 - (T2 : Int)) - (len3 : Int) < 0 then (-1 : Int) else (1048576 - (T2 : Int)) - (len3 : Int)) = 1048576 - (T3 : Int) by rw [if_neg (by omega)]; omega)
        have hTb3 : T3 ≤ 1048576 := by omega
        obtain ⟨z3, hzn3, hzi3⟩ := hI3 (by omega)
        have HZN3 := Lib.hid hzn3
        have HY3 := Lib.hid hzi3
        have HYL3 := Lib.hid (show z3.length ≤ 1048576 by omega)
        clear hzn3 hzi3 hI3
        have hTl3 : len3 ≤ 1048576 := by omega
        clear hT1 hbig0 hT2 hbig1 hT3 hbig2
        obtain ⟨r0, hsp, him⟩ : ∃ (r0 : Bool), (∀ y0a y0b y0c v1 u3 w, ModAt w y0a y0b y0c mz0 mw0 mb0 → RingsW w v1 zs1 → CutsAt w u3 z3 → Calls Tryz.prog 8 #[.agg #[y0a, y0b, y0c], .agg #[.string s1, v1], .agg #[.int .i64 s2a, .int .i64 s2b, .int .i64 s2c, .int .i64 s2e, .int .i64 s2f, .int .i64 s2t, .int .i64 s2q], u3] w (fun e w' => e = .returned (.bool r0) ∧ Below w.heap.size w w')) ∧ (∀ y0a y0b y0c v1 u3 w, ModAt w y0a y0b y0c mz0 mw0 mb0 → RingsW w v1 zs1 → CutsAt w u3 z3 → Calls Tryz.prog 13 #[.agg #[y0a, y0b, y0c], .agg #[.string s1, v1], .agg #[.int .i64 s2a, .int .i64 s2b, .int .i64 s2c, .int .i64 s2e, .int .i64 s2f, .int .i64 s2t, .int .i64 s2q], u3] w (fun e w' => e = .returned (.bool r0) ∧ Below w.heap.size w w')) :=
          ⟨planB (dvL mz0 mw0 mb0 s1 zs1 z3 s2a s2b s2c s2e s2f s2t s2q) (dvC mz0 mw0 mb0 s1 zs1 z3 s2a s2b s2c s2e s2f s2t s2q) s2t s2q z3, fun y0 y1 y2 v u w h h1 h3 => specIP_any y0 y1 y2 v u mz0 mw0 mb0 s1 zs1 z3 s2a s2b s2c s2e s2f s2t s2q w h.1 h.2.1 h.2.2 h1.1 hs1 h3, fun y0 y1 y2 v u w h h1 h3 => implIP_any y0 y1 y2 v u mz0 mw0 mb0 s1 zs1 z3 s2a s2b s2c s2e s2f s2t s2q w h.1 h.2.1 h.2.2 h1 hs1 h3⟩
        have hrr0 : (r0 != r0) = false := by simp
        have HSP := Lib.hid hsp
        have HIM := Lib.hid him
        clear hsp him
        go_enter Tryz.func3, Tryz.ntmps3
        have f1 : (((w.alloc (.cells #[x0a, x0b, x0c] 25)).alloc (.cells #[.string s1, v1] 28)).alloc (.cells #[.int .i64 s2a, .int .i64 s2b, .int .i64 s2c, .int .i64 s2e, .int .i64 s2f, .int .i64 s2t, .int .i64 s2q] 32)).cell? ⟨w.heap.size, 0, none⟩ = some (x0a) := by go_simp
        have f2 : (((w.alloc (.cells #[x0a, x0b, x0c] 25)).alloc (.cells #[.string s1, v1] 28)).alloc (.cells #[.int .i64 s2a, .int .i64 s2b, .int .i64 s2c, .int .i64 s2e, .int .i64 s2f, .int .i64 s2t, .int .i64 s2q] 32)).cell? ⟨w.heap.size, 1, none⟩ = some (x0b) := by go_simp
        have f3 : (((w.alloc (.cells #[x0a, x0b, x0c] 25)).alloc (.cells #[.string s1, v1] 28)).alloc (.cells #[.int .i64 s2a, .int .i64 s2b, .int .i64 s2c, .int .i64 s2e, .int .i64 s2f, .int .i64 s2t, .int .i64 s2q] 32)).cell? ⟨w.heap.size, 2, none⟩ = some (x0c) := by go_simp
        have l4 : w.heap.size < (((w.alloc (.cells #[x0a, x0b, x0c] 25)).alloc (.cells #[.string s1, v1] 28)).alloc (.cells #[.int .i64 s2a, .int .i64 s2b, .int .i64 s2c, .int .i64 s2e, .int .i64 s2f, .int .i64 s2t, .int .i64 s2q] 32)).heap.size := by simp <;> omega
        have f5 : (((w.alloc (.cells #[x0a, x0b, x0c] 25)).alloc (.cells #[.string s1, v1] 28)).alloc (.cells #[.int .i64 s2a, .int .i64 s2b, .int .i64 s2c, .int .i64 s2e, .int .i64 s2f, .int .i64 s2t, .int .i64 s2q] 32)).cell? ⟨w.heap.size + 1, 0, none⟩ = some (.string s1) := by go_simp
        have f6 : (((w.alloc (.cells #[x0a, x0b, x0c] 25)).alloc (.cells #[.string s1, v1] 28)).alloc (.cells #[.int .i64 s2a, .int .i64 s2b, .int .i64 s2c, .int .i64 s2e, .int .i64 s2f, .int .i64 s2t, .int .i64 s2q] 32)).cell? ⟨w.heap.size + 1, 1, none⟩ = some (v1) := by go_simp
        have l7 : w.heap.size + 1 < (((w.alloc (.cells #[x0a, x0b, x0c] 25)).alloc (.cells #[.string s1, v1] 28)).alloc (.cells #[.int .i64 s2a, .int .i64 s2b, .int .i64 s2c, .int .i64 s2e, .int .i64 s2f, .int .i64 s2t, .int .i64 s2q] 32)).heap.size := by simp <;> omega
        have f8 : (((w.alloc (.cells #[x0a, x0b, x0c] 25)).alloc (.cells #[.string s1, v1] 28)).alloc (.cells #[.int .i64 s2a, .int .i64 s2b, .int .i64 s2c, .int .i64 s2e, .int .i64 s2f, .int .i64 s2t, .int .i64 s2q] 32)).cell? ⟨w.heap.size + 2, 0, none⟩ = some (.int .i64 s2a) := by go_simp
        have f9 : (((w.alloc (.cells #[x0a, x0b, x0c] 25)).alloc (.cells #[.string s1, v1] 28)).alloc (.cells #[.int .i64 s2a, .int .i64 s2b, .int .i64 s2c, .int .i64 s2e, .int .i64 s2f, .int .i64 s2t, .int .i64 s2q] 32)).cell? ⟨w.heap.size + 2, 1, none⟩ = some (.int .i64 s2b) := by go_simp
        have f10 : (((w.alloc (.cells #[x0a, x0b, x0c] 25)).alloc (.cells #[.string s1, v1] 28)).alloc (.cells #[.int .i64 s2a, .int .i64 s2b, .int .i64 s2c, .int .i64 s2e, .int .i64 s2f, .int .i64 s2t, .int .i64 s2q] 32)).cell? ⟨w.heap.size + 2, 2, none⟩ = some (.int .i64 s2c) := by go_simp
        have f11 : (((w.alloc (.cells #[x0a, x0b, x0c] 25)).alloc (.cells #[.string s1, v1] 28)).alloc (.cells #[.int .i64 s2a, .int .i64 s2b, .int .i64 s2c, .int .i64 s2e, .int .i64 s2f, .int .i64 s2t, .int .i64 s2q] 32)).cell? ⟨w.heap.size + 2, 3, none⟩ = some (.int .i64 s2e) := by go_simp
        have f12 : (((w.alloc (.cells #[x0a, x0b, x0c] 25)).alloc (.cells #[.string s1, v1] 28)).alloc (.cells #[.int .i64 s2a, .int .i64 s2b, .int .i64 s2c, .int .i64 s2e, .int .i64 s2f, .int .i64 s2t, .int .i64 s2q] 32)).cell? ⟨w.heap.size + 2, 4, none⟩ = some (.int .i64 s2f) := by go_simp
        have f13 : (((w.alloc (.cells #[x0a, x0b, x0c] 25)).alloc (.cells #[.string s1, v1] 28)).alloc (.cells #[.int .i64 s2a, .int .i64 s2b, .int .i64 s2c, .int .i64 s2e, .int .i64 s2f, .int .i64 s2t, .int .i64 s2q] 32)).cell? ⟨w.heap.size + 2, 5, none⟩ = some (.int .i64 s2t) := by go_simp
        have f14 : (((w.alloc (.cells #[x0a, x0b, x0c] 25)).alloc (.cells #[.string s1, v1] 28)).alloc (.cells #[.int .i64 s2a, .int .i64 s2b, .int .i64 s2c, .int .i64 s2e, .int .i64 s2f, .int .i64 s2t, .int .i64 s2q] 32)).cell? ⟨w.heap.size + 2, 6, none⟩ = some (.int .i64 s2q) := by go_simp
        have l15 : w.heap.size + 2 < (((w.alloc (.cells #[x0a, x0b, x0c] 25)).alloc (.cells #[.string s1, v1] 28)).alloc (.cells #[.int .i64 s2a, .int .i64 s2b, .int .i64 s2c, .int .i64 s2e, .int .i64 s2f, .int .i64 s2t, .int .i64 s2q] 32)).heap.size := by simp <;> omega
        have S16 : w.heap.size + 3 ≤ (((w.alloc (.cells #[x0a, x0b, x0c] 25)).alloc (.cells #[.string s1, v1] 28)).alloc (.cells #[.int .i64 s2a, .int .i64 s2b, .int .i64 s2c, .int .i64 s2e, .int .i64 s2f, .int .i64 s2t, .int .i64 s2q] 32)).heap.size := by simp <;> omega
        have HB17 := Lib.hid ((((below_al w (.cells #[x0a, x0b, x0c] 25)).alloc (by simp <;> omega) (.cells #[.string s1, v1] 28)).alloc (by simp <;> omega) (.cells #[.int .i64 s2a, .int .i64 s2b, .int .i64 s2c, .int .i64 s2e, .int .i64 s2f, .int .i64 s2t, .int .i64 s2q] 32)))
        go_wp2_with fail
        generalize (((w.alloc (.cells #[x0a, x0b, x0c] 25)).alloc (.cells #[.string s1, v1] 28)).alloc (.cells #[.int .i64 s2a, .int .i64 s2b, .int .i64 s2c, .int .i64 s2e, .int .i64 s2f, .int .i64 s2t, .int .i64 s2q] 32)) = wb at *
        refine (szModX_any x0a x0b x0c N0 (1048576) _ (szM_kept HB17.out HSZ0.out) (by omega) (by omega)).mono ?_
        rintro e w_1 ⟨rfl, hb⟩
        rw [HL0.out]
        have S18 : wb.heap.size ≤ w_1.heap.size := (hb).size
        have f19 : w_1.cell? ⟨w.heap.size, 0, none⟩ = some (x0a) := (below_cell hb _ _ l4).trans f1
        have f20 : w_1.cell? ⟨w.heap.size, 1, none⟩ = some (x0b) := (below_cell hb _ _ l4).trans f2
        have f21 : w_1.cell? ⟨w.heap.size, 2, none⟩ = some (x0c) := (below_cell hb _ _ l4).trans f3
        have f22 : w_1.cell? ⟨w.heap.size + 1, 0, none⟩ = some (.string s1) := (below_cell hb _ _ l7).trans f5
        have f23 : w_1.cell? ⟨w.heap.size + 1, 1, none⟩ = some (v1) := (below_cell hb _ _ l7).trans f6
        have f24 : w_1.cell? ⟨w.heap.size + 2, 0, none⟩ = some (.int .i64 s2a) := (below_cell hb _ _ l15).trans f8
        have f25 : w_1.cell? ⟨w.heap.size + 2, 1, none⟩ = some (.int .i64 s2b) := (below_cell hb _ _ l15).trans f9
        have f26 : w_1.cell? ⟨w.heap.size + 2, 2, none⟩ = some (.int .i64 s2c) := (below_cell hb _ _ l15).trans f10
        have f27 : w_1.cell? ⟨w.heap.size + 2, 3, none⟩ = some (.int .i64 s2e) := (below_cell hb _ _ l15).trans f11
        have f28 : w_1.cell? ⟨w.heap.size + 2, 4, none⟩ = some (.int .i64 s2f) := (below_cell hb _ _ l15).trans f12
        have f29 : w_1.cell? ⟨w.heap.size + 2, 5, none⟩ = some (.int .i64 s2t) := (below_cell hb _ _ l15).trans f13
        have f30 : w_1.cell? ⟨w.heap.size + 2, 6, none⟩ = some (.int .i64 s2q) := (below_cell hb _ _ l15).trans f14
        have l31 : w.heap.size < w_1.heap.size := Nat.lt_of_lt_of_le l4 (hb).size
        have l32 : w.heap.size + 1 < w_1.heap.size := Nat.lt_of_lt_of_le l7 (hb).size
        have l33 : w.heap.size + 2 < w_1.heap.size := Nat.lt_of_lt_of_le l15 (hb).size
        clear f1 f2 f3 f5 f6 f8 f9 f10 f11 f12 f13 f14 l4 l7 l15
        have HB34 := Lib.hid (below_of HB17.out hb HB17.out.size)
        clear hb 
        go_wp2_with fail
        refine (szProf_v s1 v1 len1 (1048576 - (T1 : Int)) _ HV1 hs1 hlen1 (by omega) (by omega)).mono ?_
        rintro e w_2 ⟨rfl, hb⟩
        rw [HL1.out]
        have S35 : w_1.heap.size ≤ w_2.heap.size := (hb).size
        have f36 : w_2.cell? ⟨w.heap.size, 0, none⟩ = some (x0a) := (below_cell hb _ _ l31).trans f19
        have f37 : w_2.cell? ⟨w.heap.size, 1, none⟩ = some (x0b) := (below_cell hb _ _ l31).trans f20
        have f38 : w_2.cell? ⟨w.heap.size, 2, none⟩ = some (x0c) := (below_cell hb _ _ l31).trans f21
        have f39 : w_2.cell? ⟨w.heap.size + 1, 0, none⟩ = some (.string s1) := (below_cell hb _ _ l32).trans f22
        have f40 : w_2.cell? ⟨w.heap.size + 1, 1, none⟩ = some (v1) := (below_cell hb _ _ l32).trans f23
        have f41 : w_2.cell? ⟨w.heap.size + 2, 0, none⟩ = some (.int .i64 s2a) := (below_cell hb _ _ l33).trans f24
        have f42 : w_2.cell? ⟨w.heap.size + 2, 1, none⟩ = some (.int .i64 s2b) := (below_cell hb _ _ l33).trans f25
        have f43 : w_2.cell? ⟨w.heap.size + 2, 2, none⟩ = some (.int .i64 s2c) := (below_cell hb _ _ l33).trans f26
        have f44 : w_2.cell? ⟨w.heap.size + 2, 3, none⟩ = some (.int .i64 s2e) := (below_cell hb _ _ l33).trans f27
        have f45 : w_2.cell? ⟨w.heap.size + 2, 4, none⟩ = some (.int .i64 s2f) := (below_cell hb _ _ l33).trans f28
        have f46 : w_2.cell? ⟨w.heap.size + 2, 5, none⟩ = some (.int .i64 s2t) := (below_cell hb _ _ l33).trans f29
        have f47 : w_2.cell? ⟨w.heap.size + 2, 6, none⟩ = some (.int .i64 s2q) := (below_cell hb _ _ l33).trans f30
        have l48 : w.heap.size < w_2.heap.size := Nat.lt_of_lt_of_le l31 (hb).size
        have l49 : w.heap.size + 1 < w_2.heap.size := Nat.lt_of_lt_of_le l32 (hb).size
        have l50 : w.heap.size + 2 < w_2.heap.size := Nat.lt_of_lt_of_le l33 (hb).size
        clear f19 f20 f21 f22 f23 f24 f25 f26 f27 f28 f29 f30 l31 l32 l33
        have HB51 := Lib.hid (below_of HB34.out hb HB34.out.size)
        clear hb 
        go_wp2_with fail
        refine (szCuts_any _ len3 _ (1048576 - (T2 : Int)) _ hlen3 (by omega) (by omega)).mono ?_
        rintro e w_2 ⟨rfl, rfl⟩
        rw [HL2.out]
        go_wp2_with fail
        have hbd : Below w_2.heap.size w_2 w_2.drew := ⟨rfl, rfl, rfl, Nat.le_refl _, fun _ _ => rfl⟩
        have HI0 := Lib.hid (modAt_kept HB51.out HZ0.out)
        have HI1 := Lib.hid (rings_kept HB51.out HZ1.out)
        have HI3 := Lib.hid (cuts_kept HB51.out HY3.out)
        have HSK := Lib.hid (fun W (hW : Below w_2.heap.size w_2 W) => show W.cell? ⟨w.heap.size, 0, none⟩ = some (x0a) ∧ W.cell? ⟨w.heap.size, 1, none⟩ = some (x0b) ∧ W.cell? ⟨w.heap.size, 2, none⟩ = some (x0c) ∧ W.cell? ⟨w.heap.size + 1, 0, none⟩ = some (.string s1) ∧ W.cell? ⟨w.heap.size + 1, 1, none⟩ = some (v1) ∧ W.cell? ⟨w.heap.size + 2, 0, none⟩ = some (.int .i64 s2a) ∧ W.cell? ⟨w.heap.size + 2, 1, none⟩ = some (.int .i64 s2b) ∧ W.cell? ⟨w.heap.size + 2, 2, none⟩ = some (.int .i64 s2c) ∧ W.cell? ⟨w.heap.size + 2, 3, none⟩ = some (.int .i64 s2e) ∧ W.cell? ⟨w.heap.size + 2, 4, none⟩ = some (.int .i64 s2f) ∧ W.cell? ⟨w.heap.size + 2, 5, none⟩ = some (.int .i64 s2t) ∧ W.cell? ⟨w.heap.size + 2, 6, none⟩ = some (.int .i64 s2q) ∧ Below w_2.heap.size w_2 W from ⟨(below_cell hW _ _ l48).trans f36, (below_cell hW _ _ l48).trans f37, (below_cell hW _ _ l48).trans f38, (below_cell hW _ _ l49).trans f39, (below_cell hW _ _ l49).trans f40, (below_cell hW _ _ l50).trans f41, (below_cell hW _ _ l50).trans f42, (below_cell hW _ _ l50).trans f43, (below_cell hW _ _ l50).trans f44, (below_cell hW _ _ l50).trans f45, (below_cell hW _ _ l50).trans f46, (below_cell hW _ _ l50).trans f47, hW⟩)
        go_region_held3 (fun W => W.cell? ⟨w.heap.size, 0, none⟩ = some (x0a) ∧ W.cell? ⟨w.heap.size, 1, none⟩ = some (x0b) ∧ W.cell? ⟨w.heap.size, 2, none⟩ = some (x0c) ∧ W.cell? ⟨w.heap.size + 1, 0, none⟩ = some (.string s1) ∧ W.cell? ⟨w.heap.size + 1, 1, none⟩ = some (v1) ∧ W.cell? ⟨w.heap.size + 2, 0, none⟩ = some (.int .i64 s2a) ∧ W.cell? ⟨w.heap.size + 2, 1, none⟩ = some (.int .i64 s2b) ∧ W.cell? ⟨w.heap.size + 2, 2, none⟩ = some (.int .i64 s2c) ∧ W.cell? ⟨w.heap.size + 2, 3, none⟩ = some (.int .i64 s2e) ∧ W.cell? ⟨w.heap.size + 2, 4, none⟩ = some (.int .i64 s2f) ∧ W.cell? ⟨w.heap.size + 2, 5, none⟩ = some (.int .i64 s2t) ∧ W.cell? ⟨w.heap.size + 2, 6, none⟩ = some (.int .i64 s2q) ∧ Below w_2.heap.size w_2 W)
          (first | exact HSK.out _ hbd | exact HSK.out _ hbr0 | exact HSK.out _ hbr1 | exact HSK.out _ hbr2 | exact HSK.out _ hbr3 | exact HSK.out _ hbrf | assumption)
          (first
            | (go_at_call_of 9 (Value.agg #[x0a, x0b, x0c]); refine (toModX_any x0a x0b x0c mz0 mw0 mb0 _ (modAt_kept hbd HI0.out).1 (modAt_kept hbd HI0.out).2.1 (modAt_kept hbd HI0.out).2.2).mono ?_; rintro e wR52_0 ⟨vx0a, vx0b, vx0c, rfl, ho0, hbq0⟩; have hbr0 := below_of hbd hbq0 hbd.size)
            | (go_at_call_of 10 (Value.agg #[.string s1, v1]); refine (toProf_any s1 v1 zs1 _ (rings_kept hbr0 HI1.out)).mono ?_; rintro e wR52_1 ⟨vx1, rfl, ho1, hbq1⟩; have hbr1 := below_of hbr0 hbq1 hbr0.size)
            | (go_at_call_of 11 (Value.agg #[.int .i64 s2a, .int .i64 s2b, .int .i64 s2c, .int .i64 s2e, .int .i64 s2f, .int .i64 s2t, .int .i64 s2q]); refine (toGoal_any s2a s2b s2c s2e s2f s2t s2q _).mono ?_; rintro e wR52_2 ⟨rfl, hbq2⟩; have hbr2 := below_of hbr1 hbq2 hbr1.size)
            | (go_at_call 12; refine (toCuts_any z3 _ _ (cuts_kept hbr2 HI3.out)).mono ?_; rintro e wR52_3 ⟨vx3, rfl, ho3, hbq3⟩; have hbr3 := below_of hbr2 hbq3 hbr2.size)
            | (go_at_call 8; refine (HSP.out vx0a vx0b vx0c vx1 vx3 _ (modAt_kept hbq3 (modAt_kept hbq2 (modAt_kept hbq1 (modOwn_parts HML0.out.2.2.1 HML0.out.2.1 (lenS_row HML0.out.2.2.2.2) HML0.out.2.2.2.1 ho0)))) (ringsW_kept hbq3 (ringsW_kept hbq2 (rvW HZL1.out (rv_of_ownAt ho1)))) (own_cuts HYL3.out ho3)).mono ?_; rintro e wR52_f ⟨rfl, hbf⟩; have hbrf := below_of hbr3 hbf hbr3.size))
        have hb := hbrf
        have S53 : w_2.heap.size ≤ wR52_0.heap.size := hbq0.size
        have S54 : wR52_0.heap.size ≤ wR52_1.heap.size := hbq1.size
        have S55 : wR52_1.heap.size ≤ wR52_2.heap.size := hbq2.size
        have S56 : wR52_2.heap.size ≤ wR52_3.heap.size := hbq3.size
        have S57 : wR52_3.heap.size ≤ wR52_f.heap.size := hbf.size
        have S58 : w_2.heap.size ≤ wR52_f.heap.size := (hb).size
        have f59 : wR52_f.cell? ⟨w.heap.size, 0, none⟩ = some (x0a) := (below_cell hb _ _ l48).trans f36
        have f60 : wR52_f.cell? ⟨w.heap.size, 1, none⟩ = some (x0b) := (below_cell hb _ _ l48).trans f37
        have f61 : wR52_f.cell? ⟨w.heap.size, 2, none⟩ = some (x0c) := (below_cell hb _ _ l48).trans f38
        have f62 : wR52_f.cell? ⟨w.heap.size + 1, 0, none⟩ = some (.string s1) := (below_cell hb _ _ l49).trans f39
        have f63 : wR52_f.cell? ⟨w.heap.size + 1, 1, none⟩ = some (v1) := (below_cell hb _ _ l49).trans f40
        have f64 : wR52_f.cell? ⟨w.heap.size + 2, 0, none⟩ = some (.int .i64 s2a) := (below_cell hb _ _ l50).trans f41
        have f65 : wR52_f.cell? ⟨w.heap.size + 2, 1, none⟩ = some (.int .i64 s2b) := (below_cell hb _ _ l50).trans f42
        have f66 : wR52_f.cell? ⟨w.heap.size + 2, 2, none⟩ = some (.int .i64 s2c) := (below_cell hb _ _ l50).trans f43
        have f67 : wR52_f.cell? ⟨w.heap.size + 2, 3, none⟩ = some (.int .i64 s2e) := (below_cell hb _ _ l50).trans f44
        have f68 : wR52_f.cell? ⟨w.heap.size + 2, 4, none⟩ = some (.int .i64 s2f) := (below_cell hb _ _ l50).trans f45
        have f69 : wR52_f.cell? ⟨w.heap.size + 2, 5, none⟩ = some (.int .i64 s2t) := (below_cell hb _ _ l50).trans f46
        have f70 : wR52_f.cell? ⟨w.heap.size + 2, 6, none⟩ = some (.int .i64 s2q) := (below_cell hb _ _ l50).trans f47
        have l71 : w.heap.size < wR52_f.heap.size := Nat.lt_of_lt_of_le l48 (hb).size
        have l72 : w.heap.size + 1 < wR52_f.heap.size := Nat.lt_of_lt_of_le l49 (hb).size
        have l73 : w.heap.size + 2 < wR52_f.heap.size := Nat.lt_of_lt_of_le l50 (hb).size
        clear f36 f37 f38 f39 f40 f41 f42 f43 f44 f45 f46 f47 l48 l49 l50
        have HB74 := Lib.hid (below_of HB51.out hb HB51.out.size)
        clear hb hbd hbrf hbf HSK hbq0 hbr0 hbq1 hbr1 hbq2 hbr2 hbq3 hbr3 ho0 HI0 ho1 HI1 ho3 HI3
        go_wp2_with fail
        refine (toModX_any x0a x0b x0c mz0 mw0 mb0 _ (modAt_kept HB74.out HZ0.out).1 (modAt_kept HB74.out HZ0.out).2.1 (modAt_kept HB74.out HZ0.out).2.2).mono ?_
        rintro e w_4 ⟨vx0a, vx0b, vx0c, rfl, ho, hb⟩
        have hF := modOwn_form ho
        obtain ⟨⟨aX0a, cX0a, rfl⟩, ⟨aX0b, cX0b, rfl⟩, ⟨aX0c, cX0c, rfl⟩⟩ := hF
        have HX0R := Lib.hid ho
        have S75 : wR52_f.heap.size ≤ w_4.heap.size := (hb).size
        have f76 : w_4.cell? ⟨w.heap.size, 0, none⟩ = some (x0a) := (below_cell hb _ _ l71).trans f59
        have f77 : w_4.cell? ⟨w.heap.size, 1, none⟩ = some (x0b) := (below_cell hb _ _ l71).trans f60
        have f78 : w_4.cell? ⟨w.heap.size, 2, none⟩ = some (x0c) := (below_cell hb _ _ l71).trans f61
        have f79 : w_4.cell? ⟨w.heap.size + 1, 0, none⟩ = some (.string s1) := (below_cell hb _ _ l72).trans f62
        have f80 : w_4.cell? ⟨w.heap.size + 1, 1, none⟩ = some (v1) := (below_cell hb _ _ l72).trans f63
        have f81 : w_4.cell? ⟨w.heap.size + 2, 0, none⟩ = some (.int .i64 s2a) := (below_cell hb _ _ l73).trans f64
        have f82 : w_4.cell? ⟨w.heap.size + 2, 1, none⟩ = some (.int .i64 s2b) := (below_cell hb _ _ l73).trans f65
        have f83 : w_4.cell? ⟨w.heap.size + 2, 2, none⟩ = some (.int .i64 s2c) := (below_cell hb _ _ l73).trans f66
        have f84 : w_4.cell? ⟨w.heap.size + 2, 3, none⟩ = some (.int .i64 s2e) := (below_cell hb _ _ l73).trans f67
        have f85 : w_4.cell? ⟨w.heap.size + 2, 4, none⟩ = some (.int .i64 s2f) := (below_cell hb _ _ l73).trans f68
        have f86 : w_4.cell? ⟨w.heap.size + 2, 5, none⟩ = some (.int .i64 s2t) := (below_cell hb _ _ l73).trans f69
        have f87 : w_4.cell? ⟨w.heap.size + 2, 6, none⟩ = some (.int .i64 s2q) := (below_cell hb _ _ l73).trans f70
        have l88 : w.heap.size < w_4.heap.size := Nat.lt_of_lt_of_le l71 (hb).size
        have l89 : w.heap.size + 1 < w_4.heap.size := Nat.lt_of_lt_of_le l72 (hb).size
        have l90 : w.heap.size + 2 < w_4.heap.size := Nat.lt_of_lt_of_le l73 (hb).size
        clear f59 f60 f61 f62 f63 f64 f65 f66 f67 f68 f69 f70 l71 l72 l73
        have HB91 := Lib.hid (below_of HB74.out hb HB74.out.size)
        clear hb ho
        have f92 : (w_4.alloc (.cells #[.slice aX0a mz0.length cX0a, .slice aX0b mw0.length cX0b, .slice aX0c mb0.length cX0c] 38)).cell? ⟨w.heap.size, 0, none⟩ = some (x0a) := (below_cell (below_al w_4 (.cells #[.slice aX0a mz0.length cX0a, .slice aX0b mw0.length cX0b, .slice aX0c mb0.length cX0c] 38)) _ _ l88).trans f76
        have f93 : (w_4.alloc (.cells #[.slice aX0a mz0.length cX0a, .slice aX0b mw0.length cX0b, .slice aX0c mb0.length cX0c] 38)).cell? ⟨w.heap.size, 1, none⟩ = some (x0b) := (below_cell (below_al w_4 (.cells #[.slice aX0a mz0.length cX0a, .slice aX0b mw0.length cX0b, .slice aX0c mb0.length cX0c] 38)) _ _ l88).trans f77
        have f94 : (w_4.alloc (.cells #[.slice aX0a mz0.length cX0a, .slice aX0b mw0.length cX0b, .slice aX0c mb0.length cX0c] 38)).cell? ⟨w.heap.size, 2, none⟩ = some (x0c) := (below_cell (below_al w_4 (.cells #[.slice aX0a mz0.length cX0a, .slice aX0b mw0.length cX0b, .slice aX0c mb0.length cX0c] 38)) _ _ l88).trans f78
        have f95 : (w_4.alloc (.cells #[.slice aX0a mz0.length cX0a, .slice aX0b mw0.length cX0b, .slice aX0c mb0.length cX0c] 38)).cell? ⟨w.heap.size + 1, 0, none⟩ = some (.string s1) := (below_cell (below_al w_4 (.cells #[.slice aX0a mz0.length cX0a, .slice aX0b mw0.length cX0b, .slice aX0c mb0.length cX0c] 38)) _ _ l89).trans f79
        have f96 : (w_4.alloc (.cells #[.slice aX0a mz0.length cX0a, .slice aX0b mw0.length cX0b, .slice aX0c mb0.length cX0c] 38)).cell? ⟨w.heap.size + 1, 1, none⟩ = some (v1) := (below_cell (below_al w_4 (.cells #[.slice aX0a mz0.length cX0a, .slice aX0b mw0.length cX0b, .slice aX0c mb0.length cX0c] 38)) _ _ l89).trans f80
        have f97 : (w_4.alloc (.cells #[.slice aX0a mz0.length cX0a, .slice aX0b mw0.length cX0b, .slice aX0c mb0.length cX0c] 38)).cell? ⟨w.heap.size + 2, 0, none⟩ = some (.int .i64 s2a) := (below_cell (below_al w_4 (.cells #[.slice aX0a mz0.length cX0a, .slice aX0b mw0.length cX0b, .slice aX0c mb0.length cX0c] 38)) _ _ l90).trans f81
        have f98 : (w_4.alloc (.cells #[.slice aX0a mz0.length cX0a, .slice aX0b mw0.length cX0b, .slice aX0c mb0.length cX0c] 38)).cell? ⟨w.heap.size + 2, 1, none⟩ = some (.int .i64 s2b) := (below_cell (below_al w_4 (.cells #[.slice aX0a mz0.length cX0a, .slice aX0b mw0.length cX0b, .slice aX0c mb0.length cX0c] 38)) _ _ l90).trans f82
        have f99 : (w_4.alloc (.cells #[.slice aX0a mz0.length cX0a, .slice aX0b mw0.length cX0b, .slice aX0c mb0.length cX0c] 38)).cell? ⟨w.heap.size + 2, 2, none⟩ = some (.int .i64 s2c) := (below_cell (below_al w_4 (.cells #[.slice aX0a mz0.length cX0a, .slice aX0b mw0.length cX0b, .slice aX0c mb0.length cX0c] 38)) _ _ l90).trans f83
        have f100 : (w_4.alloc (.cells #[.slice aX0a mz0.length cX0a, .slice aX0b mw0.length cX0b, .slice aX0c mb0.length cX0c] 38)).cell? ⟨w.heap.size + 2, 3, none⟩ = some (.int .i64 s2e) := (below_cell (below_al w_4 (.cells #[.slice aX0a mz0.length cX0a, .slice aX0b mw0.length cX0b, .slice aX0c mb0.length cX0c] 38)) _ _ l90).trans f84
        have f101 : (w_4.alloc (.cells #[.slice aX0a mz0.length cX0a, .slice aX0b mw0.length cX0b, .slice aX0c mb0.length cX0c] 38)).cell? ⟨w.heap.size + 2, 4, none⟩ = some (.int .i64 s2f) := (below_cell (below_al w_4 (.cells #[.slice aX0a mz0.length cX0a, .slice aX0b mw0.length cX0b, .slice aX0c mb0.length cX0c] 38)) _ _ l90).trans f85
        have f102 : (w_4.alloc (.cells #[.slice aX0a mz0.length cX0a, .slice aX0b mw0.length cX0b, .slice aX0c mb0.length cX0c] 38)).cell? ⟨w.heap.size + 2, 5, none⟩ = some (.int .i64 s2t) := (below_cell (below_al w_4 (.cells #[.slice aX0a mz0.length cX0a, .slice aX0b mw0.length cX0b, .slice aX0c mb0.length cX0c] 38)) _ _ l90).trans f86
        have f103 : (w_4.alloc (.cells #[.slice aX0a mz0.length cX0a, .slice aX0b mw0.length cX0b, .slice aX0c mb0.length cX0c] 38)).cell? ⟨w.heap.size + 2, 6, none⟩ = some (.int .i64 s2q) := (below_cell (below_al w_4 (.cells #[.slice aX0a mz0.length cX0a, .slice aX0b mw0.length cX0b, .slice aX0c mb0.length cX0c] 38)) _ _ l90).trans f87
        have l104 : w.heap.size < (w_4.alloc (.cells #[.slice aX0a mz0.length cX0a, .slice aX0b mw0.length cX0b, .slice aX0c mb0.length cX0c] 38)).heap.size := Nat.lt_of_lt_of_le l88 (below_al w_4 (.cells #[.slice aX0a mz0.length cX0a, .slice aX0b mw0.length cX0b, .slice aX0c mb0.length cX0c] 38)).size
        have l105 : w.heap.size + 1 < (w_4.alloc (.cells #[.slice aX0a mz0.length cX0a, .slice aX0b mw0.length cX0b, .slice aX0c mb0.length cX0c] 38)).heap.size := Nat.lt_of_lt_of_le l89 (below_al w_4 (.cells #[.slice aX0a mz0.length cX0a, .slice aX0b mw0.length cX0b, .slice aX0c mb0.length cX0c] 38)).size
        have l106 : w.heap.size + 2 < (w_4.alloc (.cells #[.slice aX0a mz0.length cX0a, .slice aX0b mw0.length cX0b, .slice aX0c mb0.length cX0c] 38)).heap.size := Nat.lt_of_lt_of_le l90 (below_al w_4 (.cells #[.slice aX0a mz0.length cX0a, .slice aX0b mw0.length cX0b, .slice aX0c mb0.length cX0c] 38)).size
        clear f76 f77 f78 f79 f80 f81 f82 f83 f84 f85 f86 f87 l88 l89 l90
        have f107 : (w_4.alloc (.cells #[.slice aX0a mz0.length cX0a, .slice aX0b mw0.length cX0b, .slice aX0c mb0.length cX0c] 38)).cell? ⟨w_4.heap.size, 0, none⟩ = some (.slice aX0a mz0.length cX0a) := by go_simp
        have f108 : (w_4.alloc (.cells #[.slice aX0a mz0.length cX0a, .slice aX0b mw0.length cX0b, .slice aX0c mb0.length cX0c] 38)).cell? ⟨w_4.heap.size, 1, none⟩ = some (.slice aX0b mw0.length cX0b) := by go_simp
        have f109 : (w_4.alloc (.cells #[.slice aX0a mz0.length cX0a, .slice aX0b mw0.length cX0b, .slice aX0c mb0.length cX0c] 38)).cell? ⟨w_4.heap.size, 2, none⟩ = some (.slice aX0c mb0.length cX0c) := by go_simp
        have l110 : w_4.heap.size < (w_4.alloc (.cells #[.slice aX0a mz0.length cX0a, .slice aX0b mw0.length cX0b, .slice aX0c mb0.length cX0c] 38)).heap.size := alloc_lt2 _ _
        have S111 : w_4.heap.size < (w_4.alloc (.cells #[.slice aX0a mz0.length cX0a, .slice aX0b mw0.length cX0b, .slice aX0c mb0.length cX0c] 38)).heap.size := alloc_lt2 _ _
        have HB112 := Lib.hid (below_of HB91.out (below_al w_4 (.cells #[.slice aX0a mz0.length cX0a, .slice aX0b mw0.length cX0b, .slice aX0c mb0.length cX0c] 38)) HB91.out.size)
        have HR113 := Lib.hid (modOwn_kept (below_al w_4 (.cells #[.slice aX0a mz0.length cX0a, .slice aX0b mw0.length cX0b, .slice aX0c mb0.length cX0c] 38)) HX0R.out)
        clear HX0R
        go_wp2_with fail
        generalize (w_4.alloc (.cells #[.slice aX0a mz0.length cX0a, .slice aX0b mw0.length cX0b, .slice aX0c mb0.length cX0c] 38)) = wb114 at *
        refine (toProf_any s1 v1 zs1 _ (rings_kept HB112.out HZ1.out)).mono ?_
        rintro e w_5 ⟨vx1, rfl, ho, hb⟩
        have HXR0 := rv_of_ownAt ho
        obtain ⟨aX1, cX1, rfl⟩ := rv_form HXR0
        rw [HNA1.out] at HXR0 ⊢
        have HX1I := Lib.hid (rv_in HXR0)
        have HX1R := Lib.hid HXR0
        have S115 : wb114.heap.size ≤ w_5.heap.size := (hb).size
        have f116 : w_5.cell? ⟨w.heap.size, 0, none⟩ = some (x0a) := (below_cell hb _ _ l104).trans f92
        have f117 : w_5.cell? ⟨w.heap.size, 1, none⟩ = some (x0b) := (below_cell hb _ _ l104).trans f93
        have f118 : w_5.cell? ⟨w.heap.size, 2, none⟩ = some (x0c) := (below_cell hb _ _ l104).trans f94
        have f119 : w_5.cell? ⟨w.heap.size + 1, 0, none⟩ = some (.string s1) := (below_cell hb _ _ l105).trans f95
        have f120 : w_5.cell? ⟨w.heap.size + 1, 1, none⟩ = some (v1) := (below_cell hb _ _ l105).trans f96
        have f121 : w_5.cell? ⟨w.heap.size + 2, 0, none⟩ = some (.int .i64 s2a) := (below_cell hb _ _ l106).trans f97
        have f122 : w_5.cell? ⟨w.heap.size + 2, 1, none⟩ = some (.int .i64 s2b) := (below_cell hb _ _ l106).trans f98
        have f123 : w_5.cell? ⟨w.heap.size + 2, 2, none⟩ = some (.int .i64 s2c) := (below_cell hb _ _ l106).trans f99
        have f124 : w_5.cell? ⟨w.heap.size + 2, 3, none⟩ = some (.int .i64 s2e) := (below_cell hb _ _ l106).trans f100
        have f125 : w_5.cell? ⟨w.heap.size + 2, 4, none⟩ = some (.int .i64 s2f) := (below_cell hb _ _ l106).trans f101
        have f126 : w_5.cell? ⟨w.heap.size + 2, 5, none⟩ = some (.int .i64 s2t) := (below_cell hb _ _ l106).trans f102
        have f127 : w_5.cell? ⟨w.heap.size + 2, 6, none⟩ = some (.int .i64 s2q) := (below_cell hb _ _ l106).trans f103
        have f128 : w_5.cell? ⟨w_4.heap.size, 0, none⟩ = some (.slice aX0a mz0.length cX0a) := (below_cell hb _ _ l110).trans f107
        have f129 : w_5.cell? ⟨w_4.heap.size, 1, none⟩ = some (.slice aX0b mw0.length cX0b) := (below_cell hb _ _ l110).trans f108
        have f130 : w_5.cell? ⟨w_4.heap.size, 2, none⟩ = some (.slice aX0c mb0.length cX0c) := (below_cell hb _ _ l110).trans f109
        have l131 : w.heap.size < w_5.heap.size := Nat.lt_of_lt_of_le l104 (hb).size
        have l132 : w.heap.size + 1 < w_5.heap.size := Nat.lt_of_lt_of_le l105 (hb).size
        have l133 : w.heap.size + 2 < w_5.heap.size := Nat.lt_of_lt_of_le l106 (hb).size
        have l134 : w_4.heap.size < w_5.heap.size := Nat.lt_of_lt_of_le l110 (hb).size
        clear f92 f93 f94 f95 f96 f97 f98 f99 f100 f101 f102 f103 f107 f108 f109 l104 l105 l106 l110
        have HB135 := Lib.hid (below_of HB112.out hb HB112.out.size)
        have HR136 := Lib.hid (modOwn_kept hb HR113.out)
        clear HR113
        clear hb ho HXR0
        have f137 : (w_5.alloc (.cells #[.string s1, .slice aX1 len1 cX1] 42)).cell? ⟨w.heap.size, 0, none⟩ = some (x0a) := (below_cell (below_al w_5 (.cells #[.string s1, .slice aX1 len1 cX1] 42)) _ _ l131).trans f116
        have f138 : (w_5.alloc (.cells #[.string s1, .slice aX1 len1 cX1] 42)).cell? ⟨w.heap.size, 1, none⟩ = some (x0b) := (below_cell (below_al w_5 (.cells #[.string s1, .slice aX1 len1 cX1] 42)) _ _ l131).trans f117
        have f139 : (w_5.alloc (.cells #[.string s1, .slice aX1 len1 cX1] 42)).cell? ⟨w.heap.size, 2, none⟩ = some (x0c) := (below_cell (below_al w_5 (.cells #[.string s1, .slice aX1 len1 cX1] 42)) _ _ l131).trans f118
        have f140 : (w_5.alloc (.cells #[.string s1, .slice aX1 len1 cX1] 42)).cell? ⟨w.heap.size + 1, 0, none⟩ = some (.string s1) := (below_cell (below_al w_5 (.cells #[.string s1, .slice aX1 len1 cX1] 42)) _ _ l132).trans f119
        have f141 : (w_5.alloc (.cells #[.string s1, .slice aX1 len1 cX1] 42)).cell? ⟨w.heap.size + 1, 1, none⟩ = some (v1) := (below_cell (below_al w_5 (.cells #[.string s1, .slice aX1 len1 cX1] 42)) _ _ l132).trans f120
        have f142 : (w_5.alloc (.cells #[.string s1, .slice aX1 len1 cX1] 42)).cell? ⟨w.heap.size + 2, 0, none⟩ = some (.int .i64 s2a) := (below_cell (below_al w_5 (.cells #[.string s1, .slice aX1 len1 cX1] 42)) _ _ l133).trans f121
        have f143 : (w_5.alloc (.cells #[.string s1, .slice aX1 len1 cX1] 42)).cell? ⟨w.heap.size + 2, 1, none⟩ = some (.int .i64 s2b) := (below_cell (below_al w_5 (.cells #[.string s1, .slice aX1 len1 cX1] 42)) _ _ l133).trans f122
        have f144 : (w_5.alloc (.cells #[.string s1, .slice aX1 len1 cX1] 42)).cell? ⟨w.heap.size + 2, 2, none⟩ = some (.int .i64 s2c) := (below_cell (below_al w_5 (.cells #[.string s1, .slice aX1 len1 cX1] 42)) _ _ l133).trans f123
        have f145 : (w_5.alloc (.cells #[.string s1, .slice aX1 len1 cX1] 42)).cell? ⟨w.heap.size + 2, 3, none⟩ = some (.int .i64 s2e) := (below_cell (below_al w_5 (.cells #[.string s1, .slice aX1 len1 cX1] 42)) _ _ l133).trans f124
        have f146 : (w_5.alloc (.cells #[.string s1, .slice aX1 len1 cX1] 42)).cell? ⟨w.heap.size + 2, 4, none⟩ = some (.int .i64 s2f) := (below_cell (below_al w_5 (.cells #[.string s1, .slice aX1 len1 cX1] 42)) _ _ l133).trans f125
        have f147 : (w_5.alloc (.cells #[.string s1, .slice aX1 len1 cX1] 42)).cell? ⟨w.heap.size + 2, 5, none⟩ = some (.int .i64 s2t) := (below_cell (below_al w_5 (.cells #[.string s1, .slice aX1 len1 cX1] 42)) _ _ l133).trans f126
        have f148 : (w_5.alloc (.cells #[.string s1, .slice aX1 len1 cX1] 42)).cell? ⟨w.heap.size + 2, 6, none⟩ = some (.int .i64 s2q) := (below_cell (below_al w_5 (.cells #[.string s1, .slice aX1 len1 cX1] 42)) _ _ l133).trans f127
        have f149 : (w_5.alloc (.cells #[.string s1, .slice aX1 len1 cX1] 42)).cell? ⟨w_4.heap.size, 0, none⟩ = some (.slice aX0a mz0.length cX0a) := (below_cell (below_al w_5 (.cells #[.string s1, .slice aX1 len1 cX1] 42)) _ _ l134).trans f128
        have f150 : (w_5.alloc (.cells #[.string s1, .slice aX1 len1 cX1] 42)).cell? ⟨w_4.heap.size, 1, none⟩ = some (.slice aX0b mw0.length cX0b) := (below_cell (below_al w_5 (.cells #[.string s1, .slice aX1 len1 cX1] 42)) _ _ l134).trans f129
        have f151 : (w_5.alloc (.cells #[.string s1, .slice aX1 len1 cX1] 42)).cell? ⟨w_4.heap.size, 2, none⟩ = some (.slice aX0c mb0.length cX0c) := (below_cell (below_al w_5 (.cells #[.string s1, .slice aX1 len1 cX1] 42)) _ _ l134).trans f130
        have l152 : w.heap.size < (w_5.alloc (.cells #[.string s1, .slice aX1 len1 cX1] 42)).heap.size := Nat.lt_of_lt_of_le l131 (below_al w_5 (.cells #[.string s1, .slice aX1 len1 cX1] 42)).size
        have l153 : w.heap.size + 1 < (w_5.alloc (.cells #[.string s1, .slice aX1 len1 cX1] 42)).heap.size := Nat.lt_of_lt_of_le l132 (below_al w_5 (.cells #[.string s1, .slice aX1 len1 cX1] 42)).size
        have l154 : w.heap.size + 2 < (w_5.alloc (.cells #[.string s1, .slice aX1 len1 cX1] 42)).heap.size := Nat.lt_of_lt_of_le l133 (below_al w_5 (.cells #[.string s1, .slice aX1 len1 cX1] 42)).size
        have l155 : w_4.heap.size < (w_5.alloc (.cells #[.string s1, .slice aX1 len1 cX1] 42)).heap.size := Nat.lt_of_lt_of_le l134 (below_al w_5 (.cells #[.string s1, .slice aX1 len1 cX1] 42)).size
        clear f116 f117 f118 f119 f120 f121 f122 f123 f124 f125 f126 f127 f128 f129 f130 l131 l132 l133 l134
        have f156 : (w_5.alloc (.cells #[.string s1, .slice aX1 len1 cX1] 42)).cell? ⟨w_5.heap.size, 0, none⟩ = some (.string s1) := by go_simp
        have f157 : (w_5.alloc (.cells #[.string s1, .slice aX1 len1 cX1] 42)).cell? ⟨w_5.heap.size, 1, none⟩ = some (.slice aX1 len1 cX1) := by go_simp
        have l158 : w_5.heap.size < (w_5.alloc (.cells #[.string s1, .slice aX1 len1 cX1] 42)).heap.size := alloc_lt2 _ _
        have S159 : w_5.heap.size < (w_5.alloc (.cells #[.string s1, .slice aX1 len1 cX1] 42)).heap.size := alloc_lt2 _ _
        have HB160 := Lib.hid (below_of HB135.out (below_al w_5 (.cells #[.string s1, .slice aX1 len1 cX1] 42)) HB135.out.size)
        have HR161 := Lib.hid (modOwn_kept (below_al w_5 (.cells #[.string s1, .slice aX1 len1 cX1] 42)) HR136.out)
        clear HR136
        have HR162 := Lib.hid (rv_kept (below_al w_5 (.cells #[.string s1, .slice aX1 len1 cX1] 42)) HX1R.out)
        clear HX1R
        go_wp2_with fail
        generalize (w_5.alloc (.cells #[.string s1, .slice aX1 len1 cX1] 42)) = wb163 at *
        refine (toCuts_any z3 _ _ (cuts_kept HB160.out HY3.out)).mono ?_
        rintro e w_6 ⟨vx3, rfl, ho, hb⟩
        have hv := cv_own ho
        obtain ⟨aZ3, cZ3, rfl⟩ := cv_form hv
        rw [HZN3.out] at hv ⊢
        have HX3I := Lib.hid (cv_in hv)
        have HX3R := Lib.hid hv
        clear hv
        have S164 : wb163.heap.size ≤ w_6.heap.size := (hb).size
        have f165 : w_6.cell? ⟨w.heap.size, 0, none⟩ = some (x0a) := (below_cell hb _ _ l152).trans f137
        have f166 : w_6.cell? ⟨w.heap.size, 1, none⟩ = some (x0b) := (below_cell hb _ _ l152).trans f138
        have f167 : w_6.cell? ⟨w.heap.size, 2, none⟩ = some (x0c) := (below_cell hb _ _ l152).trans f139
        have f168 : w_6.cell? ⟨w.heap.size + 1, 0, none⟩ = some (.string s1) := (below_cell hb _ _ l153).trans f140
        have f169 : w_6.cell? ⟨w.heap.size + 1, 1, none⟩ = some (v1) := (below_cell hb _ _ l153).trans f141
        have f170 : w_6.cell? ⟨w.heap.size + 2, 0, none⟩ = some (.int .i64 s2a) := (below_cell hb _ _ l154).trans f142
        have f171 : w_6.cell? ⟨w.heap.size + 2, 1, none⟩ = some (.int .i64 s2b) := (below_cell hb _ _ l154).trans f143
        have f172 : w_6.cell? ⟨w.heap.size + 2, 2, none⟩ = some (.int .i64 s2c) := (below_cell hb _ _ l154).trans f144
        have f173 : w_6.cell? ⟨w.heap.size + 2, 3, none⟩ = some (.int .i64 s2e) := (below_cell hb _ _ l154).trans f145
        have f174 : w_6.cell? ⟨w.heap.size + 2, 4, none⟩ = some (.int .i64 s2f) := (below_cell hb _ _ l154).trans f146
        have f175 : w_6.cell? ⟨w.heap.size + 2, 5, none⟩ = some (.int .i64 s2t) := (below_cell hb _ _ l154).trans f147
        have f176 : w_6.cell? ⟨w.heap.size + 2, 6, none⟩ = some (.int .i64 s2q) := (below_cell hb _ _ l154).trans f148
        have f177 : w_6.cell? ⟨w_4.heap.size, 0, none⟩ = some (.slice aX0a mz0.length cX0a) := (below_cell hb _ _ l155).trans f149
        have f178 : w_6.cell? ⟨w_4.heap.size, 1, none⟩ = some (.slice aX0b mw0.length cX0b) := (below_cell hb _ _ l155).trans f150
        have f179 : w_6.cell? ⟨w_4.heap.size, 2, none⟩ = some (.slice aX0c mb0.length cX0c) := (below_cell hb _ _ l155).trans f151
        have f180 : w_6.cell? ⟨w_5.heap.size, 0, none⟩ = some (.string s1) := (below_cell hb _ _ l158).trans f156
        have f181 : w_6.cell? ⟨w_5.heap.size, 1, none⟩ = some (.slice aX1 len1 cX1) := (below_cell hb _ _ l158).trans f157
        have l182 : w.heap.size < w_6.heap.size := Nat.lt_of_lt_of_le l152 (hb).size
        have l183 : w.heap.size + 1 < w_6.heap.size := Nat.lt_of_lt_of_le l153 (hb).size
        have l184 : w.heap.size + 2 < w_6.heap.size := Nat.lt_of_lt_of_le l154 (hb).size
        have l185 : w_4.heap.size < w_6.heap.size := Nat.lt_of_lt_of_le l155 (hb).size
        have l186 : w_5.heap.size < w_6.heap.size := Nat.lt_of_lt_of_le l158 (hb).size
        clear f137 f138 f139 f140 f141 f142 f143 f144 f145 f146 f147 f148 f149 f150 f151 f156 f157 l152 l153 l154 l155 l158
        have HB187 := Lib.hid (below_of HB160.out hb HB160.out.size)
        have HR188 := Lib.hid (modOwn_kept hb HR161.out)
        clear HR161
        have HR189 := Lib.hid (rv_kept hb HR162.out)
        clear HR162
        clear hb ho
        go_wp2_with fail
        have hbd : Below w_6.heap.size w_6 w_6.drew := ⟨rfl, rfl, rfl, Nat.le_refl _, fun _ _ => rfl⟩
        have HIX0 := Lib.hid (modOwn_parts HML0.out.2.2.1 HML0.out.2.1 (lenS_row HML0.out.2.2.2.2) HML0.out.2.2.2.1 HR188.out)
        have HIX1 := Lib.hid (rvW HZL1.out HR189.out)
        have HIX3 := Lib.hid (cv_at HYL3.out HX3R.out)
        have HSK := Lib.hid (fun W (hW : Below w_6.heap.size w_6 W) => show W.cell? ⟨w.heap.size + 2, 0, none⟩ = some (.int .i64 s2a) ∧ W.cell? ⟨w.heap.size + 2, 1, none⟩ = some (.int .i64 s2b) ∧ W.cell? ⟨w.heap.size + 2, 2, none⟩ = some (.int .i64 s2c) ∧ W.cell? ⟨w.heap.size + 2, 3, none⟩ = some (.int .i64 s2e) ∧ W.cell? ⟨w.heap.size + 2, 4, none⟩ = some (.int .i64 s2f) ∧ W.cell? ⟨w.heap.size + 2, 5, none⟩ = some (.int .i64 s2t) ∧ W.cell? ⟨w.heap.size + 2, 6, none⟩ = some (.int .i64 s2q) ∧ W.cell? ⟨w_4.heap.size, 0, none⟩ = some (.slice aX0a mz0.length cX0a) ∧ W.cell? ⟨w_4.heap.size, 1, none⟩ = some (.slice aX0b mw0.length cX0b) ∧ W.cell? ⟨w_4.heap.size, 2, none⟩ = some (.slice aX0c mb0.length cX0c) ∧ W.cell? ⟨w_5.heap.size, 0, none⟩ = some (.string s1) ∧ W.cell? ⟨w_5.heap.size, 1, none⟩ = some (.slice aX1 len1 cX1) ∧ Below w_6.heap.size w_6 W from ⟨(below_cell hW _ _ l184).trans f170, (below_cell hW _ _ l184).trans f171, (below_cell hW _ _ l184).trans f172, (below_cell hW _ _ l184).trans f173, (below_cell hW _ _ l184).trans f174, (below_cell hW _ _ l184).trans f175, (below_cell hW _ _ l184).trans f176, (below_cell hW _ _ l185).trans f177, (below_cell hW _ _ l185).trans f178, (below_cell hW _ _ l185).trans f179, (below_cell hW _ _ l186).trans f180, (below_cell hW _ _ l186).trans f181, hW⟩)
        go_region_held3 (fun W => W.cell? ⟨w.heap.size + 2, 0, none⟩ = some (.int .i64 s2a) ∧ W.cell? ⟨w.heap.size + 2, 1, none⟩ = some (.int .i64 s2b) ∧ W.cell? ⟨w.heap.size + 2, 2, none⟩ = some (.int .i64 s2c) ∧ W.cell? ⟨w.heap.size + 2, 3, none⟩ = some (.int .i64 s2e) ∧ W.cell? ⟨w.heap.size + 2, 4, none⟩ = some (.int .i64 s2f) ∧ W.cell? ⟨w.heap.size + 2, 5, none⟩ = some (.int .i64 s2t) ∧ W.cell? ⟨w.heap.size + 2, 6, none⟩ = some (.int .i64 s2q) ∧ W.cell? ⟨w_4.heap.size, 0, none⟩ = some (.slice aX0a mz0.length cX0a) ∧ W.cell? ⟨w_4.heap.size, 1, none⟩ = some (.slice aX0b mw0.length cX0b) ∧ W.cell? ⟨w_4.heap.size, 2, none⟩ = some (.slice aX0c mb0.length cX0c) ∧ W.cell? ⟨w_5.heap.size, 0, none⟩ = some (.string s1) ∧ W.cell? ⟨w_5.heap.size, 1, none⟩ = some (.slice aX1 len1 cX1) ∧ Below w_6.heap.size w_6 W)
          (first | exact HSK.out _ hbd | exact HSK.out _ hbr0 | exact HSK.out _ hbrf | assumption)
          (first
            | (go_at_call_of 11 (Value.agg #[.int .i64 s2a, .int .i64 s2b, .int .i64 s2c, .int .i64 s2e, .int .i64 s2f, .int .i64 s2t, .int .i64 s2q]); refine (toGoal_any s2a s2b s2c s2e s2f s2t s2q _).mono ?_; rintro e wR190_0 ⟨rfl, hbq0⟩; have hbr0 := below_of hbd hbq0 hbd.size)
            | (go_at_call 13; refine (HIM.out _ _ _ _ _ _ (modAt_kept hbr0 HIX0.out) (ringsW_kept hbr0 HIX1.out) (cuts_kept hbr0 HIX3.out)).mono ?_; rintro e wR190_f ⟨rfl, hbf⟩; have hbrf := below_of hbr0 hbf hbr0.size))
        have hb := hbrf
        have S191 : w_6.heap.size ≤ wR190_0.heap.size := hbq0.size
        have S192 : wR190_0.heap.size ≤ wR190_f.heap.size := hbf.size
        have S193 : w_6.heap.size ≤ wR190_f.heap.size := (hb).size
        have f194 : wR190_f.cell? ⟨w.heap.size, 0, none⟩ = some (x0a) := (below_cell hb _ _ l182).trans f165
        have f195 : wR190_f.cell? ⟨w.heap.size, 1, none⟩ = some (x0b) := (below_cell hb _ _ l182).trans f166
        have f196 : wR190_f.cell? ⟨w.heap.size, 2, none⟩ = some (x0c) := (below_cell hb _ _ l182).trans f167
        have f197 : wR190_f.cell? ⟨w.heap.size + 1, 0, none⟩ = some (.string s1) := (below_cell hb _ _ l183).trans f168
        have f198 : wR190_f.cell? ⟨w.heap.size + 1, 1, none⟩ = some (v1) := (below_cell hb _ _ l183).trans f169
        have f199 : wR190_f.cell? ⟨w.heap.size + 2, 0, none⟩ = some (.int .i64 s2a) := (below_cell hb _ _ l184).trans f170
        have f200 : wR190_f.cell? ⟨w.heap.size + 2, 1, none⟩ = some (.int .i64 s2b) := (below_cell hb _ _ l184).trans f171
        have f201 : wR190_f.cell? ⟨w.heap.size + 2, 2, none⟩ = some (.int .i64 s2c) := (below_cell hb _ _ l184).trans f172
        have f202 : wR190_f.cell? ⟨w.heap.size + 2, 3, none⟩ = some (.int .i64 s2e) := (below_cell hb _ _ l184).trans f173
        have f203 : wR190_f.cell? ⟨w.heap.size + 2, 4, none⟩ = some (.int .i64 s2f) := (below_cell hb _ _ l184).trans f174
        have f204 : wR190_f.cell? ⟨w.heap.size + 2, 5, none⟩ = some (.int .i64 s2t) := (below_cell hb _ _ l184).trans f175
        have f205 : wR190_f.cell? ⟨w.heap.size + 2, 6, none⟩ = some (.int .i64 s2q) := (below_cell hb _ _ l184).trans f176
        have f206 : wR190_f.cell? ⟨w_4.heap.size, 0, none⟩ = some (.slice aX0a mz0.length cX0a) := (below_cell hb _ _ l185).trans f177
        have f207 : wR190_f.cell? ⟨w_4.heap.size, 1, none⟩ = some (.slice aX0b mw0.length cX0b) := (below_cell hb _ _ l185).trans f178
        have f208 : wR190_f.cell? ⟨w_4.heap.size, 2, none⟩ = some (.slice aX0c mb0.length cX0c) := (below_cell hb _ _ l185).trans f179
        have f209 : wR190_f.cell? ⟨w_5.heap.size, 0, none⟩ = some (.string s1) := (below_cell hb _ _ l186).trans f180
        have f210 : wR190_f.cell? ⟨w_5.heap.size, 1, none⟩ = some (.slice aX1 len1 cX1) := (below_cell hb _ _ l186).trans f181
        have l211 : w.heap.size < wR190_f.heap.size := Nat.lt_of_lt_of_le l182 (hb).size
        have l212 : w.heap.size + 1 < wR190_f.heap.size := Nat.lt_of_lt_of_le l183 (hb).size
        have l213 : w.heap.size + 2 < wR190_f.heap.size := Nat.lt_of_lt_of_le l184 (hb).size
        have l214 : w_4.heap.size < wR190_f.heap.size := Nat.lt_of_lt_of_le l185 (hb).size
        have l215 : w_5.heap.size < wR190_f.heap.size := Nat.lt_of_lt_of_le l186 (hb).size
        clear f165 f166 f167 f168 f169 f170 f171 f172 f173 f174 f175 f176 f177 f178 f179 f180 f181 l182 l183 l184 l185 l186
        have HB216 := Lib.hid (below_of HB187.out hb HB187.out.size)
        have HR217 := Lib.hid (modOwn_kept hb HR188.out)
        clear HR188
        have HR218 := Lib.hid (rv_kept hb HR189.out)
        clear HR189
        have HR219 := Lib.hid (cv_kept hb HX3R.out)
        clear HX3R
        clear hb hbd hbrf hbf HSK hbq0 hbr0 HIX0 HIX1 HIX3
        go_wp2
        have hbd : Below wR190_f.heap.size wR190_f wR190_f.drew := ⟨rfl, rfl, rfl, Nat.le_refl _, fun _ _ => rfl⟩
        have HIv := Lib.hid (modAt_kept HB216.out HZ0.out)
        have HXr := Lib.hid (modOwn_parts HML0.out.2.2.1 HML0.out.2.1 (lenS_row HML0.out.2.2.2.2) HML0.out.2.2.2.1 HR217.out)
        have HSK := Lib.hid (fun W (hW : Below wR190_f.heap.size wR190_f W) => show W.cell? ⟨w.heap.size, 0, none⟩ = some (x0a) ∧ W.cell? ⟨w.heap.size, 1, none⟩ = some (x0b) ∧ W.cell? ⟨w.heap.size, 2, none⟩ = some (x0c) ∧ W.cell? ⟨w_4.heap.size, 0, none⟩ = some (.slice aX0a mz0.length cX0a) ∧ W.cell? ⟨w_4.heap.size, 1, none⟩ = some (.slice aX0b mw0.length cX0b) ∧ W.cell? ⟨w_4.heap.size, 2, none⟩ = some (.slice aX0c mb0.length cX0c) ∧ Below wR190_f.heap.size wR190_f W from ⟨(below_cell hW _ _ l211).trans f194, (below_cell hW _ _ l211).trans f195, (below_cell hW _ _ l211).trans f196, (below_cell hW _ _ l214).trans f206, (below_cell hW _ _ l214).trans f207, (below_cell hW _ _ l214).trans f208, hW⟩)
        go_region_held3 (fun W => W.cell? ⟨w.heap.size, 0, none⟩ = some (x0a) ∧ W.cell? ⟨w.heap.size, 1, none⟩ = some (x0b) ∧ W.cell? ⟨w.heap.size, 2, none⟩ = some (x0c) ∧ W.cell? ⟨w_4.heap.size, 0, none⟩ = some (.slice aX0a mz0.length cX0a) ∧ W.cell? ⟨w_4.heap.size, 1, none⟩ = some (.slice aX0b mw0.length cX0b) ∧ W.cell? ⟨w_4.heap.size, 2, none⟩ = some (.slice aX0c mb0.length cX0c) ∧ Below wR190_f.heap.size wR190_f W)
          (first | exact HSK.out _ hbd | exact HSK.out _ hbr0 | exact HSK.out _ hbrf | assumption)
          (first
            | (go_at_call 9; refine (toModX_any x0a x0b x0c mz0 mw0 mb0 _ (modAt_kept hbd HIv.out).1 (modAt_kept hbd HIv.out).2.1 (modAt_kept hbd HIv.out).2.2).mono ?_; rintro e wq1000 ⟨v7a, v7b, v7c, rfl, ho7, hbq0⟩; have hbr0 := below_of hbd hbq0 hbd.size)
            | (go_at_call 14; refine (eqMod_any _ _ _ v7a v7b v7c mz0 mw0 mb0 _ (modAt_kept hbr0 HXr.out).1 (modAt_kept hbr0 HXr.out).2.1 (modAt_kept hbr0 HXr.out).2.2 (modOwn_parts HML0.out.2.2.1 HML0.out.2.1 (lenS_row HML0.out.2.2.2.2) HML0.out.2.2.2.1 ho7).1 (modOwn_parts HML0.out.2.2.1 HML0.out.2.1 (lenS_row HML0.out.2.2.2.2) HML0.out.2.2.2.1 ho7).2.1 (modOwn_parts HML0.out.2.2.1 HML0.out.2.1 (lenS_row HML0.out.2.2.2.2) HML0.out.2.2.2.1 ho7).2.2).mono ?_; rintro e wq2000 ⟨rfl, hbf⟩; have hbrf := below_of hbr0 hbf hbr0.size))
        have hb := hbrf
        have S220 : wR190_f.heap.size ≤ wq2000.heap.size := (hb).size
        have f221 : wq2000.cell? ⟨w.heap.size, 0, none⟩ = some (x0a) := (below_cell hb _ _ l211).trans f194
        have f222 : wq2000.cell? ⟨w.heap.size, 1, none⟩ = some (x0b) := (below_cell hb _ _ l211).trans f195
        have f223 : wq2000.cell? ⟨w.heap.size, 2, none⟩ = some (x0c) := (below_cell hb _ _ l211).trans f196
        have f224 : wq2000.cell? ⟨w.heap.size + 1, 0, none⟩ = some (.string s1) := (below_cell hb _ _ l212).trans f197
        have f225 : wq2000.cell? ⟨w.heap.size + 1, 1, none⟩ = some (v1) := (below_cell hb _ _ l212).trans f198
        have f226 : wq2000.cell? ⟨w.heap.size + 2, 0, none⟩ = some (.int .i64 s2a) := (below_cell hb _ _ l213).trans f199
        have f227 : wq2000.cell? ⟨w.heap.size + 2, 1, none⟩ = some (.int .i64 s2b) := (below_cell hb _ _ l213).trans f200
        have f228 : wq2000.cell? ⟨w.heap.size + 2, 2, none⟩ = some (.int .i64 s2c) := (below_cell hb _ _ l213).trans f201
        have f229 : wq2000.cell? ⟨w.heap.size + 2, 3, none⟩ = some (.int .i64 s2e) := (below_cell hb _ _ l213).trans f202
        have f230 : wq2000.cell? ⟨w.heap.size + 2, 4, none⟩ = some (.int .i64 s2f) := (below_cell hb _ _ l213).trans f203
        have f231 : wq2000.cell? ⟨w.heap.size + 2, 5, none⟩ = some (.int .i64 s2t) := (below_cell hb _ _ l213).trans f204
        have f232 : wq2000.cell? ⟨w.heap.size + 2, 6, none⟩ = some (.int .i64 s2q) := (below_cell hb _ _ l213).trans f205
        have f233 : wq2000.cell? ⟨w_4.heap.size, 0, none⟩ = some (.slice aX0a mz0.length cX0a) := (below_cell hb _ _ l214).trans f206
        have f234 : wq2000.cell? ⟨w_4.heap.size, 1, none⟩ = some (.slice aX0b mw0.length cX0b) := (below_cell hb _ _ l214).trans f207
        have f235 : wq2000.cell? ⟨w_4.heap.size, 2, none⟩ = some (.slice aX0c mb0.length cX0c) := (below_cell hb _ _ l214).trans f208
        have f236 : wq2000.cell? ⟨w_5.heap.size, 0, none⟩ = some (.string s1) := (below_cell hb _ _ l215).trans f209
        have f237 : wq2000.cell? ⟨w_5.heap.size, 1, none⟩ = some (.slice aX1 len1 cX1) := (below_cell hb _ _ l215).trans f210
        have l238 : w.heap.size < wq2000.heap.size := Nat.lt_of_lt_of_le l211 (hb).size
        have l239 : w.heap.size + 1 < wq2000.heap.size := Nat.lt_of_lt_of_le l212 (hb).size
        have l240 : w.heap.size + 2 < wq2000.heap.size := Nat.lt_of_lt_of_le l213 (hb).size
        have l241 : w_4.heap.size < wq2000.heap.size := Nat.lt_of_lt_of_le l214 (hb).size
        have l242 : w_5.heap.size < wq2000.heap.size := Nat.lt_of_lt_of_le l215 (hb).size
        clear f194 f195 f196 f197 f198 f199 f200 f201 f202 f203 f204 f205 f206 f207 f208 f209 f210 l211 l212 l213 l214 l215
        have HB243 := Lib.hid (below_of HB216.out hb HB216.out.size)
        have HR244 := Lib.hid (modOwn_kept hb HR217.out)
        clear HR217
        have HR245 := Lib.hid (rv_kept hb HR218.out)
        clear HR218
        have HR246 := Lib.hid (cv_kept hb HR219.out)
        clear HR219
        clear hb hbd hbr0 hbrf hbq0 hbf ho7 HIv HXr HSK
        go_wp2
        have hbd : Below wq2000.heap.size wq2000 wq2000.drew := ⟨rfl, rfl, rfl, Nat.le_refl _, fun _ _ => rfl⟩
        have HIv := Lib.hid (rings_kept HB243.out HZ1.out)
        have HXr := Lib.hid (rv_rings HZL1.out HR245.out)
        have HSK := Lib.hid (fun W (hW : Below wq2000.heap.size wq2000 W) => show W.cell? ⟨w.heap.size + 1, 0, none⟩ = some (.string s1) ∧ W.cell? ⟨w.heap.size + 1, 1, none⟩ = some (v1) ∧ W.cell? ⟨w_5.heap.size, 0, none⟩ = some (.string s1) ∧ W.cell? ⟨w_5.heap.size, 1, none⟩ = some (.slice aX1 len1 cX1) ∧ Below wq2000.heap.size wq2000 W from ⟨(below_cell hW _ _ l239).trans f224, (below_cell hW _ _ l239).trans f225, (below_cell hW _ _ l242).trans f236, (below_cell hW _ _ l242).trans f237, hW⟩)
        go_region_held3 (fun W => W.cell? ⟨w.heap.size + 1, 0, none⟩ = some (.string s1) ∧ W.cell? ⟨w.heap.size + 1, 1, none⟩ = some (v1) ∧ W.cell? ⟨w_5.heap.size, 0, none⟩ = some (.string s1) ∧ W.cell? ⟨w_5.heap.size, 1, none⟩ = some (.slice aX1 len1 cX1) ∧ Below wq2000.heap.size wq2000 W)
          (first | exact HSK.out _ hbd | exact HSK.out _ hbr0 | exact HSK.out _ hbrf | assumption)
          (first
            | (go_at_call 10; refine (toProf_any s1 v1 zs1 _ (rings_kept hbd HIv.out)).mono ?_; rintro e wq1001 ⟨v7, rfl, ho7, hbq0⟩; have hbr0 := below_of hbd hbq0 hbd.size)
            | (go_at_call 15; refine (eqProf_any s1 _ v7 zs1 _ (rings_kept hbr0 HXr.out) (ownRAt_rings HZL1.out ho7)).mono ?_; rintro e wq2001 ⟨rfl, hbf⟩; have hbrf := below_of hbr0 hbf hbr0.size))
        have hb := hbrf
        have S247 : wq2000.heap.size ≤ wq2001.heap.size := (hb).size
        have f248 : wq2001.cell? ⟨w.heap.size, 0, none⟩ = some (x0a) := (below_cell hb _ _ l238).trans f221
        have f249 : wq2001.cell? ⟨w.heap.size, 1, none⟩ = some (x0b) := (below_cell hb _ _ l238).trans f222
        have f250 : wq2001.cell? ⟨w.heap.size, 2, none⟩ = some (x0c) := (below_cell hb _ _ l238).trans f223
        have f251 : wq2001.cell? ⟨w.heap.size + 1, 0, none⟩ = some (.string s1) := (below_cell hb _ _ l239).trans f224
        have f252 : wq2001.cell? ⟨w.heap.size + 1, 1, none⟩ = some (v1) := (below_cell hb _ _ l239).trans f225
        have f253 : wq2001.cell? ⟨w.heap.size + 2, 0, none⟩ = some (.int .i64 s2a) := (below_cell hb _ _ l240).trans f226
        have f254 : wq2001.cell? ⟨w.heap.size + 2, 1, none⟩ = some (.int .i64 s2b) := (below_cell hb _ _ l240).trans f227
        have f255 : wq2001.cell? ⟨w.heap.size + 2, 2, none⟩ = some (.int .i64 s2c) := (below_cell hb _ _ l240).trans f228
        have f256 : wq2001.cell? ⟨w.heap.size + 2, 3, none⟩ = some (.int .i64 s2e) := (below_cell hb _ _ l240).trans f229
        have f257 : wq2001.cell? ⟨w.heap.size + 2, 4, none⟩ = some (.int .i64 s2f) := (below_cell hb _ _ l240).trans f230
        have f258 : wq2001.cell? ⟨w.heap.size + 2, 5, none⟩ = some (.int .i64 s2t) := (below_cell hb _ _ l240).trans f231
        have f259 : wq2001.cell? ⟨w.heap.size + 2, 6, none⟩ = some (.int .i64 s2q) := (below_cell hb _ _ l240).trans f232
        have f260 : wq2001.cell? ⟨w_4.heap.size, 0, none⟩ = some (.slice aX0a mz0.length cX0a) := (below_cell hb _ _ l241).trans f233
        have f261 : wq2001.cell? ⟨w_4.heap.size, 1, none⟩ = some (.slice aX0b mw0.length cX0b) := (below_cell hb _ _ l241).trans f234
        have f262 : wq2001.cell? ⟨w_4.heap.size, 2, none⟩ = some (.slice aX0c mb0.length cX0c) := (below_cell hb _ _ l241).trans f235
        have f263 : wq2001.cell? ⟨w_5.heap.size, 0, none⟩ = some (.string s1) := (below_cell hb _ _ l242).trans f236
        have f264 : wq2001.cell? ⟨w_5.heap.size, 1, none⟩ = some (.slice aX1 len1 cX1) := (below_cell hb _ _ l242).trans f237
        have l265 : w.heap.size < wq2001.heap.size := Nat.lt_of_lt_of_le l238 (hb).size
        have l266 : w.heap.size + 1 < wq2001.heap.size := Nat.lt_of_lt_of_le l239 (hb).size
        have l267 : w.heap.size + 2 < wq2001.heap.size := Nat.lt_of_lt_of_le l240 (hb).size
        have l268 : w_4.heap.size < wq2001.heap.size := Nat.lt_of_lt_of_le l241 (hb).size
        have l269 : w_5.heap.size < wq2001.heap.size := Nat.lt_of_lt_of_le l242 (hb).size
        clear f221 f222 f223 f224 f225 f226 f227 f228 f229 f230 f231 f232 f233 f234 f235 f236 f237 l238 l239 l240 l241 l242
        have HB270 := Lib.hid (below_of HB243.out hb HB243.out.size)
        have HR271 := Lib.hid (modOwn_kept hb HR244.out)
        clear HR244
        have HR272 := Lib.hid (rv_kept hb HR245.out)
        clear HR245
        have HR273 := Lib.hid (cv_kept hb HR246.out)
        clear HR246
        clear hb hbd hbr0 hbrf hbq0 hbf ho7 HIv HXr HSK
        go_wp2_with fail
        refine (toCuts_any z3 _ _ (cuts_kept HB270.out HY3.out)).mono ?_
        rintro e w_7 ⟨vt, rfl, ho, hb⟩
        have HT := Lib.hid (own_cuts HYL3.out ho)
        have S274 : wq2001.heap.size ≤ w_7.heap.size := (hb).size
        have f275 : w_7.cell? ⟨w.heap.size, 0, none⟩ = some (x0a) := (below_cell hb _ _ l265).trans f248
        have f276 : w_7.cell? ⟨w.heap.size, 1, none⟩ = some (x0b) := (below_cell hb _ _ l265).trans f249
        have f277 : w_7.cell? ⟨w.heap.size, 2, none⟩ = some (x0c) := (below_cell hb _ _ l265).trans f250
        have f278 : w_7.cell? ⟨w.heap.size + 1, 0, none⟩ = some (.string s1) := (below_cell hb _ _ l266).trans f251
        have f279 : w_7.cell? ⟨w.heap.size + 1, 1, none⟩ = some (v1) := (below_cell hb _ _ l266).trans f252
        have f280 : w_7.cell? ⟨w.heap.size + 2, 0, none⟩ = some (.int .i64 s2a) := (below_cell hb _ _ l267).trans f253
        have f281 : w_7.cell? ⟨w.heap.size + 2, 1, none⟩ = some (.int .i64 s2b) := (below_cell hb _ _ l267).trans f254
        have f282 : w_7.cell? ⟨w.heap.size + 2, 2, none⟩ = some (.int .i64 s2c) := (below_cell hb _ _ l267).trans f255
        have f283 : w_7.cell? ⟨w.heap.size + 2, 3, none⟩ = some (.int .i64 s2e) := (below_cell hb _ _ l267).trans f256
        have f284 : w_7.cell? ⟨w.heap.size + 2, 4, none⟩ = some (.int .i64 s2f) := (below_cell hb _ _ l267).trans f257
        have f285 : w_7.cell? ⟨w.heap.size + 2, 5, none⟩ = some (.int .i64 s2t) := (below_cell hb _ _ l267).trans f258
        have f286 : w_7.cell? ⟨w.heap.size + 2, 6, none⟩ = some (.int .i64 s2q) := (below_cell hb _ _ l267).trans f259
        have f287 : w_7.cell? ⟨w_4.heap.size, 0, none⟩ = some (.slice aX0a mz0.length cX0a) := (below_cell hb _ _ l268).trans f260
        have f288 : w_7.cell? ⟨w_4.heap.size, 1, none⟩ = some (.slice aX0b mw0.length cX0b) := (below_cell hb _ _ l268).trans f261
        have f289 : w_7.cell? ⟨w_4.heap.size, 2, none⟩ = some (.slice aX0c mb0.length cX0c) := (below_cell hb _ _ l268).trans f262
        have f290 : w_7.cell? ⟨w_5.heap.size, 0, none⟩ = some (.string s1) := (below_cell hb _ _ l269).trans f263
        have f291 : w_7.cell? ⟨w_5.heap.size, 1, none⟩ = some (.slice aX1 len1 cX1) := (below_cell hb _ _ l269).trans f264
        have l292 : w.heap.size < w_7.heap.size := Nat.lt_of_lt_of_le l265 (hb).size
        have l293 : w.heap.size + 1 < w_7.heap.size := Nat.lt_of_lt_of_le l266 (hb).size
        have l294 : w.heap.size + 2 < w_7.heap.size := Nat.lt_of_lt_of_le l267 (hb).size
        have l295 : w_4.heap.size < w_7.heap.size := Nat.lt_of_lt_of_le l268 (hb).size
        have l296 : w_5.heap.size < w_7.heap.size := Nat.lt_of_lt_of_le l269 (hb).size
        clear f248 f249 f250 f251 f252 f253 f254 f255 f256 f257 f258 f259 f260 f261 f262 f263 f264 l265 l266 l267 l268 l269
        have HB297 := Lib.hid (below_of HB270.out hb HB270.out.size)
        have HR298 := Lib.hid (modOwn_kept hb HR271.out)
        clear HR271
        have HR299 := Lib.hid (rv_kept hb HR272.out)
        clear HR272
        have HR300 := Lib.hid (cv_kept hb HR273.out)
        clear HR273
        clear hb ho
        go_wp2_with fail
        refine (eqCuts_at z3 _ _ _ (cv_at HYL3.out HR300.out) HT.out).mono ?_
        rintro e w_8 ⟨rfl, hb⟩
        have S301 : w_7.heap.size ≤ w_8.heap.size := (hb).size
        have f302 : w_8.cell? ⟨w.heap.size, 0, none⟩ = some (x0a) := (below_cell hb _ _ l292).trans f275
        have f303 : w_8.cell? ⟨w.heap.size, 1, none⟩ = some (x0b) := (below_cell hb _ _ l292).trans f276
        have f304 : w_8.cell? ⟨w.heap.size, 2, none⟩ = some (x0c) := (below_cell hb _ _ l292).trans f277
        have f305 : w_8.cell? ⟨w.heap.size + 1, 0, none⟩ = some (.string s1) := (below_cell hb _ _ l293).trans f278
        have f306 : w_8.cell? ⟨w.heap.size + 1, 1, none⟩ = some (v1) := (below_cell hb _ _ l293).trans f279
        have f307 : w_8.cell? ⟨w.heap.size + 2, 0, none⟩ = some (.int .i64 s2a) := (below_cell hb _ _ l294).trans f280
        have f308 : w_8.cell? ⟨w.heap.size + 2, 1, none⟩ = some (.int .i64 s2b) := (below_cell hb _ _ l294).trans f281
        have f309 : w_8.cell? ⟨w.heap.size + 2, 2, none⟩ = some (.int .i64 s2c) := (below_cell hb _ _ l294).trans f282
        have f310 : w_8.cell? ⟨w.heap.size + 2, 3, none⟩ = some (.int .i64 s2e) := (below_cell hb _ _ l294).trans f283
        have f311 : w_8.cell? ⟨w.heap.size + 2, 4, none⟩ = some (.int .i64 s2f) := (below_cell hb _ _ l294).trans f284
        have f312 : w_8.cell? ⟨w.heap.size + 2, 5, none⟩ = some (.int .i64 s2t) := (below_cell hb _ _ l294).trans f285
        have f313 : w_8.cell? ⟨w.heap.size + 2, 6, none⟩ = some (.int .i64 s2q) := (below_cell hb _ _ l294).trans f286
        have f314 : w_8.cell? ⟨w_4.heap.size, 0, none⟩ = some (.slice aX0a mz0.length cX0a) := (below_cell hb _ _ l295).trans f287
        have f315 : w_8.cell? ⟨w_4.heap.size, 1, none⟩ = some (.slice aX0b mw0.length cX0b) := (below_cell hb _ _ l295).trans f288
        have f316 : w_8.cell? ⟨w_4.heap.size, 2, none⟩ = some (.slice aX0c mb0.length cX0c) := (below_cell hb _ _ l295).trans f289
        have f317 : w_8.cell? ⟨w_5.heap.size, 0, none⟩ = some (.string s1) := (below_cell hb _ _ l296).trans f290
        have f318 : w_8.cell? ⟨w_5.heap.size, 1, none⟩ = some (.slice aX1 len1 cX1) := (below_cell hb _ _ l296).trans f291
        have l319 : w.heap.size < w_8.heap.size := Nat.lt_of_lt_of_le l292 (hb).size
        have l320 : w.heap.size + 1 < w_8.heap.size := Nat.lt_of_lt_of_le l293 (hb).size
        have l321 : w.heap.size + 2 < w_8.heap.size := Nat.lt_of_lt_of_le l294 (hb).size
        have l322 : w_4.heap.size < w_8.heap.size := Nat.lt_of_lt_of_le l295 (hb).size
        have l323 : w_5.heap.size < w_8.heap.size := Nat.lt_of_lt_of_le l296 (hb).size
        clear f275 f276 f277 f278 f279 f280 f281 f282 f283 f284 f285 f286 f287 f288 f289 f290 f291 l292 l293 l294 l295 l296
        have HB324 := Lib.hid (below_of HB297.out hb HB297.out.size)
        have HR325 := Lib.hid (modOwn_kept hb HR298.out)
        clear HR298
        have HR326 := Lib.hid (rv_kept hb HR299.out)
        clear HR299
        have HR327 := Lib.hid (cv_kept hb HR300.out)
        clear HR300
        clear hb HT
        go_wp2
        go_ret
        exact ⟨rfl, HB324.out⟩
      · have HL2 := Lib.hid (show (if (1048576 - (T2 : Int)) - (len3 : Int) < 0 then (-1 : Int) else (1048576 - (T2 : Int)) - (len3 : Int)) = -1 by rw [if_pos (by omega)])
        clear hI3
        go_enter Tryz.func3, Tryz.ntmps3
        have f328 : (((w.alloc (.cells #[x0a, x0b, x0c] 25)).alloc (.cells #[.string s1, v1] 28)).alloc (.cells #[.int .i64 s2a, .int .i64 s2b, .int .i64 s2c, .int .i64 s2e, .int .i64 s2f, .int .i64 s2t, .int .i64 s2q] 32)).cell? ⟨w.heap.size + 1, 0, none⟩ = some (.string s1) := by go_simp
        have f329 : (((w.alloc (.cells #[x0a, x0b, x0c] 25)).alloc (.cells #[.string s1, v1] 28)).alloc (.cells #[.int .i64 s2a, .int .i64 s2b, .int .i64 s2c, .int .i64 s2e, .int .i64 s2f, .int .i64 s2t, .int .i64 s2q] 32)).cell? ⟨w.heap.size + 1, 1, none⟩ = some (v1) := by go_simp
        have l330 : w.heap.size + 1 < (((w.alloc (.cells #[x0a, x0b, x0c] 25)).alloc (.cells #[.string s1, v1] 28)).alloc (.cells #[.int .i64 s2a, .int .i64 s2b, .int .i64 s2c, .int .i64 s2e, .int .i64 s2f, .int .i64 s2t, .int .i64 s2q] 32)).heap.size := by simp <;> omega
        have HB331 := Lib.hid ((((below_al w (.cells #[x0a, x0b, x0c] 25)).alloc (by simp <;> omega) (.cells #[.string s1, v1] 28)).alloc (by simp <;> omega) (.cells #[.int .i64 s2a, .int .i64 s2b, .int .i64 s2c, .int .i64 s2e, .int .i64 s2f, .int .i64 s2t, .int .i64 s2q] 32)))
        go_wp2_with fail
        generalize (((w.alloc (.cells #[x0a, x0b, x0c] 25)).alloc (.cells #[.string s1, v1] 28)).alloc (.cells #[.int .i64 s2a, .int .i64 s2b, .int .i64 s2c, .int .i64 s2e, .int .i64 s2f, .int .i64 s2t, .int .i64 s2q] 32)) = wb at *
        refine (szModX_any x0a x0b x0c N0 (1048576) _ (szM_kept HB331.out HSZ0.out) (by omega) (by omega)).mono ?_
        rintro e w_9 ⟨rfl, hb⟩
        rw [HL0.out]
        have S332 : wb.heap.size ≤ w_9.heap.size := (hb).size
        have f333 : w_9.cell? ⟨w.heap.size + 1, 0, none⟩ = some (.string s1) := (below_cell hb _ _ l330).trans f328
        have f334 : w_9.cell? ⟨w.heap.size + 1, 1, none⟩ = some (v1) := (below_cell hb _ _ l330).trans f329
        have l335 : w.heap.size + 1 < w_9.heap.size := Nat.lt_of_lt_of_le l330 (hb).size
        clear f328 f329 l330
        have HB336 := Lib.hid (below_of HB331.out hb HB331.out.size)
        clear hb 
        go_wp2_with fail
        refine (szProf_v s1 v1 len1 (1048576 - (T1 : Int)) _ HV1 hs1 hlen1 (by omega) (by omega)).mono ?_
        rintro e w_10 ⟨rfl, hb⟩
        rw [HL1.out]
        have S337 : w_9.heap.size ≤ w_10.heap.size := (hb).size
        have f338 : w_10.cell? ⟨w.heap.size + 1, 0, none⟩ = some (.string s1) := (below_cell hb _ _ l335).trans f333
        have f339 : w_10.cell? ⟨w.heap.size + 1, 1, none⟩ = some (v1) := (below_cell hb _ _ l335).trans f334
        have l340 : w.heap.size + 1 < w_10.heap.size := Nat.lt_of_lt_of_le l335 (hb).size
        clear f333 f334 l335
        have HB341 := Lib.hid (below_of HB336.out hb HB336.out.size)
        clear hb 
        go_wp2_with fail
        refine (szCuts_any _ len3 _ (1048576 - (T2 : Int)) _ hlen3 (by omega) (by omega)).mono ?_
        rintro e w_10 ⟨rfl, rfl⟩
        rw [HL2.out]
        go_wp2
        go_ret
        exact ⟨rfl, HB341.out⟩
    · have HL1 := Lib.hid (show leftP s1.size len1 (1048576 - (T1 : Int)) = -1 by exact leftP_no (by omega))
      clear hI1 hI3
      go_enter Tryz.func3, Tryz.ntmps3
      have f342 : (((w.alloc (.cells #[x0a, x0b, x0c] 25)).alloc (.cells #[.string s1, v1] 28)).alloc (.cells #[.int .i64 s2a, .int .i64 s2b, .int .i64 s2c, .int .i64 s2e, .int .i64 s2f, .int .i64 s2t, .int .i64 s2q] 32)).cell? ⟨w.heap.size + 1, 0, none⟩ = some (.string s1) := by go_simp
      have f343 : (((w.alloc (.cells #[x0a, x0b, x0c] 25)).alloc (.cells #[.string s1, v1] 28)).alloc (.cells #[.int .i64 s2a, .int .i64 s2b, .int .i64 s2c, .int .i64 s2e, .int .i64 s2f, .int .i64 s2t, .int .i64 s2q] 32)).cell? ⟨w.heap.size + 1, 1, none⟩ = some (v1) := by go_simp
      have l344 : w.heap.size + 1 < (((w.alloc (.cells #[x0a, x0b, x0c] 25)).alloc (.cells #[.string s1, v1] 28)).alloc (.cells #[.int .i64 s2a, .int .i64 s2b, .int .i64 s2c, .int .i64 s2e, .int .i64 s2f, .int .i64 s2t, .int .i64 s2q] 32)).heap.size := by simp <;> omega
      have HB345 := Lib.hid ((((below_al w (.cells #[x0a, x0b, x0c] 25)).alloc (by simp <;> omega) (.cells #[.string s1, v1] 28)).alloc (by simp <;> omega) (.cells #[.int .i64 s2a, .int .i64 s2b, .int .i64 s2c, .int .i64 s2e, .int .i64 s2f, .int .i64 s2t, .int .i64 s2q] 32)))
      go_wp2_with fail
      generalize (((w.alloc (.cells #[x0a, x0b, x0c] 25)).alloc (.cells #[.string s1, v1] 28)).alloc (.cells #[.int .i64 s2a, .int .i64 s2b, .int .i64 s2c, .int .i64 s2e, .int .i64 s2f, .int .i64 s2t, .int .i64 s2q] 32)) = wb at *
      refine (szModX_any x0a x0b x0c N0 (1048576) _ (szM_kept HB345.out HSZ0.out) (by omega) (by omega)).mono ?_
      rintro e w_12 ⟨rfl, hb⟩
      rw [HL0.out]
      have S346 : wb.heap.size ≤ w_12.heap.size := (hb).size
      have f347 : w_12.cell? ⟨w.heap.size + 1, 0, none⟩ = some (.string s1) := (below_cell hb _ _ l344).trans f342
      have f348 : w_12.cell? ⟨w.heap.size + 1, 1, none⟩ = some (v1) := (below_cell hb _ _ l344).trans f343
      have l349 : w.heap.size + 1 < w_12.heap.size := Nat.lt_of_lt_of_le l344 (hb).size
      clear f342 f343 l344
      have HB350 := Lib.hid (below_of HB345.out hb HB345.out.size)
      clear hb 
      go_wp2_with fail
      refine (szProf_v s1 v1 len1 (1048576 - (T1 : Int)) _ HV1 hs1 hlen1 (by omega) (by omega)).mono ?_
      rintro e w_13 ⟨rfl, hb⟩
      rw [HL1.out]
      have S351 : w_12.heap.size ≤ w_13.heap.size := (hb).size
      have f352 : w_13.cell? ⟨w.heap.size + 1, 0, none⟩ = some (.string s1) := (below_cell hb _ _ l349).trans f347
      have f353 : w_13.cell? ⟨w.heap.size + 1, 1, none⟩ = some (v1) := (below_cell hb _ _ l349).trans f348
      have l354 : w.heap.size + 1 < w_13.heap.size := Nat.lt_of_lt_of_le l349 (hb).size
      clear f347 f348 l349
      have HB355 := Lib.hid (below_of HB350.out hb HB350.out.size)
      clear hb 
      go_wp2
      go_ret
      exact ⟨rfl, HB355.out⟩
  · have HL0 := Lib.hid (show leftN N0 (1048576) = -1 by exact leftN_no (by omega))
    clear hmk0 hI1 hI3
    go_enter Tryz.func3, Tryz.ntmps3
    have HB356 := Lib.hid ((((below_al w (.cells #[x0a, x0b, x0c] 25)).alloc (by simp <;> omega) (.cells #[.string s1, v1] 28)).alloc (by simp <;> omega) (.cells #[.int .i64 s2a, .int .i64 s2b, .int .i64 s2c, .int .i64 s2e, .int .i64 s2f, .int .i64 s2t, .int .i64 s2q] 32)))
    go_wp2_with fail
    generalize (((w.alloc (.cells #[x0a, x0b, x0c] 25)).alloc (.cells #[.string s1, v1] 28)).alloc (.cells #[.int .i64 s2a, .int .i64 s2b, .int .i64 s2c, .int .i64 s2e, .int .i64 s2f, .int .i64 s2t, .int .i64 s2q] 32)) = wb at *
    refine (szModX_any x0a x0b x0c N0 (1048576) _ (szM_kept HB356.out HSZ0.out) (by omega) (by omega)).mono ?_
    rintro e w_14 ⟨rfl, hb⟩
    rw [HL0.out]
    have S357 : wb.heap.size ≤ w_14.heap.size := (hb).size
    have HB358 := Lib.hid (below_of HB356.out hb HB356.out.size)
    clear hb 
    go_wp2
    go_ret
    exact ⟨rfl, HB358.out⟩

set_option maxRecDepth 100000 in
theorem contract (H : Type) (enc : TypeId × Value → H) (W : World) (base : Nat) (args : Array Value) (ds gs : List (DataW H)) (before : List MemPlace)
    (hval : ∀ (j : Nat) t v, Tryz.f3.params[j]? = some t → args[j]? = some v → Value.okWide Tryz.prog W .any base t v)
    (hW : DataW.Whole enc Tryz.prog Tryz.f3.params.toList Rows.fnExactIsPlanSpec.vars false W args.toList ds gs before) :
    Calls Tryz.prog 3 args W fun e W' => ∃ v, e = .returned v ∧ Rows.fnExactIsPlanSpec.post enc Tryz.prog Tryz.f3 false true false false W args v W' := by
  have hW' := hW
  obtain ⟨p, q, hA0, hV, rfl, hfz, hnd⟩ := hW
  have hA : DataW.TrodAll enc Tryz.prog W 0 (fun _ => true) true Tryz.f3.params.toList args.toList ds p := hA0
  rw [Tryz.params3] at hA hval
  obtain ⟨v0, vs0, d0, ds0, p0, q0, hargs, rfl, rfl, h0, r0⟩ := trodAll_cons hA
  obtain ⟨v1, vs1, d1, ds1, p1, q1, hargs1, rfl, rfl, h1, r1⟩ := trodAll_cons r0
  subst hargs1
  obtain ⟨v2, vs2, d2, ds2, p2, q2, hargs2, rfl, rfl, h2, r2⟩ := trodAll_cons r1
  subst hargs2
  obtain ⟨v3, vs3, d3, ds3, p3, q3, hargs3, rfl, rfl, h3, r3⟩ := trodAll_cons r2
  subst hargs3
  obtain ⟨rfl, rfl, rfl⟩ := trodAll_nil r3
  obtain rfl : args = #[v0, v1, v2, v3] := by cases args; simp_all
  obtain ⟨rfl, rfl⟩ := trodVars_none hV
  simp only [List.append_nil] at hW'
  have hlt0 : ∀ x ∈ p0, x.block < W.heap.size := fun x hx => hW'.lt x (by simp [hx])
  have kept0 := fun (W2 : World) (hb : Below W.heap.size W W2) => Below.trod laidOut (by kernel_rfl) (of_decide_eq_true (by kernel_rfl)) h0 hb hlt0
  have hI0 := modelx_arg (hval 0 25 v0 rfl rfl) h0 hlt0
  have hlt1 : ∀ x ∈ p1, x.block < W.heap.size := fun x hx => hW'.lt x (by simp [hx])
  have kept1 := fun (W2 : World) (hb : Below W.heap.size W W2) => Below.trod laidOut (by kernel_rfl) (of_decide_eq_true (by kernel_rfl)) h1 hb hlt1
  obtain ⟨s1, a1, len1, cap1, rfl, w1, hI1⟩ := prof_arg (hval 1 28 v1 rfl rfl) h1 hlt1
  have hlt2 : ∀ x ∈ p2, x.block < W.heap.size := fun x hx => hW'.lt x (by simp [hx])
  have kept2 := fun (W2 : World) (hb : Below W.heap.size W W2) => Below.trod laidOut (by kernel_rfl) (of_decide_eq_true (by kernel_rfl)) h2 hb hlt2
  obtain ⟨s2a, s2b, s2c, s2e, s2f, s2t, s2q, rfl, w2⟩ := goal_arg (hval 2 32 v2 rfl rfl) h2
  have hlt3 : ∀ x ∈ p3, x.block < W.heap.size := fun x hx => hW'.lt x (by simp [hx])
  have kept3 := fun (W2 : World) (hb : Below W.heap.size W W2) => Below.trod laidOut (by kernel_rfl) (of_decide_eq_true (by kernel_rfl)) h3 hb hlt3
  obtain ⟨a3, len3, cap3, rfl⟩ := okWide_slice Tryz.underlying33 (hval 3 33 v3 rfl rfl)
  obtain ⟨fuel3, hf3⟩ := h3
  obtain ⟨w3, hI3⟩ := cuts_arg hf3 hlt3
  clear hA0
  refine (walk v0 s1 a1 len1 cap1 s2a s2b s2c s2e s2f s2t s2q a3 len3 cap3 w1 w2 w3 W hI0 hI1 hI3).mono fun e W' ⟨he, hg⟩ => ?_
  subst he
  refine ⟨_, rfl, post_at (pa := p0 ++ (p1 ++ (p2 ++ p3))) (pv := []) hW' (by simp) hg (fun _ _ => (trodAll_cons_mk (shut_bool Tryz.underlying4 _) trodAll_mk0)) ?_ rfl⟩
  have hk := (trodAll_cons_mk (kept0 W' hg) (trodAll_cons_mk (kept1 W' hg) (trodAll_cons_mk (kept2 W' hg) (trodAll_cons_mk (kept3 W' hg) trodAll_mk0))))
  simp only [List.append_nil] at hk
  exact hk

set_option maxRecDepth 100000 in
theorem lifted (os : Os) (started : os.Started) (H : Type) (enc : TypeId × Value → H) :
    ReturnsInHanded {} Tryz.checked os 3 .any (Rows.fnExactIsPlanSpec.pre6 enc Tryz.prog Tryz.f3 Rows.fnExactIsPlanRow.domain false) (Rows.fnExactIsPlanSpec.post enc Tryz.prog Tryz.f3 false true false false) := by
  refine returnsInHanded_of_change (C := Tryz.checked) own started (by kernel_rfl) Tryz.func3
    (ChangeSpec.witness6 (enc := enc) (C := Tryz.checked) false ⟨#[], #[.agg #[.slice none 0 0, .slice none 0 0, .slice none 0 0], .agg #[.string ⟨#[]⟩, .slice none 0 0], .agg #[.int .i64 0, .int .i64 0, .int .i64 0, .int .i64 0, .int .i64 0, .int .i64 0, .int .i64 0], .slice none 0 0], []⟩ 8 (by kernel_rfl) (by kernel_rfl) (by kernel_rfl) (by kernel_rfl)) ?_
  intro W base args ds gs before hval0 hW hcnd _
  have hval : ∀ (j : Nat) t v, Tryz.f3.params[j]? = some t → args[j]? = some v → Value.okWide Tryz.prog W .any base t v := hval0
  exact contract H enc W base args ds gs before hval hW

theorem over : Rows.fnExactIsPlanRow.holds Tryz.pinned (OpenSpec.ofChange Rows.fnExactIsPlanSpec) :=
  OpenClaim.holds_of_wide 3 Tryz.f3 rfl rfl rfl rfl rfl rfl rfl ⟨rfl, rfl, rfl, rfl, rfl⟩ rfl rfl rfl rfl rfl (by kernel_rfl) Tryz.func3 (by kernel_rfl)
    (of_decide_eq_true (by kernel_rfl)) (by unfold Func.isWrapper; first | (rw [if_pos (by decide +kernel)]; kernel_rfl) | (rw [if_neg (by decide +kernel)]; exact ⟨rfl, rfl⟩))
    (fun os started H enc _ => lifted os started H enc)
end Go.Proofs.YtpjopfhkgegahaaGreat.fnExactIsPlan

namespace Go.Proofs.YtpjopfhkgegahaaGreat
/-- The given statement. -/
theorem fnExactIsPlan_holds : Rows.FnExactIsPlanSaid := fnExactIsPlan.over
#print axioms fnExactIsPlan_holds
end Go.Proofs.YtpjopfhkgegahaaGreat
