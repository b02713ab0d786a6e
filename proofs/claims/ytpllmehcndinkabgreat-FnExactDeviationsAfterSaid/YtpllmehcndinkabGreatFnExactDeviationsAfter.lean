/- The program's DeviationsAfter answers as the reference model's, for every model, profile, goal and list of cuts; it changes none of them, and its answer is memory of its own. -/
import Derived.Test.YtpllmehcndinkabGreatRows
import Derived.Test.YtpllmehcndinkabGreatG1
import Derived.Test.YtpllmehcndinkabGreatModX
import Derived.Test.YtpllmehcndinkabGreatG4
import Derived.Test.YtpllmehcndinkabGreatG2
import Derived.Test.YtpllmehcndinkabGreatGoal
import Derived.Test.YtpllmehcndinkabGreatG3
import Derived.Test.YtpllmehcndinkabGreatRingRes
import Derived.Test.YtpllmehcndinkabGreatIntRes
import Derived.Deep.RegionHeld3
namespace Go.Proofs.YtpllmehcndinkabGreat.fnExactDeviationsAfter
open Go.ChangeShapes Go.WideShapes Go.ChangeAt Go.RowKit
open Go.ChangeMaps (open_string shut_string)
set_option linter.unusedVariables false

theorem own : ownKnob Tryz.prog.godebug = none := by kernel_rfl

set_option maxRecDepth 100000 in
set_option maxHeartbeats 8000000 in
theorem walk (v0 : Value) (s1 : ByteArray) (p1 : Option Addr) (len1 cap1 : Nat) (s2a s2b s2c s2e s2f s2t s2q : Int) (p3 : Option Addr) (len3 cap3 : Nat) (w1 : s1.size ≤ 9223372036854775807 ∧ len1 ≤ 9223372036854775807) (w2 : (Lit.int .i64 s2a).wf = true ∧ (Lit.int .i64 s2b).wf = true ∧ (Lit.int .i64 s2c).wf = true ∧ (Lit.int .i64 s2e).wf = true ∧ (Lit.int .i64 s2f).wf = true ∧ (Lit.int .i64 s2t).wf = true ∧ (Lit.int .i64 s2q).wf = true) (w3 : len3 ≤ 9223372036854775807) (w : World) (hI0 : ModArgX w v0) (hI1 : len1 ≤ 1048576 → ∃ zs : List Rg, zs.length = len1 ∧ RingsAt w (.slice p1 len1 cap1) zs) (hI3 : len3 ≤ 1048576 → ∃ zs : List Ct, zs.length = len3 ∧ CutsAt w (.slice p3 len3 cap3) zs) :
    Calls Tryz.prog 3 #[v0, .agg #[.string s1, .slice p1 len1 cap1], .agg #[.int .i64 s2a, .int .i64 s2b, .int .i64 s2c, .int .i64 s2e, .int .i64 s2f, .int .i64 s2t, .int .i64 s2q], .slice p3 len3 cap3] w fun e w' => e = .returned (.bool true) ∧ Below w.heap.size w w' := by
  obtain ⟨x0a, x0b, x0c, N0, rfl, hsz0, hmk0⟩ := hI0
  have HSZ0 := Lib.hid hsz0
  clear hsz0
  obtain ⟨hs1, hlen1⟩ := w1
  have hw2 := Lib.hid w2
  clear w2
  have hlen3 := w3
  clear w3
  have HV1 := Lib.hid (show ∃ a' c', Value.slice p1 len1 cap1 = .slice a' len1 c' from ⟨_, _, rfl⟩)
  generalize Value.slice p1 len1 cap1 = v1 at *
  by_cases hbig0 : (N0) ≤ 1048576
  · obtain ⟨T1, hT1⟩ : ∃ T, (N0) = T := ⟨_, rfl⟩
    have HL0 := Lib.hid (show leftN N0 (1048576) = 1048576 - (T1 : Int) by rw [leftN_yes (by omega)]; omega)
    have hTb1 : T1 ≤ 1048576 := by omega
    obtain ⟨mz0, mw0, mb0, hmn0, hma0⟩ := hmk0 (by omega)
    have HZ0 := Lib.hid hma0
    have hmt0 : mz0.length + lenS mw0 mw0.length + mb0.length ≤ 1048576 ∧ mw0.length ≤ 1048576 ∧ mz0.length ≤ 1048576 ∧ mb0.length ≤ 1048576 ∧ lenS mw0 mw0.length ≤ 1048576 := by omega
    have HML0 := Lib.hid hmt0
    clear hmn0 hma0 hmk0
    by_cases hbig1 : T1 + (s1.size + len1) ≤ 1048576
    · obtain ⟨T2, hT2⟩ : ∃ T, T1 + (s1.size + len1) = T := ⟨_, rfl⟩
      have HL1 := Lib.hid (show leftP s1.size len1 (1048576 - (T1 : Int)) = 1048576 - (T2 : Int) by rw [leftP_yes (by omega)]; omega)
      have hTb2 : T2 ≤ 1048576 := by omega
      obtain ⟨zs1, hz1, hzs1⟩ := hI1 (by omega)
      have HZ1 := Lib.hid hzs1
      have HNA1 := Lib.hid hz1
      have HZL1 := Lib.hid (show zs1.length ≤ 1048576 by omega)
      clear hzs1 hz1 hI1
      have hTl1 : len1 ≤ 1048576 := by omega
      by_cases hbig2 : T2 + (len3) ≤ 1048576
      · obtain ⟨T3, hT3⟩ : ∃ T, T2 + (len3) = T := ⟨_, rfl⟩
        have HL2 := Lib.hid (show (if (1048576 - (T2 : Int)) - (len3 : Int) < 0 then (-1 : Int) else (1048576 - (T2 : Int)) - (len3 : Int)) = 1048576 - (T3 : Int) by rw [if_neg (by omega)]; omega)
        have hTb3 : T3 ≤ 1048576 := by omega
        obtain ⟨z3, hzn3, hzi3⟩ := hI3 (by omega)
        have HZN3 := Lib.hid hzn3
        have HY3 := Lib.hid hzi3
        have HYL3 := Lib.hid (show z3.length ≤ 1048576 by omega)
        clear hzn3 hzi3 hI3
        have hTl3 : len3 ≤ 1048576 := by omega
        clear hT1 hbig0 hT2 hbig1 hT3 hbig2
        obtain ⟨L1, c1, hl1, hsp, him⟩ : ∃ (L1 : List Int) (c1 : Int), L1.length ≤ 64 ∧ (∀ y0a y0b y0c v1 u3 w, ModAt w y0a y0b y0c mz0 mw0 mb0 → RingsW w v1 zs1 → CutsAt w u3 z3 → Calls Tryz.prog 10 #[.agg #[y0a, y0b, y0c], .agg #[.string s1, v1], .agg #[.int .i64 s2a, .int .i64 s2b, .int .i64 s2c, .int .i64 s2e, .int .i64 s2f, .int .i64 s2t, .int .i64 s2q], u3] w (IntU L1 c1 w)) ∧ (∀ y0a y0b y0c v1 u3 w, ModAt w y0a y0b y0c mz0 mw0 mb0 → RingsW w v1 zs1 → CutsAt w u3 z3 → Calls Tryz.prog 15 #[.agg #[y0a, y0b, y0c], .agg #[.string s1, v1], .agg #[.int .i64 s2a, .int .i64 s2b, .int .i64 s2c, .int .i64 s2e, .int .i64 s2f, .int .i64 s2t, .int .i64 s2q], u3] w (IntU L1 c1 w)) :=
          ⟨dvL mz0 mw0 mb0 s1 zs1 z3 s2a s2b s2c s2e s2f s2t s2q, dvC mz0 mw0 mb0 s1 zs1 z3 s2a s2b s2c s2e s2f s2t s2q, (by unfold dvL; split <;> simp [devs_len]), fun y0 y1 y2 v u w h h1 h3 => specDA_any y0 y1 y2 v u mz0 mw0 mb0 s1 zs1 z3 s2a s2b s2c s2e s2f s2t s2q w h.1 h.2.1 h.2.2 h1.1 hs1 h3, fun y0 y1 y2 v u w h h1 h3 => implDA_any y0 y1 y2 v u mz0 mw0 mb0 s1 zs1 z3 s2a s2b s2c s2e s2f s2t s2q w h.1 h.2.1 h.2.2 h1 hs1 h3⟩
        have HSP := Lib.hid hsp
        have HIM := Lib.hid him
        clear hsp him
        obtain ⟨n1, hn1⟩ : ∃ n1, L1.length = n1 := ⟨_, rfl⟩
        have HN1 := Lib.hid hn1
        have HLL := Lib.hid (show L1.length ≤ 1048576 by omega)
        rw [hn1] at hl1
        have hll : n1 ≤ 1048576 := by omega
        clear hn1
        have hq3 : ((1 + (n1 : Int)) != (1 + (n1 : Int))) = false := by simp
        have hpos : ¬ (1 + (n1 : Int)) < 0 := by omega
        have hpos2 : ¬ (1 + (mz0.length : Int) + (lenS mw0 mw0.length : Nat) + (mb0.length : Int) + 3 * (len1 : Int) + 2 * (len3 : Int)) < 0 := by omega
        have hccc1 : (c1 != c1) = false := by simp
        go_enter Tryz.func3, Tryz.ntmps3
        have f1 : (((w.alloc (.cells #[x0a, x0b, x0c] 25)).alloc (.cells #[.string s1, v1] 28)).alloc (.cells #[.int .i64 s2a, .int .i64 s2b, .int .i64 s2c, .int .i64 s2e, .int .i64 s2f, .int .i64 s2t, .int .i64 s2q] 32)).cell? ⟨w.heap.size, 0, none⟩ = some (x0a) := by go_simp
        have f2 : (((w.alloc (.cells #[x0a, x0b, x0c] 25)).alloc (.cells #[.string s1, v1] 28)).alloc (.cells #[.int .i64 s2a, .int .i64 s2b, .int .i64 s2c, .int .i64 s2e, .int .i64 s2f, .int .i64 s2t, .int .i64 s2q] 32)).cell? ⟨w.heap.size, 1, none⟩ = some (x0b) := by go_simp
        have f3 : (((w.alloc (.cells #[x0a, x0b, x0c] 25)).alloc (.cells #[.string s1, v1] 28)).alloc (.cells #[.int .i64 s2a, .int .i64 s2b, .int .i64 s2c, .int .i64 s2e, .int .i64 s2f, .int .i64 s2t, .int .i64 s2q] 32)).cell? ⟨w.heap.size, 2, none⟩ = some (x0c) := by go_simp
        have l4 : w.heap.size < (((w.alloc (.cells #[x0a, x0b, x0c] 25)).alloc (.cells #[.string s1, v1] 28)).alloc (.cells #[.int .i64 s2a, .int .i64 s2b, .int .i64 s2c, .int .i64 s2e, .int .i64 s2f, .int .i64 s2t, .int .i64 s2q] 32)).heap.size := by simp <;> omega
        have f5 : (((w.alloc (.cells #[x0a, x0b, x0c] 25)).alloc (.cells #[.string s1, v1] 28)).alloc (.cells #[.int .i64 s2a, .int .i64 s2b, .int .i64 s2c, .int .i64 s2e, .int .i64 s2f, .int .i64 s2t, .int .i64 s2q] 32)).cell? ⟨w.heap.size + 1, 0, none⟩ = some (.string s1) := by go_simp
        have f6 : (((w.alloc (.cells #[x0a, x0b, x0c] 25)).alloc (.cells #[.string s1, v1] 28)).alloc (.cells #[.int .i64 s2a, .int .i64 s2b, .int .i64 s2c, .int .i64 s2e, .int .i64 s2f, .int .i64 s2t, .int .i64 s2q] 32)).cell? ⟨w.heap.size + 1, 1, none⟩ = some (v1) := by go_simp
        have l7 : w.heap.size + 1 < (((w.alloc (.cells #[x0a, x0b, x0c] 25)).alloc (.cells #[.string s1, v1] 28)).alloc (.cells #[.int .i64 s2a, .int .i64 s2b, .int .i64 s2c, .int .i64 s2e, .int .i64 s2f, .int .i64 s2t, .int .i64 s2q] 32)).heap.size := by simp <;> omega
        have f8 : (((w.alloc (.cells #[x0a, x0b, x0c] 25)).alloc (.cells #[.string s1, v1] 28)).alloc (.cells #[.int .i64 s2a, .int .i64 s2b, .int .i64 s2c, .int .i64 s2e, .int .i64 s2f, .int .i64 s2t, .int .i64 s2q] 32)).cell? ⟨w.heap.size + 2, 0, none⟩ = some (.int .i64 s2a) := by go_simp
        have f9 : (((w.alloc (.cells #[x0a, x0b, x0c] 25)).alloc (.cells #[.string s1, v1] 28)).alloc (.cells #[.int .i64 s2a, .int .i64 s2b, .int .i64 s2c, .int .i64 s2e, .int .i64 s2f, .int .i64 s2t, .int .i64 s2q] 32)).cell? ⟨w.heap.size + 2, 1, none⟩ = some (.int .i64 s2b) := by go_simp
        have f10 : (((w.alloc (.cells #[x0a, x0b, x0c] 25)).alloc (.cells #[.string s1, v1] 28)).alloc (.cells #[.int .i64 s2a, .int .i64 s2b, .int .i64 s2c, .int .i64 s2e, .int .i64 s2f, .int .i64 s2t, .int .i64 s2q] 32)).cell? ⟨w.heap.size + 2, 2, none⟩ = some (.int .i64 s2c) := by go_simp
        have f11 : (((w.alloc (.cells #[x0a, x0b, x0c] 25)).alloc (.cells #[.string s1, v1] 28)).alloc (.cells #[.int .i64 s2a, .int .i64 s2b, .int .i64 s2c, .int .i64 s2e, .int .i64 s2f, .int .i64 s2t, .int .i64 s2q] 32)).cell? ⟨w.heap.size + 2, 3, none⟩ = some (.int .i64 s2e) := by go_simp
        have f12 : (((w.alloc (.cells #[x0a, x0b, x0c] 25)).alloc (.cells #[.string s1, v1] 28)).alloc (.cells #[.int .i64 s2a, .int .i64 s2b, .int .i64 s2c, .int .i64 s2e, .int .i64 s2f, .int .i64 s2t, .int .i64 s2q] 32)).cell? ⟨w.heap.size + 2, 4, none⟩ = some (.int .i64 s2f) := by go_simp
        have f13 : (((w.alloc (.cells #[x0a, x0b, x0c] 25)).alloc (.cells #[.string s1, v1] 28)).alloc (.cells #[.int .i64 s2a, .int .i64 s2b, .int .i64 s2c, .int .i64 s2e, .int .i64 s2f, .int .i64 s2t, .int .i64 s2q] 32)).cell? ⟨w.heap.size + 2, 5, none⟩ = some (.int .i64 s2t) := by go_simp
        have f14 : (((w.alloc (.cells #[x0a, x0b, x0c] 25)).alloc (.cells #[.string s1, v1] 28)).alloc (.cells #[.int .i64 s2a, .int .i64 s2b, .int .i64 s2c, .int .i64 s2e, .int .i64 s2f, .int .i64 s2t, .int .i64 s2q] 32)).cell? ⟨w.heap.size + 2, 6, none⟩ = some (.int .i64 s2q) := by go_simp
        have l15 : w.heap.size + 2 < (((w.alloc (.cells #[x0a, x0b, x0c] 25)).alloc (.cells #[.string s1, v1] 28)).alloc (.cells #[.int .i64 s2a, .int .i64 s2b, .int .i64 s2c, .int .i64 s2e, .int .i64 s2f, .int .i64 s2t, .int .i64 s2q] 32)).heap.size := by simp <;> omega
        have S16 : w.heap.size + 3 ≤ (((w.alloc (.cells #[x0a, x0b, x0c] 25)).alloc (.cells #[.string s1, v1] 28)).alloc (.cells #[.int .i64 s2a, .int .i64 s2b, .int .i64 s2c, .int .i64 s2e, .int .i64 s2f, .int .i64 s2t, .int .i64 s2q] 32)).heap.size := by simp <;> omega
        have HB17 := Lib.hid ((((below_al w (.cells #[x0a, x0b, x0c] 25)).alloc (by simp <;> omega) (.cells #[.string s1, v1] 28)).alloc (by simp <;> omega) (.cells #[.int .i64 s2a, .int .i64 s2b, .int .i64 s2c, .int .i64 s2e, .int .i64 s2f, .int .i64 s2t, .int .i64 s2q] 32)))
        go_wp2_with fail
        generalize (((w.alloc (.cells #[x0a, x0b, x0c] 25)).alloc (.cells #[.string s1, v1] 28)).alloc (.cells #[.int .i64 s2a, .int .i64 s2b, .int .i64 s2c, .int .i64 s2e, .int .i64 s2f, .int .i64 s2t, .int .i64 s2q] 32)) = wb at *
        refine (szModX_any x0a x0b x0c N0 (1048576) _ (szM_kept HB17.out HSZ0.out) (by omega) (by omega)).mono ?_
        rintro e w_1 ⟨rfl, hb⟩
        rw [HL0.out]
        have S18 : wb.heap.size ≤ w_1.heap.size := (hb).size
        have f19 : w_1.cell? ⟨w.heap.size, 0, none⟩ = some (x0a) := (below_cell hb _ _ l4).trans f1
        have f20 : w_1.cell? ⟨w.heap.size, 1, none⟩ = some (x0b) := (below_cell hb _ _ l4).trans f2
        have f21 : w_1.cell? ⟨w.heap.size, 2, none⟩ = some (x0c) := (below_cell hb _ _ l4).trans f3
        have f22 : w_1.cell? ⟨w.heap.size + 1, 0, none⟩ = some (.string s1) := (below_cell hb _ _ l7).trans f5
        have f23 : w_1.cell? ⟨w.heap.size + 1, 1, none⟩ = some (v1) := (below_cell hb _ _ l7).trans f6
        have f24 : w_1.cell? ⟨w.heap.size + 2, 0, none⟩ = some (.int .i64 s2a) := (below_cell hb _ _ l15).trans f8
        have f25 : w_1.cell? ⟨w.heap.size + 2, 1, none⟩ = some (.int .i64 s2b) := (below_cell hb _ _ l15).trans f9
        have f26 : w_1.cell? ⟨w.heap.size + 2, 2, none⟩ = some (.int .i64 s2c) := (below_cell hb _ _ l15).trans f10
        have f27 : w_1.cell? ⟨w.heap.size + 2, 3, none⟩ = some (.int .i64 s2e) := (below_cell hb _ _ l15).trans f11
        have f28 : w_1.cell? ⟨w.heap.size + 2, 4, none⟩ = some (.int .i64 s2f) := (below_cell hb _ _ l15).trans f12
        have f29 : w_1.cell? ⟨w.heap.size + 2, 5, none⟩ = some (.int .i64 s2t) := (below_cell hb _ _ l15).trans f13
        have f30 : w_1.cell? ⟨w.heap.size + 2, 6, none⟩ = some (.int .i64 s2q) := (below_cell hb _ _ l15).trans f14
        have l31 : w.heap.size < w_1.heap.size := Nat.lt_of_lt_of_le l4 (hb).size
        have l32 : w.heap.size + 1 < w_1.heap.size := Nat.lt_of_lt_of_le l7 (hb).size
        have l33 : w.heap.size + 2 < w_1.heap.size := Nat.lt_of_lt_of_le l15 (hb).size
        clear f1 f2 f3 f5 f6 f8 f9 f10 f11 f12 f13 f14 l4 l7 l15
        have HB34 := Lib.hid (below_of HB17.out hb HB17.out.size)
        clear hb 
        go_wp2_with fail
        refine (szProf_v s1 v1 len1 (1048576 - (T1 : Int)) _ HV1 hs1 hlen1 (by omega) (by omega)).mono ?_
        rintro e w_2 ⟨rfl, hb⟩
        rw [HL1.out]
        have S35 : w_1.heap.size ≤ w_2.heap.size := (hb).size
        have f36 : w_2.cell? ⟨w.heap.size, 0, none⟩ = some (x0a) := (below_cell hb _ _ l31).trans f19
        have f37 : w_2.cell? ⟨w.heap.size, 1, none⟩ = some (x0b) := (below_cell hb _ _ l31).trans f20
        have f38 : w_2.cell? ⟨w.heap.size, 2, none⟩ = some (x0c) := (below_cell hb _ _ l31).trans f21
        have f39 : w_2.cell? ⟨w.heap.size + 1, 0, none⟩ = some (.string s1) := (below_cell hb _ _ l32).trans f22
        have f40 : w_2.cell? ⟨w.heap.size + 1, 1, none⟩ = some (v1) := (below_cell hb _ _ l32).trans f23
        have f41 : w_2.cell? ⟨w.heap.size + 2, 0, none⟩ = some (.int .i64 s2a) := (below_cell hb _ _ l33).trans f24
        have f42 : w_2.cell? ⟨w.heap.size + 2, 1, none⟩ = some (.int .i64 s2b) := (below_cell hb _ _ l33).trans f25
        have f43 : w_2.cell? ⟨w.heap.size + 2, 2, none⟩ = some (.int .i64 s2c) := (below_cell hb _ _ l33).trans f26
        have f44 : w_2.cell? ⟨w.heap.size + 2, 3, none⟩ = some (.int .i64 s2e) := (below_cell hb _ _ l33).trans f27
        have f45 : w_2.cell? ⟨w.heap.size + 2, 4, none⟩ = some (.int .i64 s2f) := (below_cell hb _ _ l33).trans f28
        have f46 : w_2.cell? ⟨w.heap.size + 2, 5, none⟩ = some (.int .i64 s2t) := (below_cell hb _ _ l33).trans f29
        have f47 : w_2.cell? ⟨w.heap.size + 2, 6, none⟩ = some (.int .i64 s2q) := (below_cell hb _ _ l33).trans f30
        have l48 : w.heap.size < w_2.heap.size := Nat.lt_of_lt_of_le l31 (hb).size
        have l49 : w.heap.size + 1 < w_2.heap.size := Nat.lt_of_lt_of_le l32 (hb).size
        have l50 : w.heap.size + 2 < w_2.heap.size := Nat.lt_of_lt_of_le l33 (hb).size
        clear f19 f20 f21 f22 f23 f24 f25 f26 f27 f28 f29 f30 l31 l32 l33
        have HB51 := Lib.hid (below_of HB34.out hb HB34.out.size)
        clear hb 
        go_wp2_with fail
        refine (szCuts_any _ len3 _ (1048576 - (T2 : Int)) _ hlen3 (by omega) (by omega)).mono ?_
        rintro e w_2 ⟨rfl, rfl⟩
        rw [HL2.out]
        go_wp2_with fail
        have hbd : Below w_2.heap.size w_2 w_2.drew := ⟨rfl, rfl, rfl, Nat.le_refl _, fun _ _ => rfl⟩
        have HI0 := Lib.hid (modAt_kept HB51.out HZ0.out)
        have HI1 := Lib.hid (rings_kept HB51.out HZ1.out)
        have HI3 := Lib.hid (cuts_kept HB51.out HY3.out)
        have HSK := Lib.hid (fun W (hW : Below w_2.heap.size w_2 W) => show W.cell? ⟨w.heap.size, 0, none⟩ = some (x0a) ∧ W.cell? ⟨w.heap.size, 1, none⟩ = some (x0b) ∧ W.cell? ⟨w.heap.size, 2, none⟩ = some (x0c) ∧ W.cell? ⟨w.heap.size + 1, 0, none⟩ = some (.string s1) ∧ W.cell? ⟨w.heap.size + 1, 1, none⟩ = some (v1) ∧ W.cell? ⟨w.heap.size + 2, 0, none⟩ = some (.int .i64 s2a) ∧ W.cell? ⟨w.heap.size + 2, 1, none⟩ = some (.int .i64 s2b) ∧ W.cell? ⟨w.heap.size + 2, 2, none⟩ = some (.int .i64 s2c) ∧ W.cell? ⟨w.heap.size + 2, 3, none⟩ = some (.int .i64 s2e) ∧ W.cell? ⟨w.heap.size + 2, 4, none⟩ = some (.int .i64 s2f) ∧ W.cell? ⟨w.heap.size + 2, 5, none⟩ = some (.int .i64 s2t) ∧ W.cell? ⟨w.heap.size + 2, 6, none⟩ = some (.int .i64 s2q) ∧ Below w_2.heap.size w_2 W from ⟨(below_cell hW _ _ l48).trans f36, (below_cell hW _ _ l48).trans f37, (below_cell hW _ _ l48).trans f38, (below_cell hW _ _ l49).trans f39, (below_cell hW _ _ l49).trans f40, (below_cell hW _ _ l50).trans f41, (below_cell hW _ _ l50).trans f42, (below_cell hW _ _ l50).trans f43, (below_cell hW _ _ l50).trans f44, (below_cell hW _ _ l50).trans f45, (below_cell hW _ _ l50).trans f46, (below_cell hW _ _ l50).trans f47, hW⟩)
        go_region_held3 (fun W => W.cell? ⟨w.heap.size, 0, none⟩ = some (x0a) ∧ W.cell? ⟨w.heap.size, 1, none⟩ = some (x0b) ∧ W.cell? ⟨w.heap.size, 2, none⟩ = some (x0c) ∧ W.cell? ⟨w.heap.size + 1, 0, none⟩ = some (.string s1) ∧ W.cell? ⟨w.heap.size + 1, 1, none⟩ = some (v1) ∧ W.cell? ⟨w.heap.size + 2, 0, none⟩ = some (.int .i64 s2a) ∧ W.cell? ⟨w.heap.size + 2, 1, none⟩ = some (.int .i64 s2b) ∧ W.cell? ⟨w.heap.size + 2, 2, none⟩ = some (.int .i64 s2c) ∧ W.cell? ⟨w.heap.size + 2, 3, none⟩ = some (.int .i64 s2e) ∧ W.cell? ⟨w.heap.size + 2, 4, none⟩ = some (.int .i64 s2f) ∧ W.cell? ⟨w.heap.size + 2, 5, none⟩ = some (.int .i64 s2t) ∧ W.cell? ⟨w.heap.size + 2, 6, none⟩ = some (.int .i64 s2q) ∧ Below w_2.heap.size w_2 W)
          (first | exact HSK.out _ hbd | exact HSK.out _ hbr0 | exact HSK.out _ hbr1 | exact HSK.out _ hbr2 | exact HSK.out _ hbr3 | exact HSK.out _ hbrf | assumption)
          (first
            | (go_at_call_of 11 (Value.agg #[x0a, x0b, x0c]); refine (toModX_any x0a x0b x0c mz0 mw0 mb0 _ (modAt_kept hbd HI0.out).1 (modAt_kept hbd HI0.out).2.1 (modAt_kept hbd HI0.out).2.2).mono ?_; rintro e wR52_0 ⟨vx0a, vx0b, vx0c, rfl, ho0, hbq0⟩; have hbr0 := below_of hbd hbq0 hbd.size)
            | (go_at_call_of 12 (Value.agg #[.string s1, v1]); refine (toProf_any s1 v1 zs1 _ (rings_kept hbr0 HI1.out)).mono ?_; rintro e wR52_1 ⟨vx1, rfl, ho1, hbq1⟩; have hbr1 := below_of hbr0 hbq1 hbr0.size)
            | (go_at_call_of 13 (Value.agg #[.int .i64 s2a, .int .i64 s2b, .int .i64 s2c, .int .i64 s2e, .int .i64 s2f, .int .i64 s2t, .int .i64 s2q]); refine (toGoal_any s2a s2b s2c s2e s2f s2t s2q _).mono ?_; rintro e wR52_2 ⟨rfl, hbq2⟩; have hbr2 := below_of hbr1 hbq2 hbr1.size)
            | (go_at_call 14; refine (toCuts_any z3 _ _ (cuts_kept hbr2 HI3.out)).mono ?_; rintro e wR52_3 ⟨vx3, rfl, ho3, hbq3⟩; have hbr3 := below_of hbr2 hbq3 hbr2.size)
            | (go_at_call 10; refine (HSP.out vx0a vx0b vx0c vx1 vx3 _ (modAt_kept hbq3 (modAt_kept hbq2 (modAt_kept hbq1 (modOwn_parts HML0.out.2.2.1 HML0.out.2.1 (lenS_row HML0.out.2.2.2.2) HML0.out.2.2.2.1 ho0)))) (ringsW_kept hbq3 (ringsW_kept hbq2 (rvW HZL1.out (rv_of_ownAt ho1)))) (own_cuts HYL3.out ho3)).mono ?_; rintro e wR52_f ⟨vw, rfl, hv, hbf⟩; have hbrf := below_of hbr3 hbf hbr3.size))
        have hb := hbrf
        have S53 : w_2.heap.size ≤ wR52_0.heap.size := hbq0.size
        have S54 : wR52_0.heap.size ≤ wR52_1.heap.size := hbq1.size
        have S55 : wR52_1.heap.size ≤ wR52_2.heap.size := hbq2.size
        have S56 : wR52_2.heap.size ≤ wR52_3.heap.size := hbq3.size
        have S57 : wR52_3.heap.size ≤ wR52_f.heap.size := hbf.size
        obtain ⟨aW, cW, rfl⟩ := iv_form hv
        rw [HN1.out] at hv ⊢
        have HWI := Lib.hid (iv_in hv)
        have HWR := Lib.hid hv
        clear hv
        have S58 : w_2.heap.size ≤ wR52_f.heap.size := (hb).size
        have f59 : wR52_f.cell? ⟨w.heap.size, 0, none⟩ = some (x0a) := (below_cell hb _ _ l48).trans f36
        have f60 : wR52_f.cell? ⟨w.heap.size, 1, none⟩ = some (x0b) := (below_cell hb _ _ l48).trans f37
        have f61 : wR52_f.cell? ⟨w.heap.size, 2, none⟩ = some (x0c) := (below_cell hb _ _ l48).trans f38
        have f62 : wR52_f.cell? ⟨w.heap.size + 1, 0, none⟩ = some (.string s1) := (below_cell hb _ _ l49).trans f39
        have f63 : wR52_f.cell? ⟨w.heap.size + 1, 1, none⟩ = some (v1) := (below_cell hb _ _ l49).trans f40
        have f64 : wR52_f.cell? ⟨w.heap.size + 2, 0, none⟩ = some (.int .i64 s2a) := (below_cell hb _ _ l50).trans f41
        have f65 : wR52_f.cell? ⟨w.heap.size + 2, 1, none⟩ = some (.int .i64 s2b) := (below_cell hb _ _ l50).trans f42
        have f66 : wR52_f.cell? ⟨w.heap.size + 2, 2, none⟩ = some (.int .i64 s2c) := (below_cell hb _ _ l50).trans f43
        have f67 : wR52_f.cell? ⟨w.heap.size + 2, 3, none⟩ = some (.int .i64 s2e) := (below_cell hb _ _ l50).trans f44
        have f68 : wR52_f.cell? ⟨w.heap.size + 2, 4, none⟩ = some (.int .i64 s2f) := (below_cell hb _ _ l50).trans f45
        have f69 : wR52_f.cell? ⟨w.heap.size + 2, 5, none⟩ = some (.int .i64 s2t) := (below_cell hb _ _ l50).trans f46
        have f70 : wR52_f.cell? ⟨w.heap.size + 2, 6, none⟩ = some (.int .i64 s2q) := (below_cell hb _ _ l50).trans f47
        have l71 : w.heap.size < wR52_f.heap.size := Nat.lt_of_lt_of_le l48 (hb).size
        have l72 : w.heap.size + 1 < wR52_f.heap.size := Nat.lt_of_lt_of_le l49 (hb).size
        have l73 : w.heap.size + 2 < wR52_f.heap.size := Nat.lt_of_lt_of_le l50 (hb).size
        clear f36 f37 f38 f39 f40 f41 f42 f43 f44 f45 f46 f47 l48 l49 l50
        have HB74 := Lib.hid (below_of HB51.out hb HB51.out.size)
        clear hb hbd hbrf hbf HSK hbq0 hbr0 hbq1 hbr1 hbq2 hbr2 hbq3 hbr3 ho0 HI0 ho1 HI1 ho3 HI3
        go_wp2_with fail
        refine (toModX_any x0a x0b x0c mz0 mw0 mb0 _ (modAt_kept HB74.out HZ0.out).1 (modAt_kept HB74.out HZ0.out).2.1 (modAt_kept HB74.out HZ0.out).2.2).mono ?_
        rintro e w_4 ⟨vx0a, vx0b, vx0c, rfl, ho, hb⟩
        have hF := modOwn_form ho
        obtain ⟨⟨aX0a, cX0a, rfl⟩, ⟨aX0b, cX0b, rfl⟩, ⟨aX0c, cX0c, rfl⟩⟩ := hF
        have HX0R := Lib.hid ho
        have S75 : wR52_f.heap.size ≤ w_4.heap.size := (hb).size
        have f76 : w_4.cell? ⟨w.heap.size, 0, none⟩ = some (x0a) := (below_cell hb _ _ l71).trans f59
        have f77 : w_4.cell? ⟨w.heap.size, 1, none⟩ = some (x0b) := (below_cell hb _ _ l71).trans f60
        have f78 : w_4.cell? ⟨w.heap.size, 2, none⟩ = some (x0c) := (below_cell hb _ _ l71).trans f61
        have f79 : w_4.cell? ⟨w.heap.size + 1, 0, none⟩ = some (.string s1) := (below_cell hb _ _ l72).trans f62
        have f80 : w_4.cell? ⟨w.heap.size + 1, 1, none⟩ = some (v1) := (below_cell hb _ _ l72).trans f63
        have f81 : w_4.cell? ⟨w.heap.size + 2, 0, none⟩ = some (.int .i64 s2a) := (below_cell hb _ _ l73).trans f64
        have f82 : w_4.cell? ⟨w.heap.size + 2, 1, none⟩ = some (.int .i64 s2b) := (below_cell hb _ _ l73).trans f65
        have f83 : w_4.cell? ⟨w.heap.size + 2, 2, none⟩ = some (.int .i64 s2c) := (below_cell hb _ _ l73).trans f66
        have f84 : w_4.cell? ⟨w.heap.size + 2, 3, none⟩ = some (.int .i64 s2e) := (below_cell hb _ _ l73).trans f67
        have f85 : w_4.cell? ⟨w.heap.size + 2, 4, none⟩ = some (.int .i64 s2f) := (below_cell hb _ _ l73).trans f68
        have f86 : w_4.cell? ⟨w.heap.size + 2, 5, none⟩ = some (.int .i64 s2t) := (below_cell hb _ _ l73).trans f69
        have f87 : w_4.cell? ⟨w.heap.size + 2, 6, none⟩ = some (.int .i64 s2q) := (below_cell hb _ _ l73).trans f70
        have l88 : w.heap.size < w_4.heap.size := Nat.lt_of_lt_of_le l71 (hb).size
        have l89 : w.heap.size + 1 < w_4.heap.size := Nat.lt_of_lt_of_le l72 (hb).size
        have l90 : w.heap.size + 2 < w_4.heap.size := Nat.lt_of_lt_of_le l73 (hb).size
        clear f59 f60 f61 f62 f63 f64 f65 f66 f67 f68 f69 f70 l71 l72 l73
        have HB91 := Lib.hid (below_of HB74.out hb HB74.out.size)
        have HR92 := Lib.hid (iv_kept hb HWR.out)
        clear HWR
        clear hb ho
        have f93 : (w_4.alloc (.cells #[.slice aX0a mz0.length cX0a, .slice aX0b mw0.length cX0b, .slice aX0c mb0.length cX0c] 39)).cell? ⟨w.heap.size, 0, none⟩ = some (x0a) := (below_cell (below_al w_4 (.cells #[.slice aX0a mz0.length cX0a, .slice aX0b mw0.length cX0b, .slice aX0c mb0.length cX0c] 39)) _ _ l88).trans f76
        have f94 : (w_4.alloc (.cells #[.slice aX0a mz0.length cX0a, .slice aX0b mw0.length cX0b, .slice aX0c mb0.length cX0c] 39)).cell? ⟨w.heap.size, 1, none⟩ = some (x0b) := (below_cell (below_al w_4 (.cells #[.slice aX0a mz0.length cX0a, .slice aX0b mw0.length cX0b, .slice aX0c mb0.length cX0c] 39)) _ _ l88).trans f77
        have f95 : (w_4.alloc (.cells #[.slice aX0a mz0.length cX0a, .slice aX0b mw0.length cX0b, .slice aX0c mb0.length cX0c] 39)).cell? ⟨w.heap.size, 2, none⟩ = some (x0c) := (below_cell (below_al w_4 (.cells #[.slice aX0a mz0.length cX0a, .slice aX0b mw0.length cX0b, .slice aX0c mb0.length cX0c] 39)) _ _ l88).trans f78
        have f96 : (w_4.alloc (.cells #[.slice aX0a mz0.length cX0a, .slice aX0b mw0.length cX0b, .slice aX0c mb0.length cX0c] 39)).cell? ⟨w.heap.size + 1, 0, none⟩ = some (.string s1) := (below_cell (below_al w_4 (.cells #[.slice aX0a mz0.length cX0a, .slice aX0b mw0.length cX0b, .slice aX0c mb0.length cX0c] 39)) _ _ l89).trans f79
        have f97 : (w_4.alloc (.cells #[.slice aX0a mz0.length cX0a, .slice aX0b mw0.length cX0b, .slice aX0c mb0.length cX0c] 39)).cell? ⟨w.heap.size + 1, 1, none⟩ = some (v1) := (below_cell (below_al w_4 (.cells #[.slice aX0a mz0.length cX0a, .slice aX0b mw0.length cX0b, .slice aX0c mb0.length cX0c] 39)) _ _ l89).trans f80
        have f98 : (w_4.alloc (.cells #[.slice aX0a mz0.length cX0a, .slice aX0b mw0.length cX0b, .slice aX0c mb0.length cX0c] 39)).cell? ⟨w.heap.size + 2, 0, none⟩ = some (.int .i64 s2a) := (below_cell (below_al w_4 (.cells #[.slice aX0a mz0.length cX0a, .slice aX0b mw0.length cX0b, .slice aX0c mb0.length cX0c] 39)) _ _ l90).trans f81
        have f99 : (w_4.alloc (.cells #[.slice aX0a mz0.length cX0a, .slice aX0b mw0.length cX0b, .slice aX0c mb0.length cX0c] 39)).cell? ⟨w.heap.size + 2, 1, none⟩ = some (.int .i64 s2b) := (below_cell (below_al w_4 (.cells #[.slice aX0a mz0.length cX0a, .slice aX0b mw0.length cX0b, .slice aX0c mb0.length cX0c] 39)) _ _ l90).trans f82
        have f100 : (w_4.alloc (.cells #[.slice aX0a mz0.length cX0a, .slice aX0b mw0.length cX0b, .slice aX0c mb0.length cX0c] 39)).cell? ⟨w.heap.size + 2, 2, none⟩ = some (.int .i64 s2c) := (below_cell (below_al w_4 (.cells #[.slice aX0a mz0.length cX0a, .slice aX0b mw0.length cX0b, .slice aX0c mb0.length cX0c] 39)) _ _ l90).trans f83
        have f101 : (w_4.alloc (.cells #[.slice aX0a mz0.length cX0a, .slice aX0b mw0.length cX0b, .slice aX0c mb0.length cX0c] 39)).cell? ⟨w.heap.size + 2, 3, none⟩ = some (.int .i64 s2e) := (below_cell (below_al w_4 (.cells #[.slice aX0a mz0.length cX0a, .slice aX0b mw0.length cX0b, .slice aX0c mb0.length cX0c] 39)) _ _ l90).trans f84
        have f102 : (w_4.alloc (.cells #[.slice aX0a mz0.length cX0a, .slice aX0b mw0.length cX0b, .slice aX0c mb0.length cX0c] 39)).cell? ⟨w.heap.size + 2, 4, none⟩ = some (.int .i64 s2f) := (below_cell (below_al w_4 (.cells #[.slice aX0a mz0.length cX0a, .slice aX0b mw0.length cX0b, .slice aX0c mb0.length cX0c] 39)) _ _ l90).trans f85
        have f103 : (w_4.alloc (.cells #[.slice aX0a mz0.length cX0a, .slice aX0b mw0.length cX0b, .slice aX0c mb0.length cX0c] 39)).cell? ⟨w.heap.size + 2, 5, none⟩ = some (.int .i64 s2t) := (below_cell (below_al w_4 (.cells #[.slice aX0a mz0.length cX0a, .slice aX0b mw0.length cX0b, .slice aX0c mb0.length cX0c] 39)) _ _ l90).trans f86
        have f104 : (w_4.alloc (.cells #[.slice aX0a mz0.length cX0a, .slice aX0b mw0.length cX0b, .slice aX0c mb0.length cX0c] 39)).cell? ⟨w.heap.size + 2, 6, none⟩ = some (.int .i64 s2q) := (below_cell (below_al w_4 (.cells #[.slice aX0a mz0.length cX0a, .slice aX0b mw0.length cX0b, .slice aX0c mb0.length cX0c] 39)) _ _ l90).trans f87
        have l105 : w.heap.size < (w_4.alloc (.cells #[.slice aX0a mz0.length cX0a, .slice aX0b mw0.length cX0b, .slice aX0c mb0.length cX0c] 39)).heap.size := Nat.lt_of_lt_of_le l88 (below_al w_4 (.cells #[.slice aX0a mz0.length cX0a, .slice aX0b mw0.length cX0b, .slice aX0c mb0.length cX0c] 39)).size
        have l106 : w.heap.size + 1 < (w_4.alloc (.cells #[.slice aX0a mz0.length cX0a, .slice aX0b mw0.length cX0b, .slice aX0c mb0.length cX0c] 39)).heap.size := Nat.lt_of_lt_of_le l89 (below_al w_4 (.cells #[.slice aX0a mz0.length cX0a, .slice aX0b mw0.length cX0b, .slice aX0c mb0.length cX0c] 39)).size
        have l107 : w.heap.size + 2 < (w_4.alloc (.cells #[.slice aX0a mz0.length cX0a, .slice aX0b mw0.length cX0b, .slice aX0c mb0.length cX0c] 39)).heap.size := Nat.lt_of_lt_of_le l90 (below_al w_4 (.cells #[.slice aX0a mz0.length cX0a, .slice aX0b mw0.length cX0b, .slice aX0c mb0.length cX0c] 39)).size
        clear f76 f77 f78 f79 f80 f81 f82 f83 f84 f85 f86 f87 l88 l89 l90
        have f108 : (w_4.alloc (.cells #[.slice aX0a mz0.length cX0a, .slice aX0b mw0.length cX0b, .slice aX0c mb0.length cX0c] 39)).cell? ⟨w_4.heap.size, 0, none⟩ = some (.slice aX0a mz0.length cX0a) := by go_simp
        have f109 : (w_4.alloc (.cells #[.slice aX0a mz0.length cX0a, .slice aX0b mw0.length cX0b, .slice aX0c mb0.length cX0c] 39)).cell? ⟨w_4.heap.size, 1, none⟩ = some (.slice aX0b mw0.length cX0b) := by go_simp
        have f110 : (w_4.alloc (.cells #[.slice aX0a mz0.length cX0a, .slice aX0b mw0.length cX0b, .slice aX0c mb0.length cX0c] 39)).cell? ⟨w_4.heap.size, 2, none⟩ = some (.slice aX0c mb0.length cX0c) := by go_simp
        have l111 : w_4.heap.size < (w_4.alloc (.cells #[.slice aX0a mz0.length cX0a, .slice aX0b mw0.length cX0b, .slice aX0c mb0.length cX0c] 39)).heap.size := alloc_lt2 _ _
        have S112 : w_4.heap.size < (w_4.alloc (.cells #[.slice aX0a mz0.length cX0a, .slice aX0b mw0.length cX0b, .slice aX0c mb0.length cX0c] 39)).heap.size := alloc_lt2 _ _
        have HB113 := Lib.hid (below_of HB91.out (below_al w_4 (.cells #[.slice aX0a mz0.length cX0a, .slice aX0b mw0.length cX0b, .slice aX0c mb0.length cX0c] 39)) HB91.out.size)
        have HR114 := Lib.hid (iv_kept (below_al w_4 (.cells #[.slice aX0a mz0.length cX0a, .slice aX0b mw0.length cX0b, .slice aX0c mb0.length cX0c] 39)) HR92.out)
        clear HR92
        have HR115 := Lib.hid (modOwn_kept (below_al w_4 (.cells #[.slice aX0a mz0.length cX0a, .slice aX0b mw0.length cX0b, .slice aX0c mb0.length cX0c] 39)) HX0R.out)
        clear HX0R
        go_wp2_with fail
        generalize (w_4.alloc (.cells #[.slice aX0a mz0.length cX0a, .slice aX0b mw0.length cX0b, .slice aX0c mb0.length cX0c] 39)) = wb116 at *
        refine (toProf_any s1 v1 zs1 _ (rings_kept HB113.out HZ1.out)).mono ?_
        rintro e w_5 ⟨vx1, rfl, ho, hb⟩
        have HXR0 := rv_of_ownAt ho
        obtain ⟨aX1, cX1, rfl⟩ := rv_form HXR0
        rw [HNA1.out] at HXR0 ⊢
        have HX1I := Lib.hid (rv_in HXR0)
        have HX1R := Lib.hid HXR0
        have S117 : wb116.heap.size ≤ w_5.heap.size := (hb).size
        have f118 : w_5.cell? ⟨w.heap.size, 0, none⟩ = some (x0a) := (below_cell hb _ _ l105).trans f93
        have f119 : w_5.cell? ⟨w.heap.size, 1, none⟩ = some (x0b) := (below_cell hb _ _ l105).trans f94
        have f120 : w_5.cell? ⟨w.heap.size, 2, none⟩ = some (x0c) := (below_cell hb _ _ l105).trans f95
        have f121 : w_5.cell? ⟨w.heap.size + 1, 0, none⟩ = some (.string s1) := (below_cell hb _ _ l106).trans f96
        have f122 : w_5.cell? ⟨w.heap.size + 1, 1, none⟩ = some (v1) := (below_cell hb _ _ l106).trans f97
        have f123 : w_5.cell? ⟨w.heap.size + 2, 0, none⟩ = some (.int .i64 s2a) := (below_cell hb _ _ l107).trans f98
        have f124 : w_5.cell? ⟨w.heap.size + 2, 1, none⟩ = some (.int .i64 s2b) := (below_cell hb _ _ l107).trans f99
        have f125 : w_5.cell? ⟨w.heap.size + 2, 2, none⟩ = some (.int .i64 s2c) := (below_cell hb _ _ l107).trans f100
        have f126 : w_5.cell? ⟨w.heap.size + 2, 3, none⟩ = some (.int .i64 s2e) := (below_cell hb _ _ l107).trans f101
        have f127 : w_5.cell? ⟨w.heap.size + 2, 4, none⟩ = some (.int .i64 s2f) := (below_cell hb _ _ l107).trans f102
        have f128 : w_5.cell? ⟨w.heap.size + 2, 5, none⟩ = some (.int .i64 s2t) := (below_cell hb _ _ l107).trans f103
        have f129 : w_5.cell? ⟨w.heap.size + 2, 6, none⟩ = some (.int .i64 s2q) := (below_cell hb _ _ l107).trans f104
        have f130 : w_5.cell? ⟨w_4.heap.size, 0, none⟩ = some (.slice aX0a mz0.length cX0a) := (below_cell hb _ _ l111).trans f108
        have f131 : w_5.cell? ⟨w_4.heap.size, 1, none⟩ = some (.slice aX0b mw0.length cX0b) := (below_cell hb _ _ l111).trans f109
        have f132 : w_5.cell? ⟨w_4.heap.size, 2, none⟩ = some (.slice aX0c mb0.length cX0c) := (below_cell hb _ _ l111).trans f110
        have l133 : w.heap.size < w_5.heap.size := Nat.lt_of_lt_of_le l105 (hb).size
        have l134 : w.heap.size + 1 < w_5.heap.size := Nat.lt_of_lt_of_le l106 (hb).size
        have l135 : w.heap.size + 2 < w_5.heap.size := Nat.lt_of_lt_of_le l107 (hb).size
        have l136 : w_4.heap.size < w_5.heap.size := Nat.lt_of_lt_of_le l111 (hb).size
        clear f93 f94 f95 f96 f97 f98 f99 f100 f101 f102 f103 f104 f108 f109 f110 l105 l106 l107 l111
        have HB137 := Lib.hid (below_of HB113.out hb HB113.out.size)
        have HR138 := Lib.hid (iv_kept hb HR114.out)
        clear HR114
        have HR139 := Lib.hid (modOwn_kept hb HR115.out)
        clear HR115
        clear hb ho HXR0
        have f140 : (w_5.alloc (.cells #[.string s1, .slice aX1 len1 cX1] 43)).cell? ⟨w.heap.size, 0, none⟩ = some (x0a) := (below_cell (below_al w_5 (.cells #[.string s1, .slice aX1 len1 cX1] 43)) _ _ l133).trans f118
        have f141 : (w_5.alloc (.cells #[.string s1, .slice aX1 len1 cX1] 43)).cell? ⟨w.heap.size, 1, none⟩ = some (x0b) := (below_cell (below_al w_5 (.cells #[.string s1, .slice aX1 len1 cX1] 43)) _ _ l133).trans f119
        have f142 : (w_5.alloc (.cells #[.string s1, .slice aX1 len1 cX1] 43)).cell? ⟨w.heap.size, 2, none⟩ = some (x0c) := (below_cell (below_al w_5 (.cells #[.string s1, .slice aX1 len1 cX1] 43)) _ _ l133).trans f120
        have f143 : (w_5.alloc (.cells #[.string s1, .slice aX1 len1 cX1] 43)).cell? ⟨w.heap.size + 1, 0, none⟩ = some (.string s1) := (below_cell (below_al w_5 (.cells #[.string s1, .slice aX1 len1 cX1] 43)) _ _ l134).trans f121
        have f144 : (w_5.alloc (.cells #[.string s1, .slice aX1 len1 cX1] 43)).cell? ⟨w.heap.size + 1, 1, none⟩ = some (v1) := (below_cell (below_al w_5 (.cells #[.string s1, .slice aX1 len1 cX1] 43)) _ _ l134).trans f122
        have f145 : (w_5.alloc (.cells #[.string s1, .slice aX1 len1 cX1] 43)).cell? ⟨w.heap.size + 2, 0, none⟩ = some (.int .i64 s2a) := (below_cell (below_al w_5 (.cells #[.string s1, .slice aX1 len1 cX1] 43)) _ _ l135).trans f123
        have f146 : (w_5.alloc (.cells #[.string s1, .slice aX1 len1 cX1] 43)).cell? ⟨w.heap.size + 2, 1, none⟩ = some (.int .i64 s2b) := (below_cell (below_al w_5 (.cells #[.string s1, .slice aX1 len1 cX1] 43)) _ _ l135).trans f124
        have f147 : (w_5.alloc (.cells #[.string s1, .slice aX1 len1 cX1] 43)).cell? ⟨w.heap.size + 2, 2, none⟩ = some (.int .i64 s2c) := (below_cell (below_al w_5 (.cells #[.string s1, .slice aX1 len1 cX1] 43)) _ _ l135).trans f125
        have f148 : (w_5.alloc (.cells #[.string s1, .slice aX1 len1 cX1] 43)).cell? ⟨w.heap.size + 2, 3, none⟩ = some (.int .i64 s2e) := (below_cell (below_al w_5 (.cells #[.string s1, .slice aX1 len1 cX1] 43)) _ _ l135).trans f126
        have f149 : (w_5.alloc (.cells #[.string s1, .slice aX1 len1 cX1] 43)).cell? ⟨w.heap.size + 2, 4, none⟩ = some (.int .i64 s2f) := (below_cell (below_al w_5 (.cells #[.string s1, .slice aX1 len1 cX1] 43)) _ _ l135).trans f127
        have f150 : (w_5.alloc (.cells #[.string s1, .slice aX1 len1 cX1] 43)).cell? ⟨w.heap.size + 2, 5, none⟩ = some (.int .i64 s2t) := (below_cell (below_al w_5 (.cells #[.string s1, .slice aX1 len1 cX1] 43)) _ _ l135).trans f128
        have f151 : (w_5.alloc (.cells #[.string s1, .slice aX1 len1 cX1] 43)).cell? ⟨w.heap.size + 2, 6, none⟩ = some (.int .i64 s2q) := (below_cell (below_al w_5 (.cells #[.string s1, .slice aX1 len1 cX1] 43)) _ _ l135).trans f129
        have f152 : (w_5.alloc (.cells #[.string s1, .slice aX1 len1 cX1] 43)).cell? ⟨w_4.heap.size, 0, none⟩ = some (.slice aX0a mz0.length cX0a) := (below_cell (below_al w_5 (.cells #[.string s1, .slice aX1 len1 cX1] 43)) _ _ l136).trans f130
        have f153 : (w_5.alloc (.cells #[.string s1, .slice aX1 len1 cX1] 43)).cell? ⟨w_4.heap.size, 1, none⟩ = some (.slice aX0b mw0.length cX0b) := (below_cell (below_al w_5 (.cells #[.string s1, .slice aX1 len1 cX1] 43)) _ _ l136).trans f131
        have f154 : (w_5.alloc (.cells #[.string s1, .slice aX1 len1 cX1] 43)).cell? ⟨w_4.heap.size, 2, none⟩ = some (.slice aX0c mb0.length cX0c) := (below_cell (below_al w_5 (.cells #[.string s1, .slice aX1 len1 cX1] 43)) _ _ l136).trans f132
        have l155 : w.heap.size < (w_5.alloc (.cells #[.string s1, .slice aX1 len1 cX1] 43)).heap.size := Nat.lt_of_lt_of_le l133 (below_al w_5 (.cells #[.string s1, .slice aX1 len1 cX1] 43)).size
        have l156 : w.heap.size + 1 < (w_5.alloc (.cells #[.string s1, .slice aX1 len1 cX1] 43)).heap.size := Nat.lt_of_lt_of_le l134 (below_al w_5 (.cells #[.string s1, .slice aX1 len1 cX1] 43)).size
        have l157 : w.heap.size + 2 < (w_5.alloc (.cells #[.string s1, .slice aX1 len1 cX1] 43)).heap.size := Nat.lt_of_lt_of_le l135 (below_al w_5 (.cells #[.string s1, .slice aX1 len1 cX1] 43)).size
        have l158 : w_4.heap.size < (w_5.alloc (.cells #[.string s1, .slice aX1 len1 cX1] 43)).heap.size := Nat.lt_of_lt_of_le l136 (below_al w_5 (.cells #[.string s1, .slice aX1 len1 cX1] 43)).size
        clear f118 f119 f120 f121 f122 f123 f124 f125 f126 f127 f128 f129 f130 f131 f132 l133 l134 l135 l136
        have f159 : (w_5.alloc (.cells #[.string s1, .slice aX1 len1 cX1] 43)).cell? ⟨w_5.heap.size, 0, none⟩ = some (.string s1) := by go_simp
        have f160 : (w_5.alloc (.cells #[.string s1, .slice aX1 len1 cX1] 43)).cell? ⟨w_5.heap.size, 1, none⟩ = some (.slice aX1 len1 cX1) := by go_simp
        have l161 : w_5.heap.size < (w_5.alloc (.cells #[.string s1, .slice aX1 len1 cX1] 43)).heap.size := alloc_lt2 _ _
        have S162 : w_5.heap.size < (w_5.alloc (.cells #[.string s1, .slice aX1 len1 cX1] 43)).heap.size := alloc_lt2 _ _
        have HB163 := Lib.hid (below_of HB137.out (below_al w_5 (.cells #[.string s1, .slice aX1 len1 cX1] 43)) HB137.out.size)
        have HR164 := Lib.hid (iv_kept (below_al w_5 (.cells #[.string s1, .slice aX1 len1 cX1] 43)) HR138.out)
        clear HR138
        have HR165 := Lib.hid (modOwn_kept (below_al w_5 (.cells #[.string s1, .slice aX1 len1 cX1] 43)) HR139.out)
        clear HR139
        have HR166 := Lib.hid (rv_kept (below_al w_5 (.cells #[.string s1, .slice aX1 len1 cX1] 43)) HX1R.out)
        clear HX1R
        go_wp2_with fail
        generalize (w_5.alloc (.cells #[.string s1, .slice aX1 len1 cX1] 43)) = wb167 at *
        refine (toCuts_any z3 _ _ (cuts_kept HB163.out HY3.out)).mono ?_
        rintro e w_6 ⟨vx3, rfl, ho, hb⟩
        have hv := cv_own ho
        obtain ⟨aZ3, cZ3, rfl⟩ := cv_form hv
        rw [HZN3.out] at hv ⊢
        have HX3I := Lib.hid (cv_in hv)
        have HX3R := Lib.hid hv
        clear hv
        have S168 : wb167.heap.size ≤ w_6.heap.size := (hb).size
        have f169 : w_6.cell? ⟨w.heap.size, 0, none⟩ = some (x0a) := (below_cell hb _ _ l155).trans f140
        have f170 : w_6.cell? ⟨w.heap.size, 1, none⟩ = some (x0b) := (below_cell hb _ _ l155).trans f141
        have f171 : w_6.cell? ⟨w.heap.size, 2, none⟩ = some (x0c) := (below_cell hb _ _ l155).trans f142
        have f172 : w_6.cell? ⟨w.heap.size + 1, 0, none⟩ = some (.string s1) := (below_cell hb _ _ l156).trans f143
        have f173 : w_6.cell? ⟨w.heap.size + 1, 1, none⟩ = some (v1) := (below_cell hb _ _ l156).trans f144
        have f174 : w_6.cell? ⟨w.heap.size + 2, 0, none⟩ = some (.int .i64 s2a) := (below_cell hb _ _ l157).trans f145
        have f175 : w_6.cell? ⟨w.heap.size + 2, 1, none⟩ = some (.int .i64 s2b) := (below_cell hb _ _ l157).trans f146
        have f176 : w_6.cell? ⟨w.heap.size + 2, 2, none⟩ = some (.int .i64 s2c) := (below_cell hb _ _ l157).trans f147
        have f177 : w_6.cell? ⟨w.heap.size + 2, 3, none⟩ = some (.int .i64 s2e) := (below_cell hb _ _ l157).trans f148
        have f178 : w_6.cell? ⟨w.heap.size + 2, 4, none⟩ = some (.int .i64 s2f) := (below_cell hb _ _ l157).trans f149
        have f179 : w_6.cell? ⟨w.heap.size + 2, 5, none⟩ = some (.int .i64 s2t) := (below_cell hb _ _ l157).trans f150
        have f180 : w_6.cell? ⟨w.heap.size + 2, 6, none⟩ = some (.int .i64 s2q) := (below_cell hb _ _ l157).trans f151
        have f181 : w_6.cell? ⟨w_4.heap.size, 0, none⟩ = some (.slice aX0a mz0.length cX0a) := (below_cell hb _ _ l158).trans f152
        have f182 : w_6.cell? ⟨w_4.heap.size, 1, none⟩ = some (.slice aX0b mw0.length cX0b) := (below_cell hb _ _ l158).trans f153
        have f183 : w_6.cell? ⟨w_4.heap.size, 2, none⟩ = some (.slice aX0c mb0.length cX0c) := (below_cell hb _ _ l158).trans f154
        have f184 : w_6.cell? ⟨w_5.heap.size, 0, none⟩ = some (.string s1) := (below_cell hb _ _ l161).trans f159
        have f185 : w_6.cell? ⟨w_5.heap.size, 1, none⟩ = some (.slice aX1 len1 cX1) := (below_cell hb _ _ l161).trans f160
        have l186 : w.heap.size < w_6.heap.size := Nat.lt_of_lt_of_le l155 (hb).size
        have l187 : w.heap.size + 1 < w_6.heap.size := Nat.lt_of_lt_of_le l156 (hb).size
        have l188 : w.heap.size + 2 < w_6.heap.size := Nat.lt_of_lt_of_le l157 (hb).size
        have l189 : w_4.heap.size < w_6.heap.size := Nat.lt_of_lt_of_le l158 (hb).size
        have l190 : w_5.heap.size < w_6.heap.size := Nat.lt_of_lt_of_le l161 (hb).size
        clear f140 f141 f142 f143 f144 f145 f146 f147 f148 f149 f150 f151 f152 f153 f154 f159 f160 l155 l156 l157 l158 l161
        have HB191 := Lib.hid (below_of HB163.out hb HB163.out.size)
        have HR192 := Lib.hid (iv_kept hb HR164.out)
        clear HR164
        have HR193 := Lib.hid (modOwn_kept hb HR165.out)
        clear HR165
        have HR194 := Lib.hid (rv_kept hb HR166.out)
        clear HR166
        clear hb ho
        go_wp2_with fail
        have hbd : Below w_6.heap.size w_6 w_6.drew := ⟨rfl, rfl, rfl, Nat.le_refl _, fun _ _ => rfl⟩
        have HIX0 := Lib.hid (modOwn_parts HML0.out.2.2.1 HML0.out.2.1 (lenS_row HML0.out.2.2.2.2) HML0.out.2.2.2.1 HR193.out)
        have HIX1 := Lib.hid (rvW HZL1.out HR194.out)
        have HIX3 := Lib.hid (cv_at HYL3.out HX3R.out)
        have HSK := Lib.hid (fun W (hW : Below w_6.heap.size w_6 W) => show W.cell? ⟨w.heap.size + 2, 0, none⟩ = some (.int .i64 s2a) ∧ W.cell? ⟨w.heap.size + 2, 1, none⟩ = some (.int .i64 s2b) ∧ W.cell? ⟨w.heap.size + 2, 2, none⟩ = some (.int .i64 s2c) ∧ W.cell? ⟨w.heap.size + 2, 3, none⟩ = some (.int .i64 s2e) ∧ W.cell? ⟨w.heap.size + 2, 4, none⟩ = some (.int .i64 s2f) ∧ W.cell? ⟨w.heap.size + 2, 5, none⟩ = some (.int .i64 s2t) ∧ W.cell? ⟨w.heap.size + 2, 6, none⟩ = some (.int .i64 s2q) ∧ W.cell? ⟨w_4.heap.size, 0, none⟩ = some (.slice aX0a mz0.length cX0a) ∧ W.cell? ⟨w_4.heap.size, 1, none⟩ = some (.slice aX0b mw0.length cX0b) ∧ W.cell? ⟨w_4.heap.size, 2, none⟩ = some (.slice aX0c mb0.length cX0c) ∧ W.cell? ⟨w_5.heap.size, 0, none⟩ = some (.string s1) ∧ W.cell? ⟨w_5.heap.size, 1, none⟩ = some (.slice aX1 len1 cX1) ∧ Below w_6.heap.size w_6 W from ⟨(below_cell hW _ _ l188).trans f174, (below_cell hW _ _ l188).trans f175, (below_cell hW _ _ l188).trans f176, (below_cell hW _ _ l188).trans f177, (below_cell hW _ _ l188).trans f178, (below_cell hW _ _ l188).trans f179, (below_cell hW _ _ l188).trans f180, (below_cell hW _ _ l189).trans f181, (below_cell hW _ _ l189).trans f182, (below_cell hW _ _ l189).trans f183, (below_cell hW _ _ l190).trans f184, (below_cell hW _ _ l190).trans f185, hW⟩)
        go_region_held3 (fun W => W.cell? ⟨w.heap.size + 2, 0, none⟩ = some (.int .i64 s2a) ∧ W.cell? ⟨w.heap.size + 2, 1, none⟩ = some (.int .i64 s2b) ∧ W.cell? ⟨w.heap.size + 2, 2, none⟩ = some (.int .i64 s2c) ∧ W.cell? ⟨w.heap.size + 2, 3, none⟩ = some (.int .i64 s2e) ∧ W.cell? ⟨w.heap.size + 2, 4, none⟩ = some (.int .i64 s2f) ∧ W.cell? ⟨w.heap.size + 2, 5, none⟩ = some (.int .i64 s2t) ∧ W.cell? ⟨w.heap.size + 2, 6, none⟩ = some (.int .i64 s2q) ∧ W.cell? ⟨w_4.heap.size, 0, none⟩ = some (.slice aX0a mz0.length cX0a) ∧ W.cell? ⟨w_4.heap.size, 1, none⟩ = some (.slice aX0b mw0.length cX0b) ∧ W.cell? ⟨w_4.heap.size, 2, none⟩ = some (.slice aX0c mb0.length cX0c) ∧ W.cell? ⟨w_5.heap.size, 0, none⟩ = some (.string s1) ∧ W.cell? ⟨w_5.heap.size, 1, none⟩ = some (.slice aX1 len1 cX1) ∧ Below w_6.heap.size w_6 W)
          (first | exact HSK.out _ hbd | exact HSK.out _ hbr0 | exact HSK.out _ hbrf | assumption)
          (first
            | (go_at_call_of 13 (Value.agg #[.int .i64 s2a, .int .i64 s2b, .int .i64 s2c, .int .i64 s2e, .int .i64 s2f, .int .i64 s2t, .int .i64 s2q]); refine (toGoal_any s2a s2b s2c s2e s2f s2t s2q _).mono ?_; rintro e wR195_0 ⟨rfl, hbq0⟩; have hbr0 := below_of hbd hbq0 hbd.size)
            | (go_at_call 15; refine (HIM.out _ _ _ _ _ _ (modAt_kept hbr0 HIX0.out) (ringsW_kept hbr0 HIX1.out) (cuts_kept hbr0 HIX3.out)).mono ?_; rintro e wR195_f ⟨vg, rfl, hv, hbf⟩; have hbrf := below_of hbr0 hbf hbr0.size))
        have hb := hbrf
        have S196 : w_6.heap.size ≤ wR195_0.heap.size := hbq0.size
        have S197 : wR195_0.heap.size ≤ wR195_f.heap.size := hbf.size
        obtain ⟨aG, cG, rfl⟩ := iv_form hv
        rw [HN1.out] at hv ⊢
        have HGI := Lib.hid (iv_in hv)
        have HGR := Lib.hid hv
        clear hv
        have S198 : w_6.heap.size ≤ wR195_f.heap.size := (hb).size
        have f199 : wR195_f.cell? ⟨w.heap.size, 0, none⟩ = some (x0a) := (below_cell hb _ _ l186).trans f169
        have f200 : wR195_f.cell? ⟨w.heap.size, 1, none⟩ = some (x0b) := (below_cell hb _ _ l186).trans f170
        have f201 : wR195_f.cell? ⟨w.heap.size, 2, none⟩ = some (x0c) := (below_cell hb _ _ l186).trans f171
        have f202 : wR195_f.cell? ⟨w.heap.size + 1, 0, none⟩ = some (.string s1) := (below_cell hb _ _ l187).trans f172
        have f203 : wR195_f.cell? ⟨w.heap.size + 1, 1, none⟩ = some (v1) := (below_cell hb _ _ l187).trans f173
        have f204 : wR195_f.cell? ⟨w.heap.size + 2, 0, none⟩ = some (.int .i64 s2a) := (below_cell hb _ _ l188).trans f174
        have f205 : wR195_f.cell? ⟨w.heap.size + 2, 1, none⟩ = some (.int .i64 s2b) := (below_cell hb _ _ l188).trans f175
        have f206 : wR195_f.cell? ⟨w.heap.size + 2, 2, none⟩ = some (.int .i64 s2c) := (below_cell hb _ _ l188).trans f176
        have f207 : wR195_f.cell? ⟨w.heap.size + 2, 3, none⟩ = some (.int .i64 s2e) := (below_cell hb _ _ l188).trans f177
        have f208 : wR195_f.cell? ⟨w.heap.size + 2, 4, none⟩ = some (.int .i64 s2f) := (below_cell hb _ _ l188).trans f178
        have f209 : wR195_f.cell? ⟨w.heap.size + 2, 5, none⟩ = some (.int .i64 s2t) := (below_cell hb _ _ l188).trans f179
        have f210 : wR195_f.cell? ⟨w.heap.size + 2, 6, none⟩ = some (.int .i64 s2q) := (below_cell hb _ _ l188).trans f180
        have f211 : wR195_f.cell? ⟨w_4.heap.size, 0, none⟩ = some (.slice aX0a mz0.length cX0a) := (below_cell hb _ _ l189).trans f181
        have f212 : wR195_f.cell? ⟨w_4.heap.size, 1, none⟩ = some (.slice aX0b mw0.length cX0b) := (below_cell hb _ _ l189).trans f182
        have f213 : wR195_f.cell? ⟨w_4.heap.size, 2, none⟩ = some (.slice aX0c mb0.length cX0c) := (below_cell hb _ _ l189).trans f183
        have f214 : wR195_f.cell? ⟨w_5.heap.size, 0, none⟩ = some (.string s1) := (below_cell hb _ _ l190).trans f184
        have f215 : wR195_f.cell? ⟨w_5.heap.size, 1, none⟩ = some (.slice aX1 len1 cX1) := (below_cell hb _ _ l190).trans f185
        have l216 : w.heap.size < wR195_f.heap.size := Nat.lt_of_lt_of_le l186 (hb).size
        have l217 : w.heap.size + 1 < wR195_f.heap.size := Nat.lt_of_lt_of_le l187 (hb).size
        have l218 : w.heap.size + 2 < wR195_f.heap.size := Nat.lt_of_lt_of_le l188 (hb).size
        have l219 : w_4.heap.size < wR195_f.heap.size := Nat.lt_of_lt_of_le l189 (hb).size
        have l220 : w_5.heap.size < wR195_f.heap.size := Nat.lt_of_lt_of_le l190 (hb).size
        clear f169 f170 f171 f172 f173 f174 f175 f176 f177 f178 f179 f180 f181 f182 f183 f184 f185 l186 l187 l188 l189 l190
        have HB221 := Lib.hid (below_of HB191.out hb HB191.out.size)
        have HR222 := Lib.hid (iv_kept hb HR192.out)
        clear HR192
        have HR223 := Lib.hid (modOwn_kept hb HR193.out)
        clear HR193
        have HR224 := Lib.hid (rv_kept hb HR194.out)
        clear HR194
        have HR225 := Lib.hid (cv_kept hb HX3R.out)
        clear HX3R
        clear hb hbd hbrf hbf HSK hbq0 hbr0 HIX0 HIX1 HIX3
        go_wp2_with fail
        refine (eqInts_at L1 _ _ _ (iv_ints HLL.out HGR.out) (iv_ints HLL.out HR222.out)).mono ?_
        rintro e w_7 ⟨rfl, hb⟩
        have S226 : wR195_f.heap.size ≤ w_7.heap.size := (hb).size
        have f227 : w_7.cell? ⟨w.heap.size, 0, none⟩ = some (x0a) := (below_cell hb _ _ l216).trans f199
        have f228 : w_7.cell? ⟨w.heap.size, 1, none⟩ = some (x0b) := (below_cell hb _ _ l216).trans f200
        have f229 : w_7.cell? ⟨w.heap.size, 2, none⟩ = some (x0c) := (below_cell hb _ _ l216).trans f201
        have f230 : w_7.cell? ⟨w.heap.size + 1, 0, none⟩ = some (.string s1) := (below_cell hb _ _ l217).trans f202
        have f231 : w_7.cell? ⟨w.heap.size + 1, 1, none⟩ = some (v1) := (below_cell hb _ _ l217).trans f203
        have f232 : w_7.cell? ⟨w.heap.size + 2, 0, none⟩ = some (.int .i64 s2a) := (below_cell hb _ _ l218).trans f204
        have f233 : w_7.cell? ⟨w.heap.size + 2, 1, none⟩ = some (.int .i64 s2b) := (below_cell hb _ _ l218).trans f205
        have f234 : w_7.cell? ⟨w.heap.size + 2, 2, none⟩ = some (.int .i64 s2c) := (below_cell hb _ _ l218).trans f206
        have f235 : w_7.cell? ⟨w.heap.size + 2, 3, none⟩ = some (.int .i64 s2e) := (below_cell hb _ _ l218).trans f207
        have f236 : w_7.cell? ⟨w.heap.size + 2, 4, none⟩ = some (.int .i64 s2f) := (below_cell hb _ _ l218).trans f208
        have f237 : w_7.cell? ⟨w.heap.size + 2, 5, none⟩ = some (.int .i64 s2t) := (below_cell hb _ _ l218).trans f209
        have f238 : w_7.cell? ⟨w.heap.size + 2, 6, none⟩ = some (.int .i64 s2q) := (below_cell hb _ _ l218).trans f210
        have f239 : w_7.cell? ⟨w_4.heap.size, 0, none⟩ = some (.slice aX0a mz0.length cX0a) := (below_cell hb _ _ l219).trans f211
        have f240 : w_7.cell? ⟨w_4.heap.size, 1, none⟩ = some (.slice aX0b mw0.length cX0b) := (below_cell hb _ _ l219).trans f212
        have f241 : w_7.cell? ⟨w_4.heap.size, 2, none⟩ = some (.slice aX0c mb0.length cX0c) := (below_cell hb _ _ l219).trans f213
        have f242 : w_7.cell? ⟨w_5.heap.size, 0, none⟩ = some (.string s1) := (below_cell hb _ _ l220).trans f214
        have f243 : w_7.cell? ⟨w_5.heap.size, 1, none⟩ = some (.slice aX1 len1 cX1) := (below_cell hb _ _ l220).trans f215
        have l244 : w.heap.size < w_7.heap.size := Nat.lt_of_lt_of_le l216 (hb).size
        have l245 : w.heap.size + 1 < w_7.heap.size := Nat.lt_of_lt_of_le l217 (hb).size
        have l246 : w.heap.size + 2 < w_7.heap.size := Nat.lt_of_lt_of_le l218 (hb).size
        have l247 : w_4.heap.size < w_7.heap.size := Nat.lt_of_lt_of_le l219 (hb).size
        have l248 : w_5.heap.size < w_7.heap.size := Nat.lt_of_lt_of_le l220 (hb).size
        clear f199 f200 f201 f202 f203 f204 f205 f206 f207 f208 f209 f210 f211 f212 f213 f214 f215 l216 l217 l218 l219 l220
        have HB249 := Lib.hid (below_of HB221.out hb HB221.out.size)
        have HR250 := Lib.hid (iv_kept hb HR222.out)
        clear HR222
        have HR251 := Lib.hid (modOwn_kept hb HR223.out)
        clear HR223
        have HR252 := Lib.hid (rv_kept hb HR224.out)
        clear HR224
        have HR253 := Lib.hid (cv_kept hb HR225.out)
        clear HR225
        have HR254 := Lib.hid (iv_kept hb HGR.out)
        clear HGR
        clear hb 
        go_wp2
        have hbd : Below w_7.heap.size w_7 w_7.drew := ⟨rfl, rfl, rfl, Nat.le_refl _, fun _ _ => rfl⟩
        have HIv := Lib.hid (modAt_kept HB249.out HZ0.out)
        have HXr := Lib.hid (modOwn_parts HML0.out.2.2.1 HML0.out.2.1 (lenS_row HML0.out.2.2.2.2) HML0.out.2.2.2.1 HR251.out)
        have HSK := Lib.hid (fun W (hW : Below w_7.heap.size w_7 W) => show W.cell? ⟨w.heap.size, 0, none⟩ = some (x0a) ∧ W.cell? ⟨w.heap.size, 1, none⟩ = some (x0b) ∧ W.cell? ⟨w.heap.size, 2, none⟩ = some (x0c) ∧ W.cell? ⟨w_4.heap.size, 0, none⟩ = some (.slice aX0a mz0.length cX0a) ∧ W.cell? ⟨w_4.heap.size, 1, none⟩ = some (.slice aX0b mw0.length cX0b) ∧ W.cell? ⟨w_4.heap.size, 2, none⟩ = some (.slice aX0c mb0.length cX0c) ∧ Below w_7.heap.size w_7 W from ⟨(below_cell hW _ _ l244).trans f227, (below_cell hW _ _ l244).trans f228, (below_cell hW _ _ l244).trans f229, (below_cell hW _ _ l247).trans f239, (below_cell hW _ _ l247).trans f240, (below_cell hW _ _ l247).trans f241, hW⟩)
        go_region_held3 (fun W => W.cell? ⟨w.heap.size, 0, none⟩ = some (x0a) ∧ W.cell? ⟨w.heap.size, 1, none⟩ = some (x0b) ∧ W.cell? ⟨w.heap.size, 2, none⟩ = some (x0c) ∧ W.cell? ⟨w_4.heap.size, 0, none⟩ = some (.slice aX0a mz0.length cX0a) ∧ W.cell? ⟨w_4.heap.size, 1, none⟩ = some (.slice aX0b mw0.length cX0b) ∧ W.cell? ⟨w_4.heap.size, 2, none⟩ = some (.slice aX0c mb0.length cX0c) ∧ Below w_7.heap.size w_7 W)
          (first | exact HSK.out _ hbd | exact HSK.out _ hbr0 | exact HSK.out _ hbrf | assumption)
          (first
            | (go_at_call 11; refine (toModX_any x0a x0b x0c mz0 mw0 mb0 _ (modAt_kept hbd HIv.out).1 (modAt_kept hbd HIv.out).2.1 (modAt_kept hbd HIv.out).2.2).mono ?_; rintro e wq1000 ⟨v7a, v7b, v7c, rfl, ho7, hbq0⟩; have hbr0 := below_of hbd hbq0 hbd.size)
            | (go_at_call 17; refine (eqMod_any _ _ _ v7a v7b v7c mz0 mw0 mb0 _ (modAt_kept hbr0 HXr.out).1 (modAt_kept hbr0 HXr.out).2.1 (modAt_kept hbr0 HXr.out).2.2 (modOwn_parts HML0.out.2.2.1 HML0.out.2.1 (lenS_row HML0.out.2.2.2.2) HML0.out.2.2.2.1 ho7).1 (modOwn_parts HML0.out.2.2.1 HML0.out.2.1 (lenS_row HML0.out.2.2.2.2) HML0.out.2.2.2.1 ho7).2.1 (modOwn_parts HML0.out.2.2.1 HML0.out.2.1 (lenS_row HML0.out.2.2.2.2) HML0.out.2.2.2.1 ho7).2.2).mono ?_; rintro e wq2000 ⟨rfl, hbf⟩; have hbrf := below_of hbr0 hbf hbr0.size))
        have hb := hbrf
        have S255 : w_7.heap.size ≤ wq2000.heap.size := (hb).size
        have f256 : wq2000.cell? ⟨w.heap.size, 0, none⟩ = some (x0a) := (below_cell hb _ _ l244).trans f227
        have f257 : wq2000.cell? ⟨w.heap.size, 1, none⟩ = some (x0b) := (below_cell hb _ _ l244).trans f228
        have f258 : wq2000.cell? ⟨w.heap.size, 2, none⟩ = some (x0c) := (below_cell hb _ _ l244).trans f229
        have f259 : wq2000.cell? ⟨w.heap.size + 1, 0, none⟩ = some (.string s1) := (below_cell hb _ _ l245).trans f230
        have f260 : wq2000.cell? ⟨w.heap.size + 1, 1, none⟩ = some (v1) := (below_cell hb _ _ l245).trans f231
        have f261 : wq2000.cell? ⟨w.heap.size + 2, 0, none⟩ = some (.int .i64 s2a) := (below_cell hb _ _ l246).trans f232
        have f262 : wq2000.cell? ⟨w.heap.size + 2, 1, none⟩ = some (.int .i64 s2b) := (below_cell hb _ _ l246).trans f233
        have f263 : wq2000.cell? ⟨w.heap.size + 2, 2, none⟩ = some (.int .i64 s2c) := (below_cell hb _ _ l246).trans f234
        have f264 : wq2000.cell? ⟨w.heap.size + 2, 3, none⟩ = some (.int .i64 s2e) := (below_cell hb _ _ l246).trans f235
        have f265 : wq2000.cell? ⟨w.heap.size + 2, 4, none⟩ = some (.int .i64 s2f) := (below_cell hb _ _ l246).trans f236
        have f266 : wq2000.cell? ⟨w.heap.size + 2, 5, none⟩ = some (.int .i64 s2t) := (below_cell hb _ _ l246).trans f237
        have f267 : wq2000.cell? ⟨w.heap.size + 2, 6, none⟩ = some (.int .i64 s2q) := (below_cell hb _ _ l246).trans f238
        have f268 : wq2000.cell? ⟨w_4.heap.size, 0, none⟩ = some (.slice aX0a mz0.length cX0a) := (below_cell hb _ _ l247).trans f239
        have f269 : wq2000.cell? ⟨w_4.heap.size, 1, none⟩ = some (.slice aX0b mw0.length cX0b) := (below_cell hb _ _ l247).trans f240
        have f270 : wq2000.cell? ⟨w_4.heap.size, 2, none⟩ = some (.slice aX0c mb0.length cX0c) := (below_cell hb _ _ l247).trans f241
        have f271 : wq2000.cell? ⟨w_5.heap.size, 0, none⟩ = some (.string s1) := (below_cell hb _ _ l248).trans f242
        have f272 : wq2000.cell? ⟨w_5.heap.size, 1, none⟩ = some (.slice aX1 len1 cX1) := (below_cell hb _ _ l248).trans f243
        have l273 : w.heap.size < wq2000.heap.size := Nat.lt_of_lt_of_le l244 (hb).size
        have l274 : w.heap.size + 1 < wq2000.heap.size := Nat.lt_of_lt_of_le l245 (hb).size
        have l275 : w.heap.size + 2 < wq2000.heap.size := Nat.lt_of_lt_of_le l246 (hb).size
        have l276 : w_4.heap.size < wq2000.heap.size := Nat.lt_of_lt_of_le l247 (hb).size
        have l277 : w_5.heap.size < wq2000.heap.size := Nat.lt_of_lt_of_le l248 (hb).size
        clear f227 f228 f229 f230 f231 f232 f233 f234 f235 f236 f237 f238 f239 f240 f241 f242 f243 l244 l245 l246 l247 l248
        have HB278 := Lib.hid (below_of HB249.out hb HB249.out.size)
        have HR279 := Lib.hid (iv_kept hb HR250.out)
        clear HR250
        have HR280 := Lib.hid (modOwn_kept hb HR251.out)
        clear HR251
        have HR281 := Lib.hid (rv_kept hb HR252.out)
        clear HR252
        have HR282 := Lib.hid (cv_kept hb HR253.out)
        clear HR253
        have HR283 := Lib.hid (iv_kept hb HR254.out)
        clear HR254
        clear hb hbd hbr0 hbrf hbq0 hbf ho7 HIv HXr HSK
        go_wp2
        have hbd : Below wq2000.heap.size wq2000 wq2000.drew := ⟨rfl, rfl, rfl, Nat.le_refl _, fun _ _ => rfl⟩
        have HIv := Lib.hid (rings_kept HB278.out HZ1.out)
        have HXr := Lib.hid (rv_rings HZL1.out HR281.out)
        have HSK := Lib.hid (fun W (hW : Below wq2000.heap.size wq2000 W) => show W.cell? ⟨w.heap.size + 1, 0, none⟩ = some (.string s1) ∧ W.cell? ⟨w.heap.size + 1, 1, none⟩ = some (v1) ∧ W.cell? ⟨w_5.heap.size, 0, none⟩ = some (.string s1) ∧ W.cell? ⟨w_5.heap.size, 1, none⟩ = some (.slice aX1 len1 cX1) ∧ Below wq2000.heap.size wq2000 W from ⟨(below_cell hW _ _ l274).trans f259, (below_cell hW _ _ l274).trans f260, (below_cell hW _ _ l277).trans f271, (below_cell hW _ _ l277).trans f272, hW⟩)
        go_region_held3 (fun W => W.cell? ⟨w.heap.size + 1, 0, none⟩ = some (.string s1) ∧ W.cell? ⟨w.heap.size + 1, 1, none⟩ = some (v1) ∧ W.cell? ⟨w_5.heap.size, 0, none⟩ = some (.string s1) ∧ W.cell? ⟨w_5.heap.size, 1, none⟩ = some (.slice aX1 len1 cX1) ∧ Below wq2000.heap.size wq2000 W)
          (first | exact HSK.out _ hbd | exact HSK.out _ hbr0 | exact HSK.out _ hbrf | assumption)
          (first
            | (go_at_call 12; refine (toProf_any s1 v1 zs1 _ (rings_kept hbd HIv.out)).mono ?_; rintro e wq1001 ⟨v7, rfl, ho7, hbq0⟩; have hbr0 := below_of hbd hbq0 hbd.size)
            | (go_at_call 18; refine (eqProf_any s1 _ v7 zs1 _ (rings_kept hbr0 HXr.out) (ownRAt_rings HZL1.out ho7)).mono ?_; rintro e wq2001 ⟨rfl, hbf⟩; have hbrf := below_of hbr0 hbf hbr0.size))
        have hb := hbrf
        have S284 : wq2000.heap.size ≤ wq2001.heap.size := (hb).size
        have f285 : wq2001.cell? ⟨w.heap.size, 0, none⟩ = some (x0a) := (below_cell hb _ _ l273).trans f256
        have f286 : wq2001.cell? ⟨w.heap.size, 1, none⟩ = some (x0b) := (below_cell hb _ _ l273).trans f257
        have f287 : wq2001.cell? ⟨w.heap.size, 2, none⟩ = some (x0c) := (below_cell hb _ _ l273).trans f258
        have f288 : wq2001.cell? ⟨w.heap.size + 1, 0, none⟩ = some (.string s1) := (below_cell hb _ _ l274).trans f259
        have f289 : wq2001.cell? ⟨w.heap.size + 1, 1, none⟩ = some (v1) := (below_cell hb _ _ l274).trans f260
        have f290 : wq2001.cell? ⟨w.heap.size + 2, 0, none⟩ = some (.int .i64 s2a) := (below_cell hb _ _ l275).trans f261
        have f291 : wq2001.cell? ⟨w.heap.size + 2, 1, none⟩ = some (.int .i64 s2b) := (below_cell hb _ _ l275).trans f262
        have f292 : wq2001.cell? ⟨w.heap.size + 2, 2, none⟩ = some (.int .i64 s2c) := (below_cell hb _ _ l275).trans f263
        have f293 : wq2001.cell? ⟨w.heap.size + 2, 3, none⟩ = some (.int .i64 s2e) := (below_cell hb _ _ l275).trans f264
        have f294 : wq2001.cell? ⟨w.heap.size + 2, 4, none⟩ = some (.int .i64 s2f) := (below_cell hb _ _ l275).trans f265
        have f295 : wq2001.cell? ⟨w.heap.size + 2, 5, none⟩ = some (.int .i64 s2t) := (below_cell hb _ _ l275).trans f266
        have f296 : wq2001.cell? ⟨w.heap.size + 2, 6, none⟩ = some (.int .i64 s2q) := (below_cell hb _ _ l275).trans f267
        have f297 : wq2001.cell? ⟨w_4.heap.size, 0, none⟩ = some (.slice aX0a mz0.length cX0a) := (below_cell hb _ _ l276).trans f268
        have f298 : wq2001.cell? ⟨w_4.heap.size, 1, none⟩ = some (.slice aX0b mw0.length cX0b) := (below_cell hb _ _ l276).trans f269
        have f299 : wq2001.cell? ⟨w_4.heap.size, 2, none⟩ = some (.slice aX0c mb0.length cX0c) := (below_cell hb _ _ l276).trans f270
        have f300 : wq2001.cell? ⟨w_5.heap.size, 0, none⟩ = some (.string s1) := (below_cell hb _ _ l277).trans f271
        have f301 : wq2001.cell? ⟨w_5.heap.size, 1, none⟩ = some (.slice aX1 len1 cX1) := (below_cell hb _ _ l277).trans f272
        have l302 : w.heap.size < wq2001.heap.size := Nat.lt_of_lt_of_le l273 (hb).size
        have l303 : w.heap.size + 1 < wq2001.heap.size := Nat.lt_of_lt_of_le l274 (hb).size
        have l304 : w.heap.size + 2 < wq2001.heap.size := Nat.lt_of_lt_of_le l275 (hb).size
        have l305 : w_4.heap.size < wq2001.heap.size := Nat.lt_of_lt_of_le l276 (hb).size
        have l306 : w_5.heap.size < wq2001.heap.size := Nat.lt_of_lt_of_le l277 (hb).size
        clear f256 f257 f258 f259 f260 f261 f262 f263 f264 f265 f266 f267 f268 f269 f270 f271 f272 l273 l274 l275 l276 l277
        have HB307 := Lib.hid (below_of HB278.out hb HB278.out.size)
        have HR308 := Lib.hid (iv_kept hb HR279.out)
        clear HR279
        have HR309 := Lib.hid (modOwn_kept hb HR280.out)
        clear HR280
        have HR310 := Lib.hid (rv_kept hb HR281.out)
        clear HR281
        have HR311 := Lib.hid (cv_kept hb HR282.out)
        clear HR282
        have HR312 := Lib.hid (iv_kept hb HR283.out)
        clear HR283
        clear hb hbd hbr0 hbrf hbq0 hbf ho7 HIv HXr HSK
        go_wp2_with fail
        refine (toCuts_any z3 _ _ (cuts_kept HB307.out HY3.out)).mono ?_
        rintro e w_8 ⟨vt, rfl, ho, hb⟩
        have HT := Lib.hid (own_cuts HYL3.out ho)
        have S313 : wq2001.heap.size ≤ w_8.heap.size := (hb).size
        have f314 : w_8.cell? ⟨w.heap.size, 0, none⟩ = some (x0a) := (below_cell hb _ _ l302).trans f285
        have f315 : w_8.cell? ⟨w.heap.size, 1, none⟩ = some (x0b) := (below_cell hb _ _ l302).trans f286
        have f316 : w_8.cell? ⟨w.heap.size, 2, none⟩ = some (x0c) := (below_cell hb _ _ l302).trans f287
        have f317 : w_8.cell? ⟨w.heap.size + 1, 0, none⟩ = some (.string s1) := (below_cell hb _ _ l303).trans f288
        have f318 : w_8.cell? ⟨w.heap.size + 1, 1, none⟩ = some (v1) := (below_cell hb _ _ l303).trans f289
        have f319 : w_8.cell? ⟨w.heap.size + 2, 0, none⟩ = some (.int .i64 s2a) := (below_cell hb _ _ l304).trans f290
        have f320 : w_8.cell? ⟨w.heap.size + 2, 1, none⟩ = some (.int .i64 s2b) := (below_cell hb _ _ l304).trans f291
        have f321 : w_8.cell? ⟨w.heap.size + 2, 2, none⟩ = some (.int .i64 s2c) := (below_cell hb _ _ l304).trans f292
        have f322 : w_8.cell? ⟨w.heap.size + 2, 3, none⟩ = some (.int .i64 s2e) := (below_cell hb _ _ l304).trans f293
        have f323 : w_8.cell? ⟨w.heap.size + 2, 4, none⟩ = some (.int .i64 s2f) := (below_cell hb _ _ l304).trans f294
        have f324 : w_8.cell? ⟨w.heap.size + 2, 5, none⟩ = some (.int .i64 s2t) := (below_cell hb _ _ l304).trans f295
        have f325 : w_8.cell? ⟨w.heap.size + 2, 6, none⟩ = some (.int .i64 s2q) := (below_cell hb _ _ l304).trans f296
        have f326 : w_8.cell? ⟨w_4.heap.size, 0, none⟩ = some (.slice aX0a mz0.length cX0a) := (below_cell hb _ _ l305).trans f297
        have f327 : w_8.cell? ⟨w_4.heap.size, 1, none⟩ = some (.slice aX0b mw0.length cX0b) := (below_cell hb _ _ l305).trans f298
        have f328 : w_8.cell? ⟨w_4.heap.size, 2, none⟩ = some (.slice aX0c mb0.length cX0c) := (below_cell hb _ _ l305).trans f299
        have f329 : w_8.cell? ⟨w_5.heap.size, 0, none⟩ = some (.string s1) := (below_cell hb _ _ l306).trans f300
        have f330 : w_8.cell? ⟨w_5.heap.size, 1, none⟩ = some (.slice aX1 len1 cX1) := (below_cell hb _ _ l306).trans f301
        have l331 : w.heap.size < w_8.heap.size := Nat.lt_of_lt_of_le l302 (hb).size
        have l332 : w.heap.size + 1 < w_8.heap.size := Nat.lt_of_lt_of_le l303 (hb).size
        have l333 : w.heap.size + 2 < w_8.heap.size := Nat.lt_of_lt_of_le l304 (hb).size
        have l334 : w_4.heap.size < w_8.heap.size := Nat.lt_of_lt_of_le l305 (hb).size
        have l335 : w_5.heap.size < w_8.heap.size := Nat.lt_of_lt_of_le l306 (hb).size
        clear f285 f286 f287 f288 f289 f290 f291 f292 f293 f294 f295 f296 f297 f298 f299 f300 f301 l302 l303 l304 l305 l306
        have HB336 := Lib.hid (below_of HB307.out hb HB307.out.size)
        have HR337 := Lib.hid (iv_kept hb HR308.out)
        clear HR308
        have HR338 := Lib.hid (modOwn_kept hb HR309.out)
        clear HR309
        have HR339 := Lib.hid (rv_kept hb HR310.out)
        clear HR310
        have HR340 := Lib.hid (cv_kept hb HR311.out)
        clear HR311
        have HR341 := Lib.hid (iv_kept hb HR312.out)
        clear HR312
        clear hb ho
        go_wp2_with fail
        refine (eqCuts_at z3 _ _ _ (cv_at HYL3.out HR340.out) HT.out).mono ?_
        rintro e w_9 ⟨rfl, hb⟩
        have S342 : w_8.heap.size ≤ w_9.heap.size := (hb).size
        have f343 : w_9.cell? ⟨w.heap.size, 0, none⟩ = some (x0a) := (below_cell hb _ _ l331).trans f314
        have f344 : w_9.cell? ⟨w.heap.size, 1, none⟩ = some (x0b) := (below_cell hb _ _ l331).trans f315
        have f345 : w_9.cell? ⟨w.heap.size, 2, none⟩ = some (x0c) := (below_cell hb _ _ l331).trans f316
        have f346 : w_9.cell? ⟨w.heap.size + 1, 0, none⟩ = some (.string s1) := (below_cell hb _ _ l332).trans f317
        have f347 : w_9.cell? ⟨w.heap.size + 1, 1, none⟩ = some (v1) := (below_cell hb _ _ l332).trans f318
        have f348 : w_9.cell? ⟨w.heap.size + 2, 0, none⟩ = some (.int .i64 s2a) := (below_cell hb _ _ l333).trans f319
        have f349 : w_9.cell? ⟨w.heap.size + 2, 1, none⟩ = some (.int .i64 s2b) := (below_cell hb _ _ l333).trans f320
        have f350 : w_9.cell? ⟨w.heap.size + 2, 2, none⟩ = some (.int .i64 s2c) := (below_cell hb _ _ l333).trans f321
        have f351 : w_9.cell? ⟨w.heap.size + 2, 3, none⟩ = some (.int .i64 s2e) := (below_cell hb _ _ l333).trans f322
        have f352 : w_9.cell? ⟨w.heap.size + 2, 4, none⟩ = some (.int .i64 s2f) := (below_cell hb _ _ l333).trans f323
        have f353 : w_9.cell? ⟨w.heap.size + 2, 5, none⟩ = some (.int .i64 s2t) := (below_cell hb _ _ l333).trans f324
        have f354 : w_9.cell? ⟨w.heap.size + 2, 6, none⟩ = some (.int .i64 s2q) := (below_cell hb _ _ l333).trans f325
        have f355 : w_9.cell? ⟨w_4.heap.size, 0, none⟩ = some (.slice aX0a mz0.length cX0a) := (below_cell hb _ _ l334).trans f326
        have f356 : w_9.cell? ⟨w_4.heap.size, 1, none⟩ = some (.slice aX0b mw0.length cX0b) := (below_cell hb _ _ l334).trans f327
        have f357 : w_9.cell? ⟨w_4.heap.size, 2, none⟩ = some (.slice aX0c mb0.length cX0c) := (below_cell hb _ _ l334).trans f328
        have f358 : w_9.cell? ⟨w_5.heap.size, 0, none⟩ = some (.string s1) := (below_cell hb _ _ l335).trans f329
        have f359 : w_9.cell? ⟨w_5.heap.size, 1, none⟩ = some (.slice aX1 len1 cX1) := (below_cell hb _ _ l335).trans f330
        have l360 : w.heap.size < w_9.heap.size := Nat.lt_of_lt_of_le l331 (hb).size
        have l361 : w.heap.size + 1 < w_9.heap.size := Nat.lt_of_lt_of_le l332 (hb).size
        have l362 : w.heap.size + 2 < w_9.heap.size := Nat.lt_of_lt_of_le l333 (hb).size
        have l363 : w_4.heap.size < w_9.heap.size := Nat.lt_of_lt_of_le l334 (hb).size
        have l364 : w_5.heap.size < w_9.heap.size := Nat.lt_of_lt_of_le l335 (hb).size
        clear f314 f315 f316 f317 f318 f319 f320 f321 f322 f323 f324 f325 f326 f327 f328 f329 f330 l331 l332 l333 l334 l335
        have HB365 := Lib.hid (below_of HB336.out hb HB336.out.size)
        have HR366 := Lib.hid (iv_kept hb HR337.out)
        clear HR337
        have HR367 := Lib.hid (modOwn_kept hb HR338.out)
        clear HR338
        have HR368 := Lib.hid (rv_kept hb HR339.out)
        clear HR339
        have HR369 := Lib.hid (cv_kept hb HR340.out)
        clear HR340
        have HR370 := Lib.hid (iv_kept hb HR341.out)
        clear HR341
        clear hb HT
        go_wp2_with fail
        refine (markMod_any (1) (by omega) _ _ _ mz0 mb0 mw0 _ _ _ HML0.out.1 HML0.out.2.1 HR367.out).mono ?_
        rintro e w_10 ⟨rfl, hv, hgm⟩
        have S371 : w_9.heap.size ≤ w_10.heap.size := hgm.size
        have f372 : w_10.cell? ⟨w.heap.size, 0, none⟩ = some (x0a) := (mk_cell hgm _ _ l360 (by omega)).trans f343
        have f373 : w_10.cell? ⟨w.heap.size, 1, none⟩ = some (x0b) := (mk_cell hgm _ _ l360 (by omega)).trans f344
        have f374 : w_10.cell? ⟨w.heap.size, 2, none⟩ = some (x0c) := (mk_cell hgm _ _ l360 (by omega)).trans f345
        have f375 : w_10.cell? ⟨w.heap.size + 1, 0, none⟩ = some (.string s1) := (mk_cell hgm _ _ l361 (by omega)).trans f346
        have f376 : w_10.cell? ⟨w.heap.size + 1, 1, none⟩ = some (v1) := (mk_cell hgm _ _ l361 (by omega)).trans f347
        have f377 : w_10.cell? ⟨w.heap.size + 2, 0, none⟩ = some (.int .i64 s2a) := (mk_cell hgm _ _ l362 (by omega)).trans f348
        have f378 : w_10.cell? ⟨w.heap.size + 2, 1, none⟩ = some (.int .i64 s2b) := (mk_cell hgm _ _ l362 (by omega)).trans f349
        have f379 : w_10.cell? ⟨w.heap.size + 2, 2, none⟩ = some (.int .i64 s2c) := (mk_cell hgm _ _ l362 (by omega)).trans f350
        have f380 : w_10.cell? ⟨w.heap.size + 2, 3, none⟩ = some (.int .i64 s2e) := (mk_cell hgm _ _ l362 (by omega)).trans f351
        have f381 : w_10.cell? ⟨w.heap.size + 2, 4, none⟩ = some (.int .i64 s2f) := (mk_cell hgm _ _ l362 (by omega)).trans f352
        have f382 : w_10.cell? ⟨w.heap.size + 2, 5, none⟩ = some (.int .i64 s2t) := (mk_cell hgm _ _ l362 (by omega)).trans f353
        have f383 : w_10.cell? ⟨w.heap.size + 2, 6, none⟩ = some (.int .i64 s2q) := (mk_cell hgm _ _ l362 (by omega)).trans f354
        have f384 : w_10.cell? ⟨w_4.heap.size, 0, none⟩ = some (.slice aX0a mz0.length cX0a) := (mk_cell hgm _ _ l363 (by omega)).trans f355
        have f385 : w_10.cell? ⟨w_4.heap.size, 1, none⟩ = some (.slice aX0b mw0.length cX0b) := (mk_cell hgm _ _ l363 (by omega)).trans f356
        have f386 : w_10.cell? ⟨w_4.heap.size, 2, none⟩ = some (.slice aX0c mb0.length cX0c) := (mk_cell hgm _ _ l363 (by omega)).trans f357
        have f387 : w_10.cell? ⟨w_5.heap.size, 0, none⟩ = some (.string s1) := (mk_cell hgm _ _ l364 (by omega)).trans f358
        have f388 : w_10.cell? ⟨w_5.heap.size, 1, none⟩ = some (.slice aX1 len1 cX1) := (mk_cell hgm _ _ l364 (by omega)).trans f359
        have l389 : w.heap.size < w_10.heap.size := Nat.lt_of_lt_of_le l360 hgm.size
        have l390 : w.heap.size + 1 < w_10.heap.size := Nat.lt_of_lt_of_le l361 hgm.size
        have l391 : w.heap.size + 2 < w_10.heap.size := Nat.lt_of_lt_of_le l362 hgm.size
        have l392 : w_4.heap.size < w_10.heap.size := Nat.lt_of_lt_of_le l363 hgm.size
        have l393 : w_5.heap.size < w_10.heap.size := Nat.lt_of_lt_of_le l364 hgm.size
        clear f343 f344 f345 f346 f347 f348 f349 f350 f351 f352 f353 f354 f355 f356 f357 f358 f359 l360 l361 l362 l363 l364
        have HR394 := Lib.hid (iv_mk hgm HR366.out HWI.out (by omega))
        clear HR366
        have HR395 := Lib.hid (rv_mk hgm HR368.out HX1I.out (by omega))
        clear HR368
        have HR396 := Lib.hid (cv_mk hgm HR369.out HX3I.out (by omega))
        clear HR369
        have HR397 := Lib.hid (iv_mk hgm HR370.out HGI.out (by omega))
        clear HR370
        have HR398 := Lib.hid hv
        clear HR367
        have HB399 := Lib.hid (HB365.out.trans (mk_below hgm HB365.out.size (by omega)))
        clear hv hgm
        go_wp2_with fail
        refine (markProfM_any (1 + (mz0.length : Int) + (lenS mw0 mw0.length : Nat) + (mb0.length : Int)) (by omega) s1 _ zs1 _ _ HZL1.out HR395.out).mono ?_
        rintro e w_11 ⟨rfl, hv, hg⟩
        rw [HNA1.out] at hv ⊢
        have hgm := mk_of_grown (l := wb116.heap.size) (u := w_5.heap.size) hg HX1I.out
        have S400 : w_10.heap.size ≤ w_11.heap.size := hgm.size
        have f401 : w_11.cell? ⟨w.heap.size, 0, none⟩ = some (x0a) := (mk_cell hgm _ _ l389 (by omega)).trans f372
        have f402 : w_11.cell? ⟨w.heap.size, 1, none⟩ = some (x0b) := (mk_cell hgm _ _ l389 (by omega)).trans f373
        have f403 : w_11.cell? ⟨w.heap.size, 2, none⟩ = some (x0c) := (mk_cell hgm _ _ l389 (by omega)).trans f374
        have f404 : w_11.cell? ⟨w.heap.size + 1, 0, none⟩ = some (.string s1) := (mk_cell hgm _ _ l390 (by omega)).trans f375
        have f405 : w_11.cell? ⟨w.heap.size + 1, 1, none⟩ = some (v1) := (mk_cell hgm _ _ l390 (by omega)).trans f376
        have f406 : w_11.cell? ⟨w.heap.size + 2, 0, none⟩ = some (.int .i64 s2a) := (mk_cell hgm _ _ l391 (by omega)).trans f377
        have f407 : w_11.cell? ⟨w.heap.size + 2, 1, none⟩ = some (.int .i64 s2b) := (mk_cell hgm _ _ l391 (by omega)).trans f378
        have f408 : w_11.cell? ⟨w.heap.size + 2, 2, none⟩ = some (.int .i64 s2c) := (mk_cell hgm _ _ l391 (by omega)).trans f379
        have f409 : w_11.cell? ⟨w.heap.size + 2, 3, none⟩ = some (.int .i64 s2e) := (mk_cell hgm _ _ l391 (by omega)).trans f380
        have f410 : w_11.cell? ⟨w.heap.size + 2, 4, none⟩ = some (.int .i64 s2f) := (mk_cell hgm _ _ l391 (by omega)).trans f381
        have f411 : w_11.cell? ⟨w.heap.size + 2, 5, none⟩ = some (.int .i64 s2t) := (mk_cell hgm _ _ l391 (by omega)).trans f382
        have f412 : w_11.cell? ⟨w.heap.size + 2, 6, none⟩ = some (.int .i64 s2q) := (mk_cell hgm _ _ l391 (by omega)).trans f383
        have f413 : w_11.cell? ⟨w_4.heap.size, 0, none⟩ = some (.slice aX0a mz0.length cX0a) := (mk_cell hgm _ _ l392 (by omega)).trans f384
        have f414 : w_11.cell? ⟨w_4.heap.size, 1, none⟩ = some (.slice aX0b mw0.length cX0b) := (mk_cell hgm _ _ l392 (by omega)).trans f385
        have f415 : w_11.cell? ⟨w_4.heap.size, 2, none⟩ = some (.slice aX0c mb0.length cX0c) := (mk_cell hgm _ _ l392 (by omega)).trans f386
        have f416 : w_11.cell? ⟨w_5.heap.size, 0, none⟩ = some (.string s1) := (mk_cell hgm _ _ l393 (by omega)).trans f387
        have f417 : w_11.cell? ⟨w_5.heap.size, 1, none⟩ = some (.slice aX1 len1 cX1) := (mk_cell hgm _ _ l393 (by omega)).trans f388
        have l418 : w.heap.size < w_11.heap.size := Nat.lt_of_lt_of_le l389 hgm.size
        have l419 : w.heap.size + 1 < w_11.heap.size := Nat.lt_of_lt_of_le l390 hgm.size
        have l420 : w.heap.size + 2 < w_11.heap.size := Nat.lt_of_lt_of_le l391 hgm.size
        have l421 : w_4.heap.size < w_11.heap.size := Nat.lt_of_lt_of_le l392 hgm.size
        have l422 : w_5.heap.size < w_11.heap.size := Nat.lt_of_lt_of_le l393 hgm.size
        clear f372 f373 f374 f375 f376 f377 f378 f379 f380 f381 f382 f383 f384 f385 f386 f387 f388 l389 l390 l391 l392 l393
        have HR423 := Lib.hid (iv_mk hgm HR394.out HWI.out (by omega))
        clear HR394
        have HR424 := Lib.hid (cv_mk hgm HR396.out HX3I.out (by omega))
        clear HR396
        have HR425 := Lib.hid (iv_mk hgm HR397.out HGI.out (by omega))
        clear HR397
        have HR426 := Lib.hid hv
        clear HR395
        have HB427 := Lib.hid (HB399.out.trans (mk_below hgm HB399.out.size (by omega)))
        clear hv hgm hg
        go_wp2_with fail
        refine (markCv_any (1 + (mz0.length : Int) + (lenS mw0 mw0.length : Nat) + (mb0.length : Int) + 3 * (len1 : Int)) (by omega) _ z3 _ _ HYL3.out HR424.out).mono ?_
        rintro e w_12 ⟨rfl, hv, hg⟩
        rw [HZN3.out] at hv ⊢
        have hgm := mk_of_grown (l := wb167.heap.size) (u := w_6.heap.size) hg HX3I.out
        have S428 : w_11.heap.size ≤ w_12.heap.size := hgm.size
        have f429 : w_12.cell? ⟨w.heap.size, 0, none⟩ = some (x0a) := (mk_cell hgm _ _ l418 (by omega)).trans f401
        have f430 : w_12.cell? ⟨w.heap.size, 1, none⟩ = some (x0b) := (mk_cell hgm _ _ l418 (by omega)).trans f402
        have f431 : w_12.cell? ⟨w.heap.size, 2, none⟩ = some (x0c) := (mk_cell hgm _ _ l418 (by omega)).trans f403
        have f432 : w_12.cell? ⟨w.heap.size + 1, 0, none⟩ = some (.string s1) := (mk_cell hgm _ _ l419 (by omega)).trans f404
        have f433 : w_12.cell? ⟨w.heap.size + 1, 1, none⟩ = some (v1) := (mk_cell hgm _ _ l419 (by omega)).trans f405
        have f434 : w_12.cell? ⟨w.heap.size + 2, 0, none⟩ = some (.int .i64 s2a) := (mk_cell hgm _ _ l420 (by omega)).trans f406
        have f435 : w_12.cell? ⟨w.heap.size + 2, 1, none⟩ = some (.int .i64 s2b) := (mk_cell hgm _ _ l420 (by omega)).trans f407
        have f436 : w_12.cell? ⟨w.heap.size + 2, 2, none⟩ = some (.int .i64 s2c) := (mk_cell hgm _ _ l420 (by omega)).trans f408
        have f437 : w_12.cell? ⟨w.heap.size + 2, 3, none⟩ = some (.int .i64 s2e) := (mk_cell hgm _ _ l420 (by omega)).trans f409
        have f438 : w_12.cell? ⟨w.heap.size + 2, 4, none⟩ = some (.int .i64 s2f) := (mk_cell hgm _ _ l420 (by omega)).trans f410
        have f439 : w_12.cell? ⟨w.heap.size + 2, 5, none⟩ = some (.int .i64 s2t) := (mk_cell hgm _ _ l420 (by omega)).trans f411
        have f440 : w_12.cell? ⟨w.heap.size + 2, 6, none⟩ = some (.int .i64 s2q) := (mk_cell hgm _ _ l420 (by omega)).trans f412
        have f441 : w_12.cell? ⟨w_4.heap.size, 0, none⟩ = some (.slice aX0a mz0.length cX0a) := (mk_cell hgm _ _ l421 (by omega)).trans f413
        have f442 : w_12.cell? ⟨w_4.heap.size, 1, none⟩ = some (.slice aX0b mw0.length cX0b) := (mk_cell hgm _ _ l421 (by omega)).trans f414
        have f443 : w_12.cell? ⟨w_4.heap.size, 2, none⟩ = some (.slice aX0c mb0.length cX0c) := (mk_cell hgm _ _ l421 (by omega)).trans f415
        have f444 : w_12.cell? ⟨w_5.heap.size, 0, none⟩ = some (.string s1) := (mk_cell hgm _ _ l422 (by omega)).trans f416
        have f445 : w_12.cell? ⟨w_5.heap.size, 1, none⟩ = some (.slice aX1 len1 cX1) := (mk_cell hgm _ _ l422 (by omega)).trans f417
        have l446 : w.heap.size < w_12.heap.size := Nat.lt_of_lt_of_le l418 hgm.size
        have l447 : w.heap.size + 1 < w_12.heap.size := Nat.lt_of_lt_of_le l419 hgm.size
        have l448 : w.heap.size + 2 < w_12.heap.size := Nat.lt_of_lt_of_le l420 hgm.size
        have l449 : w_4.heap.size < w_12.heap.size := Nat.lt_of_lt_of_le l421 hgm.size
        have l450 : w_5.heap.size < w_12.heap.size := Nat.lt_of_lt_of_le l422 hgm.size
        clear f401 f402 f403 f404 f405 f406 f407 f408 f409 f410 f411 f412 f413 f414 f415 f416 f417 l418 l419 l420 l421 l422
        have HR451 := Lib.hid (iv_mk hgm HR423.out HWI.out (by omega))
        clear HR423
        have HR452 := Lib.hid (iv_mk hgm HR425.out HGI.out (by omega))
        clear HR425
        have HR453 := Lib.hid hv
        clear HR424
        have HB454 := Lib.hid (HB427.out.trans (mk_below hgm HB427.out.size (by omega)))
        clear hv hgm hg
        go_wp2_with fail
        refine (eqInts_at L1 _ _ _ (iv_ints HLL.out HR452.out) (iv_ints HLL.out HR451.out)).mono ?_
        rintro e w_13 ⟨rfl, hb⟩
        have S455 : w_12.heap.size ≤ w_13.heap.size := (hb).size
        have f456 : w_13.cell? ⟨w.heap.size, 0, none⟩ = some (x0a) := (below_cell hb _ _ l446).trans f429
        have f457 : w_13.cell? ⟨w.heap.size, 1, none⟩ = some (x0b) := (below_cell hb _ _ l446).trans f430
        have f458 : w_13.cell? ⟨w.heap.size, 2, none⟩ = some (x0c) := (below_cell hb _ _ l446).trans f431
        have f459 : w_13.cell? ⟨w.heap.size + 1, 0, none⟩ = some (.string s1) := (below_cell hb _ _ l447).trans f432
        have f460 : w_13.cell? ⟨w.heap.size + 1, 1, none⟩ = some (v1) := (below_cell hb _ _ l447).trans f433
        have f461 : w_13.cell? ⟨w.heap.size + 2, 0, none⟩ = some (.int .i64 s2a) := (below_cell hb _ _ l448).trans f434
        have f462 : w_13.cell? ⟨w.heap.size + 2, 1, none⟩ = some (.int .i64 s2b) := (below_cell hb _ _ l448).trans f435
        have f463 : w_13.cell? ⟨w.heap.size + 2, 2, none⟩ = some (.int .i64 s2c) := (below_cell hb _ _ l448).trans f436
        have f464 : w_13.cell? ⟨w.heap.size + 2, 3, none⟩ = some (.int .i64 s2e) := (below_cell hb _ _ l448).trans f437
        have f465 : w_13.cell? ⟨w.heap.size + 2, 4, none⟩ = some (.int .i64 s2f) := (below_cell hb _ _ l448).trans f438
        have f466 : w_13.cell? ⟨w.heap.size + 2, 5, none⟩ = some (.int .i64 s2t) := (below_cell hb _ _ l448).trans f439
        have f467 : w_13.cell? ⟨w.heap.size + 2, 6, none⟩ = some (.int .i64 s2q) := (below_cell hb _ _ l448).trans f440
        have f468 : w_13.cell? ⟨w_4.heap.size, 0, none⟩ = some (.slice aX0a mz0.length cX0a) := (below_cell hb _ _ l449).trans f441
        have f469 : w_13.cell? ⟨w_4.heap.size, 1, none⟩ = some (.slice aX0b mw0.length cX0b) := (below_cell hb _ _ l449).trans f442
        have f470 : w_13.cell? ⟨w_4.heap.size, 2, none⟩ = some (.slice aX0c mb0.length cX0c) := (below_cell hb _ _ l449).trans f443
        have f471 : w_13.cell? ⟨w_5.heap.size, 0, none⟩ = some (.string s1) := (below_cell hb _ _ l450).trans f444
        have f472 : w_13.cell? ⟨w_5.heap.size, 1, none⟩ = some (.slice aX1 len1 cX1) := (below_cell hb _ _ l450).trans f445
        have l473 : w.heap.size < w_13.heap.size := Nat.lt_of_lt_of_le l446 (hb).size
        have l474 : w.heap.size + 1 < w_13.heap.size := Nat.lt_of_lt_of_le l447 (hb).size
        have l475 : w.heap.size + 2 < w_13.heap.size := Nat.lt_of_lt_of_le l448 (hb).size
        have l476 : w_4.heap.size < w_13.heap.size := Nat.lt_of_lt_of_le l449 (hb).size
        have l477 : w_5.heap.size < w_13.heap.size := Nat.lt_of_lt_of_le l450 (hb).size
        clear f429 f430 f431 f432 f433 f434 f435 f436 f437 f438 f439 f440 f441 f442 f443 f444 f445 l446 l447 l448 l449 l450
        have HB478 := Lib.hid (below_of HB454.out hb HB454.out.size)
        have HR479 := Lib.hid (iv_kept hb HR451.out)
        clear HR451
        have HR480 := Lib.hid (iv_kept hb HR452.out)
        clear HR452
        clear hb 
        go_wp2_with fail
        refine (markIv_any 1 (by omega) _ L1 _ _ HLL.out HR480.out).mono ?_
        rintro e w_14 ⟨rfl, hv, hg⟩
        rw [HN1.out] at hv ⊢
        have hgm := mk_of_grown (l := wR195_0.heap.size) (u := wR195_f.heap.size) hg HGI.out
        have S481 : w_13.heap.size ≤ w_14.heap.size := hgm.size
        have f482 : w_14.cell? ⟨w.heap.size, 0, none⟩ = some (x0a) := (mk_cell hgm _ _ l473 (by omega)).trans f456
        have f483 : w_14.cell? ⟨w.heap.size, 1, none⟩ = some (x0b) := (mk_cell hgm _ _ l473 (by omega)).trans f457
        have f484 : w_14.cell? ⟨w.heap.size, 2, none⟩ = some (x0c) := (mk_cell hgm _ _ l473 (by omega)).trans f458
        have f485 : w_14.cell? ⟨w.heap.size + 1, 0, none⟩ = some (.string s1) := (mk_cell hgm _ _ l474 (by omega)).trans f459
        have f486 : w_14.cell? ⟨w.heap.size + 1, 1, none⟩ = some (v1) := (mk_cell hgm _ _ l474 (by omega)).trans f460
        have f487 : w_14.cell? ⟨w.heap.size + 2, 0, none⟩ = some (.int .i64 s2a) := (mk_cell hgm _ _ l475 (by omega)).trans f461
        have f488 : w_14.cell? ⟨w.heap.size + 2, 1, none⟩ = some (.int .i64 s2b) := (mk_cell hgm _ _ l475 (by omega)).trans f462
        have f489 : w_14.cell? ⟨w.heap.size + 2, 2, none⟩ = some (.int .i64 s2c) := (mk_cell hgm _ _ l475 (by omega)).trans f463
        have f490 : w_14.cell? ⟨w.heap.size + 2, 3, none⟩ = some (.int .i64 s2e) := (mk_cell hgm _ _ l475 (by omega)).trans f464
        have f491 : w_14.cell? ⟨w.heap.size + 2, 4, none⟩ = some (.int .i64 s2f) := (mk_cell hgm _ _ l475 (by omega)).trans f465
        have f492 : w_14.cell? ⟨w.heap.size + 2, 5, none⟩ = some (.int .i64 s2t) := (mk_cell hgm _ _ l475 (by omega)).trans f466
        have f493 : w_14.cell? ⟨w.heap.size + 2, 6, none⟩ = some (.int .i64 s2q) := (mk_cell hgm _ _ l475 (by omega)).trans f467
        have f494 : w_14.cell? ⟨w_4.heap.size, 0, none⟩ = some (.slice aX0a mz0.length cX0a) := (mk_cell hgm _ _ l476 (by omega)).trans f468
        have f495 : w_14.cell? ⟨w_4.heap.size, 1, none⟩ = some (.slice aX0b mw0.length cX0b) := (mk_cell hgm _ _ l476 (by omega)).trans f469
        have f496 : w_14.cell? ⟨w_4.heap.size, 2, none⟩ = some (.slice aX0c mb0.length cX0c) := (mk_cell hgm _ _ l476 (by omega)).trans f470
        have f497 : w_14.cell? ⟨w_5.heap.size, 0, none⟩ = some (.string s1) := (mk_cell hgm _ _ l477 (by omega)).trans f471
        have f498 : w_14.cell? ⟨w_5.heap.size, 1, none⟩ = some (.slice aX1 len1 cX1) := (mk_cell hgm _ _ l477 (by omega)).trans f472
        have l499 : w.heap.size < w_14.heap.size := Nat.lt_of_lt_of_le l473 hgm.size
        have l500 : w.heap.size + 1 < w_14.heap.size := Nat.lt_of_lt_of_le l474 hgm.size
        have l501 : w.heap.size + 2 < w_14.heap.size := Nat.lt_of_lt_of_le l475 hgm.size
        have l502 : w_4.heap.size < w_14.heap.size := Nat.lt_of_lt_of_le l476 hgm.size
        have l503 : w_5.heap.size < w_14.heap.size := Nat.lt_of_lt_of_le l477 hgm.size
        clear f456 f457 f458 f459 f460 f461 f462 f463 f464 f465 f466 f467 f468 f469 f470 f471 f472 l473 l474 l475 l476 l477
        have HR504 := Lib.hid (iv_mk hgm HR479.out HWI.out (by omega))
        clear HR479
        have HR505 := Lib.hid hv
        clear HR480
        have HB506 := Lib.hid (HB478.out.trans (mk_below hgm HB478.out.size (by omega)))
        clear hv hgm hg
        go_wp2_with fail
        refine (heldIv_any 1 (by omega) _ n1 _ _ hll HR505.out).mono ?_
        rintro e w_14 ⟨rfl, rfl⟩
        go_wp2_with fail
        have hbd : Below w_14.heap.size w_14 w_14.drew := ⟨rfl, rfl, rfl, Nat.le_refl _, fun _ _ => rfl⟩
        have HI0 := Lib.hid (modAt_kept HB506.out HZ0.out)
        have HI1 := Lib.hid (rings_kept HB506.out HZ1.out)
        have HI3 := Lib.hid (cuts_kept HB506.out HY3.out)
        have HSK := Lib.hid (fun W (hW : Below w_14.heap.size w_14 W) => show W.cell? ⟨w.heap.size, 0, none⟩ = some (x0a) ∧ W.cell? ⟨w.heap.size, 1, none⟩ = some (x0b) ∧ W.cell? ⟨w.heap.size, 2, none⟩ = some (x0c) ∧ W.cell? ⟨w.heap.size + 1, 0, none⟩ = some (.string s1) ∧ W.cell? ⟨w.heap.size + 1, 1, none⟩ = some (v1) ∧ W.cell? ⟨w.heap.size + 2, 0, none⟩ = some (.int .i64 s2a) ∧ W.cell? ⟨w.heap.size + 2, 1, none⟩ = some (.int .i64 s2b) ∧ W.cell? ⟨w.heap.size + 2, 2, none⟩ = some (.int .i64 s2c) ∧ W.cell? ⟨w.heap.size + 2, 3, none⟩ = some (.int .i64 s2e) ∧ W.cell? ⟨w.heap.size + 2, 4, none⟩ = some (.int .i64 s2f) ∧ W.cell? ⟨w.heap.size + 2, 5, none⟩ = some (.int .i64 s2t) ∧ W.cell? ⟨w.heap.size + 2, 6, none⟩ = some (.int .i64 s2q) ∧ Below w_14.heap.size w_14 W from ⟨(below_cell hW _ _ l499).trans f482, (below_cell hW _ _ l499).trans f483, (below_cell hW _ _ l499).trans f484, (below_cell hW _ _ l500).trans f485, (below_cell hW _ _ l500).trans f486, (below_cell hW _ _ l501).trans f487, (below_cell hW _ _ l501).trans f488, (below_cell hW _ _ l501).trans f489, (below_cell hW _ _ l501).trans f490, (below_cell hW _ _ l501).trans f491, (below_cell hW _ _ l501).trans f492, (below_cell hW _ _ l501).trans f493, hW⟩)
        go_region_held3 (fun W => W.cell? ⟨w.heap.size, 0, none⟩ = some (x0a) ∧ W.cell? ⟨w.heap.size, 1, none⟩ = some (x0b) ∧ W.cell? ⟨w.heap.size, 2, none⟩ = some (x0c) ∧ W.cell? ⟨w.heap.size + 1, 0, none⟩ = some (.string s1) ∧ W.cell? ⟨w.heap.size + 1, 1, none⟩ = some (v1) ∧ W.cell? ⟨w.heap.size + 2, 0, none⟩ = some (.int .i64 s2a) ∧ W.cell? ⟨w.heap.size + 2, 1, none⟩ = some (.int .i64 s2b) ∧ W.cell? ⟨w.heap.size + 2, 2, none⟩ = some (.int .i64 s2c) ∧ W.cell? ⟨w.heap.size + 2, 3, none⟩ = some (.int .i64 s2e) ∧ W.cell? ⟨w.heap.size + 2, 4, none⟩ = some (.int .i64 s2f) ∧ W.cell? ⟨w.heap.size + 2, 5, none⟩ = some (.int .i64 s2t) ∧ W.cell? ⟨w.heap.size + 2, 6, none⟩ = some (.int .i64 s2q) ∧ Below w_14.heap.size w_14 W)
          (first | exact HSK.out _ hbd | exact HSK.out _ hbr0 | exact HSK.out _ hbr1 | exact HSK.out _ hbr2 | exact HSK.out _ hbr3 | exact HSK.out _ hbrf | assumption)
          (first
            | (go_at_call_of 11 (Value.agg #[x0a, x0b, x0c]); refine (toModX_any x0a x0b x0c mz0 mw0 mb0 _ (modAt_kept hbd HI0.out).1 (modAt_kept hbd HI0.out).2.1 (modAt_kept hbd HI0.out).2.2).mono ?_; rintro e wR507_0 ⟨vx0a, vx0b, vx0c, rfl, ho0, hbq0⟩; have hbr0 := below_of hbd hbq0 hbd.size)
            | (go_at_call_of 12 (Value.agg #[.string s1, v1]); refine (toProf_any s1 v1 zs1 _ (rings_kept hbr0 HI1.out)).mono ?_; rintro e wR507_1 ⟨vx1, rfl, ho1, hbq1⟩; have hbr1 := below_of hbr0 hbq1 hbr0.size)
            | (go_at_call_of 13 (Value.agg #[.int .i64 s2a, .int .i64 s2b, .int .i64 s2c, .int .i64 s2e, .int .i64 s2f, .int .i64 s2t, .int .i64 s2q]); refine (toGoal_any s2a s2b s2c s2e s2f s2t s2q _).mono ?_; rintro e wR507_2 ⟨rfl, hbq2⟩; have hbr2 := below_of hbr1 hbq2 hbr1.size)
            | (go_at_call 14; refine (toCuts_any z3 _ _ (cuts_kept hbr2 HI3.out)).mono ?_; rintro e wR507_3 ⟨vx3, rfl, ho3, hbq3⟩; have hbr3 := below_of hbr2 hbq3 hbr2.size)
            | (go_at_call 15; refine (HIM.out vx0a vx0b vx0c vx1 vx3 _ (modAt_kept hbq3 (modAt_kept hbq2 (modAt_kept hbq1 (modOwn_parts HML0.out.2.2.1 HML0.out.2.1 (lenS_row HML0.out.2.2.2.2) HML0.out.2.2.2.1 ho0)))) (ringsW_kept hbq3 (ringsW_kept hbq2 (rvW HZL1.out (rv_of_ownAt ho1)))) (own_cuts HYL3.out ho3)).mono ?_; rintro e wR507_f ⟨vh, rfl, hv, hbf⟩; have hbrf := below_of hbr3 hbf hbr3.size))
        have hb := hbrf
        have S508 : w_14.heap.size ≤ wR507_0.heap.size := hbq0.size
        have S509 : wR507_0.heap.size ≤ wR507_1.heap.size := hbq1.size
        have S510 : wR507_1.heap.size ≤ wR507_2.heap.size := hbq2.size
        have S511 : wR507_2.heap.size ≤ wR507_3.heap.size := hbq3.size
        have S512 : wR507_3.heap.size ≤ wR507_f.heap.size := hbf.size
        obtain ⟨aH, cH, rfl⟩ := iv_form hv
        rw [HN1.out] at hv ⊢
        have HHI := Lib.hid (iv_in hv)
        have HHR := Lib.hid hv
        clear hv
        have S513 : w_14.heap.size ≤ wR507_f.heap.size := (hb).size
        have f514 : wR507_f.cell? ⟨w.heap.size, 0, none⟩ = some (x0a) := (below_cell hb _ _ l499).trans f482
        have f515 : wR507_f.cell? ⟨w.heap.size, 1, none⟩ = some (x0b) := (below_cell hb _ _ l499).trans f483
        have f516 : wR507_f.cell? ⟨w.heap.size, 2, none⟩ = some (x0c) := (below_cell hb _ _ l499).trans f484
        have f517 : wR507_f.cell? ⟨w.heap.size + 1, 0, none⟩ = some (.string s1) := (below_cell hb _ _ l500).trans f485
        have f518 : wR507_f.cell? ⟨w.heap.size + 1, 1, none⟩ = some (v1) := (below_cell hb _ _ l500).trans f486
        have f519 : wR507_f.cell? ⟨w.heap.size + 2, 0, none⟩ = some (.int .i64 s2a) := (below_cell hb _ _ l501).trans f487
        have f520 : wR507_f.cell? ⟨w.heap.size + 2, 1, none⟩ = some (.int .i64 s2b) := (below_cell hb _ _ l501).trans f488
        have f521 : wR507_f.cell? ⟨w.heap.size + 2, 2, none⟩ = some (.int .i64 s2c) := (below_cell hb _ _ l501).trans f489
        have f522 : wR507_f.cell? ⟨w.heap.size + 2, 3, none⟩ = some (.int .i64 s2e) := (below_cell hb _ _ l501).trans f490
        have f523 : wR507_f.cell? ⟨w.heap.size + 2, 4, none⟩ = some (.int .i64 s2f) := (below_cell hb _ _ l501).trans f491
        have f524 : wR507_f.cell? ⟨w.heap.size + 2, 5, none⟩ = some (.int .i64 s2t) := (below_cell hb _ _ l501).trans f492
        have f525 : wR507_f.cell? ⟨w.heap.size + 2, 6, none⟩ = some (.int .i64 s2q) := (below_cell hb _ _ l501).trans f493
        have f526 : wR507_f.cell? ⟨w_4.heap.size, 0, none⟩ = some (.slice aX0a mz0.length cX0a) := (below_cell hb _ _ l502).trans f494
        have f527 : wR507_f.cell? ⟨w_4.heap.size, 1, none⟩ = some (.slice aX0b mw0.length cX0b) := (below_cell hb _ _ l502).trans f495
        have f528 : wR507_f.cell? ⟨w_4.heap.size, 2, none⟩ = some (.slice aX0c mb0.length cX0c) := (below_cell hb _ _ l502).trans f496
        have f529 : wR507_f.cell? ⟨w_5.heap.size, 0, none⟩ = some (.string s1) := (below_cell hb _ _ l503).trans f497
        have f530 : wR507_f.cell? ⟨w_5.heap.size, 1, none⟩ = some (.slice aX1 len1 cX1) := (below_cell hb _ _ l503).trans f498
        have l531 : w.heap.size < wR507_f.heap.size := Nat.lt_of_lt_of_le l499 (hb).size
        have l532 : w.heap.size + 1 < wR507_f.heap.size := Nat.lt_of_lt_of_le l500 (hb).size
        have l533 : w.heap.size + 2 < wR507_f.heap.size := Nat.lt_of_lt_of_le l501 (hb).size
        have l534 : w_4.heap.size < wR507_f.heap.size := Nat.lt_of_lt_of_le l502 (hb).size
        have l535 : w_5.heap.size < wR507_f.heap.size := Nat.lt_of_lt_of_le l503 (hb).size
        clear f482 f483 f484 f485 f486 f487 f488 f489 f490 f491 f492 f493 f494 f495 f496 f497 f498 l499 l500 l501 l502 l503
        have HB536 := Lib.hid (below_of HB506.out hb HB506.out.size)
        have HR537 := Lib.hid (iv_kept hb HR504.out)
        clear HR504
        have HR538 := Lib.hid (iv_kept hb HR505.out)
        clear HR505
        clear hb hbd hbrf hbf HSK hbq0 hbr0 hbq1 hbr1 hbq2 hbr2 hbq3 hbr3 ho0 HI0 ho1 HI1 ho3 HI3
        go_wp2_with fail
        refine (eqInts_at L1 _ _ _ (iv_ints HLL.out HHR.out) (iv_ints HLL.out HR537.out)).mono ?_
        rintro e w_15 ⟨rfl, hb⟩
        have S539 : wR507_f.heap.size ≤ w_15.heap.size := (hb).size
        have f540 : w_15.cell? ⟨w.heap.size, 0, none⟩ = some (x0a) := (below_cell hb _ _ l531).trans f514
        have f541 : w_15.cell? ⟨w.heap.size, 1, none⟩ = some (x0b) := (below_cell hb _ _ l531).trans f515
        have f542 : w_15.cell? ⟨w.heap.size, 2, none⟩ = some (x0c) := (below_cell hb _ _ l531).trans f516
        have f543 : w_15.cell? ⟨w.heap.size + 1, 0, none⟩ = some (.string s1) := (below_cell hb _ _ l532).trans f517
        have f544 : w_15.cell? ⟨w.heap.size + 1, 1, none⟩ = some (v1) := (below_cell hb _ _ l532).trans f518
        have f545 : w_15.cell? ⟨w.heap.size + 2, 0, none⟩ = some (.int .i64 s2a) := (below_cell hb _ _ l533).trans f519
        have f546 : w_15.cell? ⟨w.heap.size + 2, 1, none⟩ = some (.int .i64 s2b) := (below_cell hb _ _ l533).trans f520
        have f547 : w_15.cell? ⟨w.heap.size + 2, 2, none⟩ = some (.int .i64 s2c) := (below_cell hb _ _ l533).trans f521
        have f548 : w_15.cell? ⟨w.heap.size + 2, 3, none⟩ = some (.int .i64 s2e) := (below_cell hb _ _ l533).trans f522
        have f549 : w_15.cell? ⟨w.heap.size + 2, 4, none⟩ = some (.int .i64 s2f) := (below_cell hb _ _ l533).trans f523
        have f550 : w_15.cell? ⟨w.heap.size + 2, 5, none⟩ = some (.int .i64 s2t) := (below_cell hb _ _ l533).trans f524
        have f551 : w_15.cell? ⟨w.heap.size + 2, 6, none⟩ = some (.int .i64 s2q) := (below_cell hb _ _ l533).trans f525
        have f552 : w_15.cell? ⟨w_4.heap.size, 0, none⟩ = some (.slice aX0a mz0.length cX0a) := (below_cell hb _ _ l534).trans f526
        have f553 : w_15.cell? ⟨w_4.heap.size, 1, none⟩ = some (.slice aX0b mw0.length cX0b) := (below_cell hb _ _ l534).trans f527
        have f554 : w_15.cell? ⟨w_4.heap.size, 2, none⟩ = some (.slice aX0c mb0.length cX0c) := (below_cell hb _ _ l534).trans f528
        have f555 : w_15.cell? ⟨w_5.heap.size, 0, none⟩ = some (.string s1) := (below_cell hb _ _ l535).trans f529
        have f556 : w_15.cell? ⟨w_5.heap.size, 1, none⟩ = some (.slice aX1 len1 cX1) := (below_cell hb _ _ l535).trans f530
        have l557 : w.heap.size < w_15.heap.size := Nat.lt_of_lt_of_le l531 (hb).size
        have l558 : w.heap.size + 1 < w_15.heap.size := Nat.lt_of_lt_of_le l532 (hb).size
        have l559 : w.heap.size + 2 < w_15.heap.size := Nat.lt_of_lt_of_le l533 (hb).size
        have l560 : w_4.heap.size < w_15.heap.size := Nat.lt_of_lt_of_le l534 (hb).size
        have l561 : w_5.heap.size < w_15.heap.size := Nat.lt_of_lt_of_le l535 (hb).size
        clear f514 f515 f516 f517 f518 f519 f520 f521 f522 f523 f524 f525 f526 f527 f528 f529 f530 l531 l532 l533 l534 l535
        have HB562 := Lib.hid (below_of HB536.out hb HB536.out.size)
        have HR563 := Lib.hid (iv_kept hb HR537.out)
        clear HR537
        have HR564 := Lib.hid (iv_kept hb HR538.out)
        clear HR538
        have HR565 := Lib.hid (iv_kept hb HHR.out)
        clear HHR
        clear hb 
        go_wp2_with fail
        refine (heldIv_any 1 (by omega) _ n1 _ _ hll HR564.out).mono ?_
        rintro e w_15 ⟨rfl, rfl⟩
        go_wp2
        go_ret
        exact ⟨rfl, HB562.out⟩
      · have HL2 := Lib.hid (show (if (1048576 - (T2 : Int)) - (len3 : Int) < 0 then (-1 : Int) else (1048576 - (T2 : Int)) - (len3 : Int)) = -1 by rw [if_pos (by omega)])
        clear hI3
        go_enter Tryz.func3, Tryz.ntmps3
        have f566 : (((w.alloc (.cells #[x0a, x0b, x0c] 25)).alloc (.cells #[.string s1, v1] 28)).alloc (.cells #[.int .i64 s2a, .int .i64 s2b, .int .i64 s2c, .int .i64 s2e, .int .i64 s2f, .int .i64 s2t, .int .i64 s2q] 32)).cell? ⟨w.heap.size + 1, 0, none⟩ = some (.string s1) := by go_simp
        have f567 : (((w.alloc (.cells #[x0a, x0b, x0c] 25)).alloc (.cells #[.string s1, v1] 28)).alloc (.cells #[.int .i64 s2a, .int .i64 s2b, .int .i64 s2c, .int .i64 s2e, .int .i64 s2f, .int .i64 s2t, .int .i64 s2q] 32)).cell? ⟨w.heap.size + 1, 1, none⟩ = some (v1) := by go_simp
        have l568 : w.heap.size + 1 < (((w.alloc (.cells #[x0a, x0b, x0c] 25)).alloc (.cells #[.string s1, v1] 28)).alloc (.cells #[.int .i64 s2a, .int .i64 s2b, .int .i64 s2c, .int .i64 s2e, .int .i64 s2f, .int .i64 s2t, .int .i64 s2q] 32)).heap.size := by simp <;> omega
        have HB569 := Lib.hid ((((below_al w (.cells #[x0a, x0b, x0c] 25)).alloc (by simp <;> omega) (.cells #[.string s1, v1] 28)).alloc (by simp <;> omega) (.cells #[.int .i64 s2a, .int .i64 s2b, .int .i64 s2c, .int .i64 s2e, .int .i64 s2f, .int .i64 s2t, .int .i64 s2q] 32)))
        go_wp2_with fail
        generalize (((w.alloc (.cells #[x0a, x0b, x0c] 25)).alloc (.cells #[.string s1, v1] 28)).alloc (.cells #[.int .i64 s2a, .int .i64 s2b, .int .i64 s2c, .int .i64 s2e, .int .i64 s2f, .int .i64 s2t, .int .i64 s2q] 32)) = wb at *
        refine (szModX_any x0a x0b x0c N0 (1048576) _ (szM_kept HB569.out HSZ0.out) (by omega) (by omega)).mono ?_
        rintro e w_16 ⟨rfl, hb⟩
        rw [HL0.out]
        have S570 : wb.heap.size ≤ w_16.heap.size := (hb).size
        have f571 : w_16.cell? ⟨w.heap.size + 1, 0, none⟩ = some (.string s1) := (below_cell hb _ _ l568).trans f566
        have f572 : w_16.cell? ⟨w.heap.size + 1, 1, none⟩ = some (v1) := (below_cell hb _ _ l568).trans f567
        have l573 : w.heap.size + 1 < w_16.heap.size := Nat.lt_of_lt_of_le l568 (hb).size
        clear f566 f567 l568
        have HB574 := Lib.hid (below_of HB569.out hb HB569.out.size)
        clear hb 
        go_wp2_with fail
        refine (szProf_v s1 v1 len1 (1048576 - (T1 : Int)) _ HV1 hs1 hlen1 (by omega) (by omega)).mono ?_
        rintro e w_17 ⟨rfl, hb⟩
        rw [HL1.out]
        have S575 : w_16.heap.size ≤ w_17.heap.size := (hb).size
        have f576 : w_17.cell? ⟨w.heap.size + 1, 0, none⟩ = some (.string s1) := (below_cell hb _ _ l573).trans f571
        have f577 : w_17.cell? ⟨w.heap.size + 1, 1, none⟩ = some (v1) := (below_cell hb _ _ l573).trans f572
        have l578 : w.heap.size + 1 < w_17.heap.size := Nat.lt_of_lt_of_le l573 (hb).size
        clear f571 f572 l573
        have HB579 := Lib.hid (below_of HB574.out hb HB574.out.size)
        clear hb 
        go_wp2_with fail
        refine (szCuts_any _ len3 _ (1048576 - (T2 : Int)) _ hlen3 (by omega) (by omega)).mono ?_
        rintro e w_17 ⟨rfl, rfl⟩
        rw [HL2.out]
        go_wp2
        go_ret
        exact ⟨rfl, HB579.out⟩
    · have HL1 := Lib.hid (show leftP s1.size len1 (1048576 - (T1 : Int)) = -1 by exact leftP_no (by omega))
      clear hI1 hI3
      go_enter Tryz.func3, Tryz.ntmps3
      have f580 : (((w.alloc (.cells #[x0a, x0b, x0c] 25)).alloc (.cells #[.string s1, v1] 28)).alloc (.cells #[.int .i64 s2a, .int .i64 s2b, .int .i64 s2c, .int .i64 s2e, .int .i64 s2f, .int .i64 s2t, .int .i64 s2q] 32)).cell? ⟨w.heap.size + 1, 0, none⟩ = some (.string s1) := by go_simp
      have f581 : (((w.alloc (.cells #[x0a, x0b, x0c] 25)).alloc (.cells #[.string s1, v1] 28)).alloc (.cells #[.int .i64 s2a, .int .i64 s2b, .int .i64 s2c, .int .i64 s2e, .int .i64 s2f, .int .i64 s2t, .int .i64 s2q] 32)).cell? ⟨w.heap.size + 1, 1, none⟩ = some (v1) := by go_simp
      have l582 : w.heap.size + 1 < (((w.alloc (.cells #[x0a, x0b, x0c] 25)).alloc (.cells #[.string s1, v1] 28)).alloc (.cells #[.int .i64 s2a, .int .i64 s2b, .int .i64 s2c, .int .i64 s2e, .int .i64 s2f, .int .i64 s2t, .int .i64 s2q] 32)).heap.size := by simp <;> omega
      have HB583 := Lib.hid ((((below_al w (.cells #[x0a, x0b, x0c] 25)).alloc (by simp <;> omega) (.cells #[.string s1, v1] 28)).alloc (by simp <;> omega) (.cells #[.int .i64 s2a, .int .i64 s2b, .int .i64 s2c, .int .i64 s2e, .int .i64 s2f, .int .i64 s2t, .int .i64 s2q] 32)))
      go_wp2_with fail
      generalize (((w.alloc (.cells #[x0a, x0b, x0c] 25)).alloc (.cells #[.string s1, v1] 28)).alloc (.cells #[.int .i64 s2a, .int .i64 s2b, .int .i64 s2c, .int .i64 s2e, .int .i64 s2f, .int .i64 s2t, .int .i64 s2q] 32)) = wb at *
      refine (szModX_any x0a x0b x0c N0 (1048576) _ (szM_kept HB583.out HSZ0.out) (by omega) (by omega)).mono ?_
      rintro e w_19 ⟨rfl, hb⟩
      rw [HL0.out]
      have S584 : wb.heap.size ≤ w_19.heap.size := (hb).size
      have f585 : w_19.cell? ⟨w.heap.size + 1, 0, none⟩ = some (.string s1) := (below_cell hb _ _ l582).trans f580
      have f586 : w_19.cell? ⟨w.heap.size + 1, 1, none⟩ = some (v1) := (below_cell hb _ _ l582).trans f581
      have l587 : w.heap.size + 1 < w_19.heap.size := Nat.lt_of_lt_of_le l582 (hb).size
      clear f580 f581 l582
      have HB588 := Lib.hid (below_of HB583.out hb HB583.out.size)
      clear hb 
      go_wp2_with fail
      refine (szProf_v s1 v1 len1 (1048576 - (T1 : Int)) _ HV1 hs1 hlen1 (by omega) (by omega)).mono ?_
      rintro e w_20 ⟨rfl, hb⟩
      rw [HL1.out]
      have S589 : w_19.heap.size ≤ w_20.heap.size := (hb).size
      have f590 : w_20.cell? ⟨w.heap.size + 1, 0, none⟩ = some (.string s1) := (below_cell hb _ _ l587).trans f585
      have f591 : w_20.cell? ⟨w.heap.size + 1, 1, none⟩ = some (v1) := (below_cell hb _ _ l587).trans f586
      have l592 : w.heap.size + 1 < w_20.heap.size := Nat.lt_of_lt_of_le l587 (hb).size
      clear f585 f586 l587
      have HB593 := Lib.hid (below_of HB588.out hb HB588.out.size)
      clear hb 
      go_wp2
      go_ret
      exact ⟨rfl, HB593.out⟩
  · have HL0 := Lib.hid (show leftN N0 (1048576) = -1 by exact leftN_no (by omega))
    clear hmk0 hI1 hI3
    go_enter Tryz.func3, Tryz.ntmps3
    have HB594 := Lib.hid ((((below_al w (.cells #[x0a, x0b, x0c] 25)).alloc (by simp <;> omega) (.cells #[.string s1, v1] 28)).alloc (by simp <;> omega) (.cells #[.int .i64 s2a, .int .i64 s2b, .int .i64 s2c, .int .i64 s2e, .int .i64 s2f, .int .i64 s2t, .int .i64 s2q] 32)))
    go_wp2_with fail
    generalize (((w.alloc (.cells #[x0a, x0b, x0c] 25)).alloc (.cells #[.string s1, v1] 28)).alloc (.cells #[.int .i64 s2a, .int .i64 s2b, .int .i64 s2c, .int .i64 s2e, .int .i64 s2f, .int .i64 s2t, .int .i64 s2q] 32)) = wb at *
    refine (szModX_any x0a x0b x0c N0 (1048576) _ (szM_kept HB594.out HSZ0.out) (by omega) (by omega)).mono ?_
    rintro e w_21 ⟨rfl, hb⟩
    rw [HL0.out]
    have S595 : wb.heap.size ≤ w_21.heap.size := (hb).size
    have HB596 := Lib.hid (below_of HB594.out hb HB594.out.size)
    clear hb 
    go_wp2
    go_ret
    exact ⟨rfl, HB596.out⟩

set_option maxRecDepth 100000 in
theorem contract (H : Type) (enc : TypeId × Value → H) (W : World) (base : Nat) (args : Array Value) (ds gs : List (DataW H)) (before : List MemPlace)
    (hval : ∀ (j : Nat) t v, Tryz.f3.params[j]? = some t → args[j]? = some v → Value.okWide Tryz.prog W .any base t v)
    (hW : DataW.Whole enc Tryz.prog Tryz.f3.params.toList Rows.fnExactDeviationsAfterSpec.vars false W args.toList ds gs before) :
    Calls Tryz.prog 3 args W fun e W' => ∃ v, e = .returned v ∧ Rows.fnExactDeviationsAfterSpec.post enc Tryz.prog Tryz.f3 false true false false W args v W' := by
  have hW' := hW
  obtain ⟨p, q, hA0, hV, rfl, hfz, hnd⟩ := hW
  have hA : DataW.TrodAll enc Tryz.prog W 0 (fun _ => true) true Tryz.f3.params.toList args.toList ds p := hA0
  rw [Tryz.params3] at hA hval
  obtain ⟨v0, vs0, d0, ds0, p0, q0, hargs, rfl, rfl, h0, r0⟩ := trodAll_cons hA
  obtain ⟨v1, vs1, d1, ds1, p1, q1, hargs1, rfl, rfl, h1, r1⟩ := trodAll_cons r0
  subst hargs1
  obtain ⟨v2, vs2, d2, ds2, p2, q2, hargs2, rfl, rfl, h2, r2⟩ := trodAll_cons r1
  subst hargs2
  obtain ⟨v3, vs3, d3, ds3, p3, q3, hargs3, rfl, rfl, h3, r3⟩ := trodAll_cons r2
  subst hargs3
  obtain ⟨rfl, rfl, rfl⟩ := trodAll_nil r3
  obtain rfl : args = #[v0, v1, v2, v3] := by cases args; simp_all
  obtain ⟨rfl, rfl⟩ := trodVars_none hV
  simp only [List.append_nil] at hW'
  have hlt0 : ∀ x ∈ p0, x.block < W.heap.size := fun x hx => hW'.lt x (by simp [hx])
  have kept0 := fun (W2 : World) (hb : Below W.heap.size W W2) => Below.trod laidOut (by kernel_rfl) (of_decide_eq_true (by kernel_rfl)) h0 hb hlt0
  have hI0 := modelx_arg (hval 0 25 v0 rfl rfl) h0 hlt0
  have hlt1 : ∀ x ∈ p1, x.block < W.heap.size := fun x hx => hW'.lt x (by simp [hx])
  have kept1 := fun (W2 : World) (hb : Below W.heap.size W W2) => Below.trod laidOut (by kernel_rfl) (of_decide_eq_true (by kernel_rfl)) h1 hb hlt1
  obtain ⟨s1, a1, len1, cap1, rfl, w1, hI1⟩ := prof_arg (hval 1 28 v1 rfl rfl) h1 hlt1
  have hlt2 : ∀ x ∈ p2, x.block < W.heap.size := fun x hx => hW'.lt x (by simp [hx])
  have kept2 := fun (W2 : World) (hb : Below W.heap.size W W2) => Below.trod laidOut (by kernel_rfl) (of_decide_eq_true (by kernel_rfl)) h2 hb hlt2
  obtain ⟨s2a, s2b, s2c, s2e, s2f, s2t, s2q, rfl, w2⟩ := goal_arg (hval 2 32 v2 rfl rfl) h2
  have hlt3 : ∀ x ∈ p3, x.block < W.heap.size := fun x hx => hW'.lt x (by simp [hx])
  have kept3 := fun (W2 : World) (hb : Below W.heap.size W W2) => Below.trod laidOut (by kernel_rfl) (of_decide_eq_true (by kernel_rfl)) h3 hb hlt3
  obtain ⟨a3, len3, cap3, rfl⟩ := okWide_slice Tryz.underlying33 (hval 3 33 v3 rfl rfl)
  obtain ⟨fuel3, hf3⟩ := h3
  obtain ⟨w3, hI3⟩ := cuts_arg hf3 hlt3
  clear hA0
  refine (walk v0 s1 a1 len1 cap1 s2a s2b s2c s2e s2f s2t s2q a3 len3 cap3 w1 w2 w3 W hI0 hI1 hI3).mono fun e W' ⟨he, hg⟩ => ?_
  subst he
  refine ⟨_, rfl, post_at (pa := p0 ++ (p1 ++ (p2 ++ p3))) (pv := []) hW' (by simp) hg (fun _ _ => (trodAll_cons_mk (shut_bool Tryz.underlying4 _) trodAll_mk0)) ?_ rfl⟩
  have hk := (trodAll_cons_mk (kept0 W' hg) (trodAll_cons_mk (kept1 W' hg) (trodAll_cons_mk (kept2 W' hg) (trodAll_cons_mk (kept3 W' hg) trodAll_mk0))))
  simp only [List.append_nil] at hk
  exact hk

set_option maxRecDepth 100000 in
theorem lifted (os : Os) (started : os.Started) (H : Type) (enc : TypeId × Value → H) :
    ReturnsInHanded {} Tryz.checked os 3 .any (Rows.fnExactDeviationsAfterSpec.pre6 enc Tryz.prog Tryz.f3 Rows.fnExactDeviationsAfterRow.domain false) (Rows.fnExactDeviationsAfterSpec.post enc Tryz.prog Tryz.f3 false true false false) := by
  refine returnsInHanded_of_change (C := Tryz.checked) own started (by kernel_rfl) Tryz.func3
    (ChangeSpec.witness6 (enc := enc) (C := Tryz.checked) false ⟨#[], #[.agg #[.slice none 0 0, .slice none 0 0, .slice none 0 0], .agg #[.string ⟨#[]⟩, .slice none 0 0], .agg #[.int .i64 0, .int .i64 0, .int .i64 0, .int .i64 0, .int .i64 0, .int .i64 0, .int .i64 0], .slice none 0 0], []⟩ 8 (by kernel_rfl) (by kernel_rfl) (by kernel_rfl) (by kernel_rfl)) ?_
  intro W base args ds gs before hval0 hW hcnd _
  have hval : ∀ (j : Nat) t v, Tryz.f3.params[j]? = some t → args[j]? = some v → Value.okWide Tryz.prog W .any base t v := hval0
  exact contract H enc W base args ds gs before hval hW

theorem over : Rows.fnExactDeviationsAfterRow.holds Tryz.pinned (OpenSpec.ofChange Rows.fnExactDeviationsAfterSpec) :=
  OpenClaim.holds_of_wide 3 Tryz.f3 rfl rfl rfl rfl rfl rfl rfl ⟨rfl, rfl, rfl, rfl, rfl⟩ rfl rfl rfl rfl rfl (by kernel_rfl) Tryz.func3 (by kernel_rfl)
    (of_decide_eq_true (by kernel_rfl)) (by unfold Func.isWrapper; first | (rw [if_pos (by decide +kernel)]; kernel_rfl) | (rw [if_neg (by decide +kernel)]; exact ⟨rfl, rfl⟩))
    (fun os started H enc _ => lifted os started H enc)
end Go.Proofs.YtpllmehcndinkabGreat.fnExactDeviationsAfter

namespace Go.Proofs.YtpllmehcndinkabGreat
/-- The given statement. -/
theorem fnExactDeviationsAfter_holds : Rows.FnExactDeviationsAfterSaid := fnExactDeviationsAfter.over
#print axioms fnExactDeviationsAfter_holds
end Go.Proofs.YtpllmehcndinkabGreat
