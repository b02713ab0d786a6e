/- At every argument MixOf answers as its model, and its arguments are as they were. -/
import Derived.Test.YtikoehjalcljnaaRows
import Derived.Test.YtikoehjalcljnaaBase
import Derived.Test.YtikoehjalcljnaaLaidOut
import Derived.Test.YtikoehjalcljnaaIngArg
import Derived.Test.YtikoehjalcljnaaMix
namespace Go.Proofs.Ytikoehjalcljnaa.fnExactMixOf
open Go.ChangeShapes Go.WideShapes Go.ChangeAt Go.RowKit
open Go.ChangeMaps (open_string shut_string)
set_option linter.unusedVariables false

theorem own : ownKnob Try.prog.godebug = none := by kernel_rfl

set_option maxRecDepth 100000 in
set_option maxHeartbeats 8000000 in
theorem walk (p0 : Option Addr) (len0 cap0 : Nat) (p1 : Option Addr) (len1 cap1 : Nat) (w0 : len0 ≤ 9223372036854775807) (w1 : len1 ≤ 9223372036854775807) (w : World) (hI0 : len0 ≤ 1048576 → ∃ zs : List Gt, zs.length = len0 ∧ IngsAt w (.slice p0 len0 cap0) zs ∧ SzOkG zs) (hI1 : len1 ≤ 1048576 → ∃ zs : List Int, zs.length = len1 ∧ IntsAt w (.slice p1 len1 cap1) zs ∧ ∀ z ∈ zs, (Lit.int .i64 z).wf = true) :
    Calls Try.prog 8 #[.slice p0 len0 cap0, .slice p1 len1 cap1] w fun e w' => e = .returned (.bool true) ∧ Below w.heap.size w w' := by
  have hlen0 := w0
  clear w0
  have hlen1 := w1
  clear w1
  by_cases hbz1 : 1048576 < len1
  · clear hI0 hI1
    go_enter Try.func8, Try.ntmps8
    go_wp2
    go_ret
    exact ⟨rfl, Below.refl _ _⟩
  obtain ⟨z1, hzn1, hzi1, hzw1⟩ := hI1 (by omega)
  have HZN1 := Lib.hid hzn1
  have HZW1 := Lib.hid hzw1
  have HY1 := Lib.hid hzi1
  have HYL1 := Lib.hid (show z1.length ≤ 1048576 by omega)
  clear hzn1 hzi1 hzw1 hI1
  by_cases hbig0G : len0 ≤ 1048576
  · obtain ⟨z0, hzn0, hzi0, hzs0⟩ := hI0 hbig0G
    have HZN0 := Lib.hid hzn0
    have HY0 := Lib.hid hzi0
    have HYL0 := Lib.hid (show z0.length ≤ 1048576 by omega)
    have HSO0 := Lib.hid hzs0
    clear hzn0 hzi0 hzs0 hI0
    by_cases hbig0 : (len0 + lenG z0 len0) ≤ 1048576
    · obtain ⟨T1, hT1⟩ : ∃ T, (len0 + lenG z0 len0) = T := ⟨_, rfl⟩
      have HL0 := Lib.hid (show leftG len0 (lenG z0 len0) = 1048576 - (T1 : Int) by rw [leftG_yes (by omega)]; omega)
      have hTb1 : T1 ≤ 1048576 := by omega
      clear hbig0G
      have hTl0 : len0 ≤ 1048576 := by omega
      clear hT1 hbig0
      obtain ⟨qx, qy, qz, c1, c2, hsp, him⟩ : ∃ (qx qy qz c1 c2 : Int), (∀ u0 u1 w, IngsAt w u0 z0 → IntsAt w u1 z1 → Calls Try.prog 34 #[u0, u1] w (fun e w' => e = .returned (.tuple #[.agg #[.int .i64 qx, .int .i64 qy, .int .i64 qz], .int .i64 c1, .int .i64 c2]) ∧ Below w.heap.size w w')) ∧ (∀ u0 u1 w, IngsAt w u0 z0 → IntsAt w u1 z1 → Calls Try.prog 36 #[u0, u1] w (fun e w' => e = .returned (.tuple #[.agg #[.int .i64 qx, .int .i64 qy, .int .i64 qz], .int .i64 c1, .int .i64 c2]) ∧ Below w.heap.size w w')) := by
        obtain ⟨qx, qy, qz, hQ⟩ := (mx_form z0 z1)
        refine ⟨qx, qy, qz, mxM z0 z1, mxC z0 z1, ?_, ?_⟩
        · rw [← hQ]; exact fun u0 u1 w h h1 => specMix_any z0 u0 z1 u1 w h HSO0.out h1
        · rw [← hQ]; exact fun u0 u1 w h h1 => implMix_any z0 u0 z1 u1 w h HSO0.out h1
      have HSP := Lib.hid hsp
      have HIM := Lib.hid him
      clear hsp him
      have hccc1 : (c1 != c1) = false := by simp
      have hccc2 : (c2 != c2) = false := by simp
      go_enter Try.func8, Try.ntmps8
      go_wp2_with fail
      refine (szIngs_any z0 _ _ (ings_kept (Below.refl _ _) HY0.out) HSO0.out).mono ?_
      rintro e w_1 ⟨rfl, hb⟩
      rw [HZN0.out, HL0.out]
      have S1 : w.heap.size ≤ w_1.heap.size := (hb).size
      have HB2 := Lib.hid (hb)
      clear hb 
      go_wp2_with fail
      refine (toIngs_any z0 _ _ (ings_kept HB2.out HY0.out)).mono ?_
      rintro e w_2 ⟨vx0, rfl, ho, hb⟩
      have HO3 := Lib.hid ((own_ings HYL0.out ho))
      have S4 : w_1.heap.size ≤ w_2.heap.size := (hb).size
      have HB5 := Lib.hid (below_of HB2.out hb HB2.out.size)
      clear hb ho
      go_wp2_with fail
      refine (toInts_any z1 _ _ (ints_kept HB5.out HY1.out)).mono ?_
      rintro e w_3 ⟨vx1, rfl, ho, hb⟩
      have HO6 := Lib.hid (ings_kept hb HO3.out)
      clear HO3
      have HO7 := Lib.hid ((own_ints HYL1.out ho))
      have S8 : w_2.heap.size ≤ w_3.heap.size := (hb).size
      have HB9 := Lib.hid (below_of HB5.out hb HB5.out.size)
      clear hb ho
      go_wp2_with fail
      refine (HSP.out vx0 vx1 _ HO6.out HO7.out).mono ?_
      rintro e w_4 ⟨rfl, hb⟩
      have S10 : w_3.heap.size ≤ w_4.heap.size := (hb).size
      have HB11 := Lib.hid (below_of HB9.out hb HB9.out.size)
      clear hb HO6 HO7
      have f12 : (w_4.alloc (.cells #[.int .i64 qx, .int .i64 qy, .int .i64 qz] 38)).cell? ⟨w_4.heap.size, 0, none⟩ = some (.int .i64 qx) := by go_simp
      have f13 : (w_4.alloc (.cells #[.int .i64 qx, .int .i64 qy, .int .i64 qz] 38)).cell? ⟨w_4.heap.size, 1, none⟩ = some (.int .i64 qy) := by go_simp
      have f14 : (w_4.alloc (.cells #[.int .i64 qx, .int .i64 qy, .int .i64 qz] 38)).cell? ⟨w_4.heap.size, 2, none⟩ = some (.int .i64 qz) := by go_simp
      have l15 : w_4.heap.size < (w_4.alloc (.cells #[.int .i64 qx, .int .i64 qy, .int .i64 qz] 38)).heap.size := alloc_ltG _ _
      have S16 : w_4.heap.size < (w_4.alloc (.cells #[.int .i64 qx, .int .i64 qy, .int .i64 qz] 38)).heap.size := alloc_ltG _ _
      have HB17 := Lib.hid (below_of HB11.out (below_alG w_4 (.cells #[.int .i64 qx, .int .i64 qy, .int .i64 qz] 38)) HB11.out.size)
      go_wp2_with fail
      generalize (w_4.alloc (.cells #[.int .i64 qx, .int .i64 qy, .int .i64 qz] 38)) = wb18 at *
      refine (toIngs_any z0 _ _ (ings_kept HB17.out HY0.out)).mono ?_
      rintro e w_5 ⟨vx0, rfl, ho, hb⟩
      obtain ⟨aZ0, cZ0, rfl⟩ := own_ings_form ho
      have HX0R := Lib.hid (own_ings HYL0.out ho)
      rw [HZN0.out] at HX0R ⊢
      have S19 : wb18.heap.size ≤ w_5.heap.size := (hb).size
      have f20 : w_5.cell? ⟨w_4.heap.size, 0, none⟩ = some (.int .i64 qx) := (below_cell hb _ _ l15).trans f12
      have f21 : w_5.cell? ⟨w_4.heap.size, 1, none⟩ = some (.int .i64 qy) := (below_cell hb _ _ l15).trans f13
      have f22 : w_5.cell? ⟨w_4.heap.size, 2, none⟩ = some (.int .i64 qz) := (below_cell hb _ _ l15).trans f14
      have l23 : w_4.heap.size < w_5.heap.size := Nat.lt_of_lt_of_le l15 (hb).size
      clear f12 f13 f14 l15
      have HB24 := Lib.hid (below_of HB17.out hb HB17.out.size)
      clear hb ho
      go_wp2_with fail
      refine (toInts_any z1 _ _ (ints_kept HB24.out HY1.out)).mono ?_
      rintro e w_6 ⟨vx1, rfl, ho, hb⟩
      have hv := iv_own ho
      obtain ⟨aZ1, cZ1, rfl⟩ := iv_form hv
      rw [HZN1.out] at hv ⊢
      have HX1I := Lib.hid (iv_in hv)
      have HX1R := Lib.hid hv
      clear hv
      have S25 : w_5.heap.size ≤ w_6.heap.size := (hb).size
      have f26 : w_6.cell? ⟨w_4.heap.size, 0, none⟩ = some (.int .i64 qx) := (below_cell hb _ _ l23).trans f20
      have f27 : w_6.cell? ⟨w_4.heap.size, 1, none⟩ = some (.int .i64 qy) := (below_cell hb _ _ l23).trans f21
      have f28 : w_6.cell? ⟨w_4.heap.size, 2, none⟩ = some (.int .i64 qz) := (below_cell hb _ _ l23).trans f22
      have l29 : w_4.heap.size < w_6.heap.size := Nat.lt_of_lt_of_le l23 (hb).size
      clear f20 f21 f22 l23
      have HB30 := Lib.hid (below_of HB24.out hb HB24.out.size)
      have HR31 := Lib.hid (ings_kept hb HX0R.out)
      clear HX0R
      clear hb ho
      go_wp2_with fail
      refine (HIM.out _ _ _ (HR31.out) (iv_ints HYL1.out HX1R.out)).mono ?_
      rintro e w_7 ⟨rfl, hb⟩
      have S32 : w_6.heap.size ≤ w_7.heap.size := (hb).size
      have f33 : w_7.cell? ⟨w_4.heap.size, 0, none⟩ = some (.int .i64 qx) := (below_cell hb _ _ l29).trans f26
      have f34 : w_7.cell? ⟨w_4.heap.size, 1, none⟩ = some (.int .i64 qy) := (below_cell hb _ _ l29).trans f27
      have f35 : w_7.cell? ⟨w_4.heap.size, 2, none⟩ = some (.int .i64 qz) := (below_cell hb _ _ l29).trans f28
      have l36 : w_4.heap.size < w_7.heap.size := Nat.lt_of_lt_of_le l29 (hb).size
      clear f26 f27 f28 l29
      have HB37 := Lib.hid (below_of HB30.out hb HB30.out.size)
      have HR38 := Lib.hid (ings_kept hb HR31.out)
      clear HR31
      have HR39 := Lib.hid (iv_kept hb HX1R.out)
      clear HX1R
      clear hb 
      have f40 : (w_7.alloc (.cells #[.int .i64 qx, .int .i64 qy, .int .i64 qz] 38)).cell? ⟨w_4.heap.size, 0, none⟩ = some (.int .i64 qx) := (below_cell (below_alG w_7 (.cells #[.int .i64 qx, .int .i64 qy, .int .i64 qz] 38)) _ _ l36).trans f33
      have f41 : (w_7.alloc (.cells #[.int .i64 qx, .int .i64 qy, .int .i64 qz] 38)).cell? ⟨w_4.heap.size, 1, none⟩ = some (.int .i64 qy) := (below_cell (below_alG w_7 (.cells #[.int .i64 qx, .int .i64 qy, .int .i64 qz] 38)) _ _ l36).trans f34
      have f42 : (w_7.alloc (.cells #[.int .i64 qx, .int .i64 qy, .int .i64 qz] 38)).cell? ⟨w_4.heap.size, 2, none⟩ = some (.int .i64 qz) := (below_cell (below_alG w_7 (.cells #[.int .i64 qx, .int .i64 qy, .int .i64 qz] 38)) _ _ l36).trans f35
      have l43 : w_4.heap.size < (w_7.alloc (.cells #[.int .i64 qx, .int .i64 qy, .int .i64 qz] 38)).heap.size := Nat.lt_of_lt_of_le l36 (below_alG w_7 (.cells #[.int .i64 qx, .int .i64 qy, .int .i64 qz] 38)).size
      clear f33 f34 f35 l36
      have f44 : (w_7.alloc (.cells #[.int .i64 qx, .int .i64 qy, .int .i64 qz] 38)).cell? ⟨w_7.heap.size, 0, none⟩ = some (.int .i64 qx) := by go_simp
      have f45 : (w_7.alloc (.cells #[.int .i64 qx, .int .i64 qy, .int .i64 qz] 38)).cell? ⟨w_7.heap.size, 1, none⟩ = some (.int .i64 qy) := by go_simp
      have f46 : (w_7.alloc (.cells #[.int .i64 qx, .int .i64 qy, .int .i64 qz] 38)).cell? ⟨w_7.heap.size, 2, none⟩ = some (.int .i64 qz) := by go_simp
      have l47 : w_7.heap.size < (w_7.alloc (.cells #[.int .i64 qx, .int .i64 qy, .int .i64 qz] 38)).heap.size := alloc_ltG _ _
      have S48 : w_7.heap.size < (w_7.alloc (.cells #[.int .i64 qx, .int .i64 qy, .int .i64 qz] 38)).heap.size := alloc_ltG _ _
      have HB49 := Lib.hid (below_of HB37.out (below_alG w_7 (.cells #[.int .i64 qx, .int .i64 qy, .int .i64 qz] 38)) HB37.out.size)
      have HR50 := Lib.hid (ings_kept (below_alG w_7 (.cells #[.int .i64 qx, .int .i64 qy, .int .i64 qz] 38)) HR38.out)
      clear HR38
      have HR51 := Lib.hid (iv_kept (below_alG w_7 (.cells #[.int .i64 qx, .int .i64 qy, .int .i64 qz] 38)) HR39.out)
      clear HR39
      go_wp2_with fail
      generalize (w_7.alloc (.cells #[.int .i64 qx, .int .i64 qy, .int .i64 qz] 38)) = wb52 at *
      refine (eqAlloy_any qx qy qz _).mono ?_
      rintro e w_8 ⟨rfl, hb⟩
      have S53 : wb52.heap.size ≤ w_8.heap.size := (hb).size
      have f54 : w_8.cell? ⟨w_4.heap.size, 0, none⟩ = some (.int .i64 qx) := (below_cell hb _ _ l43).trans f40
      have f55 : w_8.cell? ⟨w_4.heap.size, 1, none⟩ = some (.int .i64 qy) := (below_cell hb _ _ l43).trans f41
      have f56 : w_8.cell? ⟨w_4.heap.size, 2, none⟩ = some (.int .i64 qz) := (below_cell hb _ _ l43).trans f42
      have f57 : w_8.cell? ⟨w_7.heap.size, 0, none⟩ = some (.int .i64 qx) := (below_cell hb _ _ l47).trans f44
      have f58 : w_8.cell? ⟨w_7.heap.size, 1, none⟩ = some (.int .i64 qy) := (below_cell hb _ _ l47).trans f45
      have f59 : w_8.cell? ⟨w_7.heap.size, 2, none⟩ = some (.int .i64 qz) := (below_cell hb _ _ l47).trans f46
      have l60 : w_4.heap.size < w_8.heap.size := Nat.lt_of_lt_of_le l43 (hb).size
      have l61 : w_7.heap.size < w_8.heap.size := Nat.lt_of_lt_of_le l47 (hb).size
      clear f40 f41 f42 f44 f45 f46 l43 l47
      have HB62 := Lib.hid (below_of HB49.out hb HB49.out.size)
      have HR63 := Lib.hid (ings_kept hb HR50.out)
      clear HR50
      have HR64 := Lib.hid (iv_kept hb HR51.out)
      clear HR51
      clear hb 
      go_wp2_with fail
      refine (toIngs_any z0 _ _ (ings_kept HB62.out HY0.out)).mono ?_
      rintro e w_9 ⟨vt, rfl, ho, hb⟩
      have HT := Lib.hid (own_ings HYL0.out ho)
      have S65 : w_8.heap.size ≤ w_9.heap.size := (hb).size
      have f66 : w_9.cell? ⟨w_4.heap.size, 0, none⟩ = some (.int .i64 qx) := (below_cell hb _ _ l60).trans f54
      have f67 : w_9.cell? ⟨w_4.heap.size, 1, none⟩ = some (.int .i64 qy) := (below_cell hb _ _ l60).trans f55
      have f68 : w_9.cell? ⟨w_4.heap.size, 2, none⟩ = some (.int .i64 qz) := (below_cell hb _ _ l60).trans f56
      have f69 : w_9.cell? ⟨w_7.heap.size, 0, none⟩ = some (.int .i64 qx) := (below_cell hb _ _ l61).trans f57
      have f70 : w_9.cell? ⟨w_7.heap.size, 1, none⟩ = some (.int .i64 qy) := (below_cell hb _ _ l61).trans f58
      have f71 : w_9.cell? ⟨w_7.heap.size, 2, none⟩ = some (.int .i64 qz) := (below_cell hb _ _ l61).trans f59
      have l72 : w_4.heap.size < w_9.heap.size := Nat.lt_of_lt_of_le l60 (hb).size
      have l73 : w_7.heap.size < w_9.heap.size := Nat.lt_of_lt_of_le l61 (hb).size
      clear f54 f55 f56 f57 f58 f59 l60 l61
      have HB74 := Lib.hid (below_of HB62.out hb HB62.out.size)
      have HR75 := Lib.hid (ings_kept hb HR63.out)
      clear HR63
      have HR76 := Lib.hid (iv_kept hb HR64.out)
      clear HR64
      clear hb ho
      go_wp2_with fail
      refine (eqIngs_at z0 _ _ _ (HR75.out) HT.out).mono ?_
      rintro e w_10 ⟨rfl, hb⟩
      have S77 : w_9.heap.size ≤ w_10.heap.size := (hb).size
      have f78 : w_10.cell? ⟨w_4.heap.size, 0, none⟩ = some (.int .i64 qx) := (below_cell hb _ _ l72).trans f66
      have f79 : w_10.cell? ⟨w_4.heap.size, 1, none⟩ = some (.int .i64 qy) := (below_cell hb _ _ l72).trans f67
      have f80 : w_10.cell? ⟨w_4.heap.size, 2, none⟩ = some (.int .i64 qz) := (below_cell hb _ _ l72).trans f68
      have f81 : w_10.cell? ⟨w_7.heap.size, 0, none⟩ = some (.int .i64 qx) := (below_cell hb _ _ l73).trans f69
      have f82 : w_10.cell? ⟨w_7.heap.size, 1, none⟩ = some (.int .i64 qy) := (below_cell hb _ _ l73).trans f70
      have f83 : w_10.cell? ⟨w_7.heap.size, 2, none⟩ = some (.int .i64 qz) := (below_cell hb _ _ l73).trans f71
      have l84 : w_4.heap.size < w_10.heap.size := Nat.lt_of_lt_of_le l72 (hb).size
      have l85 : w_7.heap.size < w_10.heap.size := Nat.lt_of_lt_of_le l73 (hb).size
      clear f66 f67 f68 f69 f70 f71 l72 l73
      have HB86 := Lib.hid (below_of HB74.out hb HB74.out.size)
      have HR87 := Lib.hid (ings_kept hb HR75.out)
      clear HR75
      have HR88 := Lib.hid (iv_kept hb HR76.out)
      clear HR76
      clear hb HT
      go_wp2_with fail
      refine (toInts_any z1 _ _ (ints_kept HB86.out HY1.out)).mono ?_
      rintro e w_11 ⟨vt, rfl, ho, hb⟩
      have HT := Lib.hid (own_ints HYL1.out ho)
      have S89 : w_10.heap.size ≤ w_11.heap.size := (hb).size
      have f90 : w_11.cell? ⟨w_4.heap.size, 0, none⟩ = some (.int .i64 qx) := (below_cell hb _ _ l84).trans f78
      have f91 : w_11.cell? ⟨w_4.heap.size, 1, none⟩ = some (.int .i64 qy) := (below_cell hb _ _ l84).trans f79
      have f92 : w_11.cell? ⟨w_4.heap.size, 2, none⟩ = some (.int .i64 qz) := (below_cell hb _ _ l84).trans f80
      have f93 : w_11.cell? ⟨w_7.heap.size, 0, none⟩ = some (.int .i64 qx) := (below_cell hb _ _ l85).trans f81
      have f94 : w_11.cell? ⟨w_7.heap.size, 1, none⟩ = some (.int .i64 qy) := (below_cell hb _ _ l85).trans f82
      have f95 : w_11.cell? ⟨w_7.heap.size, 2, none⟩ = some (.int .i64 qz) := (below_cell hb _ _ l85).trans f83
      have l96 : w_4.heap.size < w_11.heap.size := Nat.lt_of_lt_of_le l84 (hb).size
      have l97 : w_7.heap.size < w_11.heap.size := Nat.lt_of_lt_of_le l85 (hb).size
      clear f78 f79 f80 f81 f82 f83 l84 l85
      have HB98 := Lib.hid (below_of HB86.out hb HB86.out.size)
      have HR99 := Lib.hid (ings_kept hb HR87.out)
      clear HR87
      have HR100 := Lib.hid (iv_kept hb HR88.out)
      clear HR88
      clear hb ho
      go_wp2_with fail
      refine (eqInts_at z1 _ _ _ (iv_ints HYL1.out HR100.out) HT.out).mono ?_
      rintro e w_12 ⟨rfl, hb⟩
      have S101 : w_11.heap.size ≤ w_12.heap.size := (hb).size
      have f102 : w_12.cell? ⟨w_4.heap.size, 0, none⟩ = some (.int .i64 qx) := (below_cell hb _ _ l96).trans f90
      have f103 : w_12.cell? ⟨w_4.heap.size, 1, none⟩ = some (.int .i64 qy) := (below_cell hb _ _ l96).trans f91
      have f104 : w_12.cell? ⟨w_4.heap.size, 2, none⟩ = some (.int .i64 qz) := (below_cell hb _ _ l96).trans f92
      have f105 : w_12.cell? ⟨w_7.heap.size, 0, none⟩ = some (.int .i64 qx) := (below_cell hb _ _ l97).trans f93
      have f106 : w_12.cell? ⟨w_7.heap.size, 1, none⟩ = some (.int .i64 qy) := (below_cell hb _ _ l97).trans f94
      have f107 : w_12.cell? ⟨w_7.heap.size, 2, none⟩ = some (.int .i64 qz) := (below_cell hb _ _ l97).trans f95
      have l108 : w_4.heap.size < w_12.heap.size := Nat.lt_of_lt_of_le l96 (hb).size
      have l109 : w_7.heap.size < w_12.heap.size := Nat.lt_of_lt_of_le l97 (hb).size
      clear f90 f91 f92 f93 f94 f95 l96 l97
      have HB110 := Lib.hid (below_of HB98.out hb HB98.out.size)
      have HR111 := Lib.hid (ings_kept hb HR99.out)
      clear HR99
      have HR112 := Lib.hid (iv_kept hb HR100.out)
      clear HR100
      clear hb HT
      go_wp2
      go_ret
      exact ⟨rfl, HB110.out⟩
    · have HL0 := Lib.hid (show leftG len0 (lenG z0 len0) = -1 by exact leftG_no (by omega))
      go_enter Try.func8, Try.ntmps8
      go_wp2_with fail
      refine (szIngs_any z0 _ _ (ings_kept (Below.refl _ _) HY0.out) HSO0.out).mono ?_
      rintro e w_13 ⟨rfl, hb⟩
      rw [HZN0.out, HL0.out]
      have S113 : w.heap.size ≤ w_13.heap.size := (hb).size
      have HB114 := Lib.hid (hb)
      clear hb 
      go_wp2
      go_ret
      exact ⟨rfl, HB114.out⟩
  · clear hI0
    go_enter Try.func8, Try.ntmps8
    go_wp2_with fail
    refine (szIngs_big p0 len0 cap0 _ hlen0 (by omega)).mono ?_
    rintro e wB ⟨rfl, hb⟩
    have HBB := Lib.hid hb
    clear hb
    go_wp2
    go_ret
    exact ⟨rfl, HBB.out⟩

set_option maxRecDepth 100000 in
theorem contract (H : Type) (enc : TypeId × Value → H) (W : World) (base : Nat) (args : Array Value) (ds gs : List (DataW H)) (before : List MemPlace)
    (hval : ∀ (j : Nat) t v, Try.f8.params[j]? = some t → args[j]? = some v → Value.okWide Try.prog W .any base t v)
    (hW : DataW.Whole enc Try.prog Try.f8.params.toList Rows.fnExactMixOfSpec.vars false W args.toList ds gs before) :
    Calls Try.prog 8 args W fun e W' => ∃ v, e = .returned v ∧ Rows.fnExactMixOfSpec.post enc Try.prog Try.f8 false true false false W args v W' := by
  have hW' := hW
  obtain ⟨p, q, hA0, hV, rfl, hfz, hnd⟩ := hW
  have hA : DataW.TrodAll enc Try.prog W 0 (fun _ => true) true Try.f8.params.toList args.toList ds p := hA0
  rw [Try.params8] at hA hval
  obtain ⟨v0, vs0, d0, ds0, p0, q0, hargs, rfl, rfl, h0, r0⟩ := trodAll_cons hA
  obtain ⟨v1, vs1, d1, ds1, p1, q1, hargs1, rfl, rfl, h1, r1⟩ := trodAll_cons r0
  subst hargs1
  obtain ⟨rfl, rfl, rfl⟩ := trodAll_nil r1
  obtain rfl : args = #[v0, v1] := by cases args; simp_all
  obtain ⟨rfl, rfl⟩ := trodVars_none hV
  simp only [List.append_nil] at hW'
  have hlt0 : ∀ x ∈ p0, x.block < W.heap.size := fun x hx => hW'.lt x (by simp [hx])
  have kept0 := fun (W2 : World) (hb : Below W.heap.size W W2) => Below.trod laidOut (by kernel_rfl) (of_decide_eq_true (by kernel_rfl)) h0 hb hlt0
  obtain ⟨a0, len0, cap0, rfl⟩ := okWide_slice Try.underlying41 (hval 0 41 v0 rfl rfl)
  obtain ⟨fuel0, hf0⟩ := h0
  obtain ⟨w0, hI0⟩ := ings_arg hf0 hlt0
  have hlt1 : ∀ x ∈ p1, x.block < W.heap.size := fun x hx => hW'.lt x (by simp [hx])
  have kept1 := fun (W2 : World) (hb : Below W.heap.size W W2) => Below.trod laidOut (by kernel_rfl) (of_decide_eq_true (by kernel_rfl)) h1 hb hlt1
  obtain ⟨a1, len1, cap1, rfl⟩ := okWide_slice Try.underlying63 (hval 1 63 v1 rfl rfl)
  obtain ⟨fuel1, hf1⟩ := h1
  obtain ⟨w1, hI1⟩ := ints_arg hf1 hlt1
  clear hA0
  refine (walk a0 len0 cap0 a1 len1 cap1 w0 w1 W hI0 hI1).mono fun e W' ⟨he, hg⟩ => ?_
  subst he
  refine ⟨_, rfl, post_at (pa := p0 ++ p1) (pv := []) hW' (by simp) hg (fun _ _ => (trodAll_cons_mk (shut_bool Try.underlying4 _) trodAll_mk0)) ?_ rfl⟩
  have hk := (trodAll_cons_mk (kept0 W' hg) (trodAll_cons_mk (kept1 W' hg) trodAll_mk0))
  simp only [List.append_nil] at hk
  exact hk

set_option maxRecDepth 100000 in
theorem lifted (os : Os) (started : os.Started) (H : Type) (enc : TypeId × Value → H) :
    ReturnsInHanded {} Try.checked os 8 .any (Rows.fnExactMixOfSpec.pre6 enc Try.prog Try.f8 Rows.fnExactMixOfRow.domain false) (Rows.fnExactMixOfSpec.post enc Try.prog Try.f8 false true false false) := by
  refine returnsInHanded_of_change (C := Try.checked) own started (by kernel_rfl) Try.func8
    (ChangeSpec.witness6 (enc := enc) (C := Try.checked) false ⟨#[], #[.slice none 0 0, .slice none 0 0], []⟩ 8 (by kernel_rfl) (by kernel_rfl) (by kernel_rfl) (by kernel_rfl)) ?_
  intro W base args ds gs before hval0 hW hcnd _
  have hval : ∀ (j : Nat) t v, Try.f8.params[j]? = some t → args[j]? = some v → Value.okWide Try.prog W .any base t v := hval0
  exact contract H enc W base args ds gs before hval hW

theorem over : Rows.fnExactMixOfRow.holds Try.pinned (OpenSpec.ofChange Rows.fnExactMixOfSpec) :=
  OpenClaim.holds_of_wide 8 Try.f8 rfl rfl rfl rfl rfl rfl rfl ⟨rfl, rfl, rfl, rfl, rfl⟩ rfl rfl rfl rfl rfl (by kernel_rfl) Try.func8 (by kernel_rfl)
    (of_decide_eq_true (by kernel_rfl)) (by unfold Func.isWrapper; first | (rw [if_pos (by decide +kernel)]; kernel_rfl) | (rw [if_neg (by decide +kernel)]; exact ⟨rfl, rfl⟩))
    (fun os started H enc _ => lifted os started H enc)
end Go.Proofs.Ytikoehjalcljnaa.fnExactMixOf

namespace Go.Proofs.Ytikoehjalcljnaa
/-- The given statement. -/
theorem fnExactMixOf_holds : Rows.FnExactMixOfSaid := fnExactMixOf.over
#print axioms fnExactMixOf_holds
end Go.Proofs.Ytikoehjalcljnaa
