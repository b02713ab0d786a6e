/- At every argument FitsDemand answers as its model, and its arguments are as they were. -/
import Derived.Test.YtikoehjalcljnaaRows
import Derived.Test.YtikoehjalcljnaaBase
import Derived.Test.YtikoehjalcljnaaLaidOut
import Derived.Test.YtikoehjalcljnaaIngArg
import Derived.Test.YtikoehjalcljnaaFitD
namespace Go.Proofs.Ytikoehjalcljnaa.fnExactFitsDemand
open Go.ChangeShapes Go.WideShapes Go.ChangeAt Go.RowKit
open Go.ChangeMaps (open_string shut_string)
set_option linter.unusedVariables false

theorem own : ownKnob Try.prog.godebug = none := by kernel_rfl

set_option maxRecDepth 100000 in
set_option maxHeartbeats 8000000 in
theorem walk (p0 : Option Addr) (len0 cap0 : Nat) (p1 : Option Addr) (len1 cap1 : Nat) (s2a s2b s2c s2e s2f : Int) (w0 : len0 ≤ 9223372036854775807) (w1 : len1 ≤ 9223372036854775807) (w2 : (Lit.int .i64 s2a).wf = true ∧ (Lit.int .i64 s2b).wf = true ∧ (Lit.int .i64 s2c).wf = true ∧ (Lit.int .i64 s2e).wf = true ∧ (Lit.int .i64 s2f).wf = true) (w : World) (hI0 : len0 ≤ 1048576 → ∃ zs : List Gt, zs.length = len0 ∧ IngsAt w (.slice p0 len0 cap0) zs ∧ SzOkG zs) (hI1 : len1 ≤ 1048576 → ∃ zs : List Int, zs.length = len1 ∧ IntsAt w (.slice p1 len1 cap1) zs ∧ ∀ z ∈ zs, (Lit.int .i64 z).wf = true) :
    Calls Try.prog 10 #[.slice p0 len0 cap0, .slice p1 len1 cap1, .agg #[.int .i64 s2a, .int .i64 s2b, .int .i64 s2c, .int .i64 s2e, .int .i64 s2f]] w fun e w' => e = .returned (.bool true) ∧ Below w.heap.size w w' := by
  have hlen0 := w0
  clear w0
  have hlen1 := w1
  clear w1
  have hw2 := Lib.hid w2
  clear w2
  by_cases hbz1 : 1048576 < len1
  · clear hI0 hI1
    go_enter Try.func10, Try.ntmps10
    go_wp2
    go_ret
    exact ⟨rfl, below_alG _ _⟩
  obtain ⟨z1, hzn1, hzi1, hzw1⟩ := hI1 (by omega)
  have HZN1 := Lib.hid hzn1
  have HZW1 := Lib.hid hzw1
  have HY1 := Lib.hid hzi1
  have HYL1 := Lib.hid (show z1.length ≤ 1048576 by omega)
  clear hzn1 hzi1 hzw1 hI1
  by_cases hbig0G : len0 ≤ 1048576
  · obtain ⟨z0, hzn0, hzi0, hzs0⟩ := hI0 hbig0G
    have HZN0 := Lib.hid hzn0
    have HY0 := Lib.hid hzi0
    have HYL0 := Lib.hid (show z0.length ≤ 1048576 by omega)
    have HSO0 := Lib.hid hzs0
    clear hzn0 hzi0 hzs0 hI0
    by_cases hbig0 : (len0 + lenG z0 len0) ≤ 1048576
    · obtain ⟨T1, hT1⟩ : ∃ T, (len0 + lenG z0 len0) = T := ⟨_, rfl⟩
      have HL0 := Lib.hid (show leftG len0 (lenG z0 len0) = 1048576 - (T1 : Int) by rw [leftG_yes (by omega)]; omega)
      have hTb1 : T1 ≤ 1048576 := by omega
      clear hbig0G
      have hTl0 : len0 ≤ 1048576 := by omega
      clear hT1 hbig0
      obtain ⟨r0, hsp, him⟩ : ∃ (r0 : Bool), (∀ u0 u1 w, IngsAt w u0 z0 → IntsAt w u1 z1 → Calls Try.prog 41 #[u0, u1, .agg #[.int .i64 s2a, .int .i64 s2b, .int .i64 s2c, .int .i64 s2e, .int .i64 s2f]] w (fun e w' => e = .returned (.bool r0) ∧ Below w.heap.size w w')) ∧ (∀ u0 u1 w, IngsAt w u0 z0 → IntsAt w u1 z1 → Calls Try.prog 42 #[u0, u1, .agg #[.int .i64 s2a, .int .i64 s2b, .int .i64 s2c, .int .i64 s2e, .int .i64 s2f]] w (fun e w' => e = .returned (.bool r0) ∧ Below w.heap.size w w')) :=
        ⟨fdB z0 z1 s2a s2b s2c s2e s2f, fun u0 u1 w h h1 => specFD_any z0 u0 z1 u1 s2a s2b s2c s2e s2f w h HSO0.out h1, fun u0 u1 w h h1 => implFD_any z0 u0 z1 u1 s2a s2b s2c s2e s2f w h HSO0.out h1⟩
      have hrr0 : (r0 != r0) = false := by simp
      have HSP := Lib.hid hsp
      have HIM := Lib.hid him
      clear hsp him
      go_enter Try.func10, Try.ntmps10
      have f1 : (w.alloc (.cells #[.int .i64 s2a, .int .i64 s2b, .int .i64 s2c, .int .i64 s2e, .int .i64 s2f] 49)).cell? ⟨w.heap.size, 0, none⟩ = some (.int .i64 s2a) := by go_simp
      have f2 : (w.alloc (.cells #[.int .i64 s2a, .int .i64 s2b, .int .i64 s2c, .int .i64 s2e, .int .i64 s2f] 49)).cell? ⟨w.heap.size, 1, none⟩ = some (.int .i64 s2b) := by go_simp
      have f3 : (w.alloc (.cells #[.int .i64 s2a, .int .i64 s2b, .int .i64 s2c, .int .i64 s2e, .int .i64 s2f] 49)).cell? ⟨w.heap.size, 2, none⟩ = some (.int .i64 s2c) := by go_simp
      have f4 : (w.alloc (.cells #[.int .i64 s2a, .int .i64 s2b, .int .i64 s2c, .int .i64 s2e, .int .i64 s2f] 49)).cell? ⟨w.heap.size, 3, none⟩ = some (.int .i64 s2e) := by go_simp
      have f5 : (w.alloc (.cells #[.int .i64 s2a, .int .i64 s2b, .int .i64 s2c, .int .i64 s2e, .int .i64 s2f] 49)).cell? ⟨w.heap.size, 4, none⟩ = some (.int .i64 s2f) := by go_simp
      have l6 : w.heap.size < (w.alloc (.cells #[.int .i64 s2a, .int .i64 s2b, .int .i64 s2c, .int .i64 s2e, .int .i64 s2f] 49)).heap.size := by simp
      have S7 : w.heap.size + 1 ≤ (w.alloc (.cells #[.int .i64 s2a, .int .i64 s2b, .int .i64 s2c, .int .i64 s2e, .int .i64 s2f] 49)).heap.size := by simp <;> omega
      have HB8 := Lib.hid ((below_alG w (.cells #[.int .i64 s2a, .int .i64 s2b, .int .i64 s2c, .int .i64 s2e, .int .i64 s2f] 49)))
      go_wp2_with fail
      generalize (w.alloc (.cells #[.int .i64 s2a, .int .i64 s2b, .int .i64 s2c, .int .i64 s2e, .int .i64 s2f] 49)) = wb at *
      refine (szIngs_any z0 _ _ (ings_kept HB8.out HY0.out) HSO0.out).mono ?_
      rintro e w_1 ⟨rfl, hb⟩
      rw [HZN0.out, HL0.out]
      have S9 : wb.heap.size ≤ w_1.heap.size := (hb).size
      have f10 : w_1.cell? ⟨w.heap.size, 0, none⟩ = some (.int .i64 s2a) := (below_cell hb _ _ l6).trans f1
      have f11 : w_1.cell? ⟨w.heap.size, 1, none⟩ = some (.int .i64 s2b) := (below_cell hb _ _ l6).trans f2
      have f12 : w_1.cell? ⟨w.heap.size, 2, none⟩ = some (.int .i64 s2c) := (below_cell hb _ _ l6).trans f3
      have f13 : w_1.cell? ⟨w.heap.size, 3, none⟩ = some (.int .i64 s2e) := (below_cell hb _ _ l6).trans f4
      have f14 : w_1.cell? ⟨w.heap.size, 4, none⟩ = some (.int .i64 s2f) := (below_cell hb _ _ l6).trans f5
      have l15 : w.heap.size < w_1.heap.size := Nat.lt_of_lt_of_le l6 (hb).size
      clear f1 f2 f3 f4 f5 l6
      have HB16 := Lib.hid (below_of HB8.out hb HB8.out.size)
      clear hb 
      go_wp2_with fail
      have hbd : Below w_1.heap.size w_1 w_1.drew := ⟨rfl, rfl, rfl, Nat.le_refl _, fun _ _ => rfl⟩
      have HI0 := Lib.hid (ings_kept HB16.out HY0.out)
      have HI1 := Lib.hid (ints_kept HB16.out HY1.out)
      have HSK := Lib.hid (fun W (hW : Below w_1.heap.size w_1 W) => show W.cell? ⟨w.heap.size, 0, none⟩ = some (.int .i64 s2a) ∧ W.cell? ⟨w.heap.size, 1, none⟩ = some (.int .i64 s2b) ∧ W.cell? ⟨w.heap.size, 2, none⟩ = some (.int .i64 s2c) ∧ W.cell? ⟨w.heap.size, 3, none⟩ = some (.int .i64 s2e) ∧ W.cell? ⟨w.heap.size, 4, none⟩ = some (.int .i64 s2f) ∧ Below w_1.heap.size w_1 W from ⟨(below_cell hW _ _ l15).trans f10, (below_cell hW _ _ l15).trans f11, (below_cell hW _ _ l15).trans f12, (below_cell hW _ _ l15).trans f13, (below_cell hW _ _ l15).trans f14, hW⟩)
      go_region_held3 (fun W => W.cell? ⟨w.heap.size, 0, none⟩ = some (.int .i64 s2a) ∧ W.cell? ⟨w.heap.size, 1, none⟩ = some (.int .i64 s2b) ∧ W.cell? ⟨w.heap.size, 2, none⟩ = some (.int .i64 s2c) ∧ W.cell? ⟨w.heap.size, 3, none⟩ = some (.int .i64 s2e) ∧ W.cell? ⟨w.heap.size, 4, none⟩ = some (.int .i64 s2f) ∧ Below w_1.heap.size w_1 W)
        (first | exact HSK.out _ hbd | exact HSK.out _ hbr0 | exact HSK.out _ hbr1 | exact HSK.out _ hbr2 | exact HSK.out _ hbrf | assumption)
        (first
          | (go_at_call 24; refine (toIngs_any z0 _ _ (ings_kept hbd HI0.out)).mono ?_; rintro e wR17_0 ⟨vx0, rfl, ho0, hbq0⟩; have hbr0 := below_of hbd hbq0 hbd.size)
          | (go_at_call 35; refine (toInts_any z1 _ _ (ints_kept hbr0 HI1.out)).mono ?_; rintro e wR17_1 ⟨vx1, rfl, ho1, hbq1⟩; have hbr1 := below_of hbr0 hbq1 hbr0.size)
          | (go_at_call_of 28 (Value.agg #[.int .i64 s2a, .int .i64 s2b, .int .i64 s2c, .int .i64 s2e, .int .i64 s2f]); refine (toDemand_any s2a s2b s2c s2e s2f _).mono ?_; rintro e wR17_2 ⟨rfl, hbq2⟩; have hbr2 := below_of hbr1 hbq2 hbr1.size)
          | (go_at_call 41; refine (HSP.out vx0 vx1 _ (ings_kept hbq2 (ings_kept hbq1 (own_ings HYL0.out ho0))) (ints_kept hbq2 (own_ints HYL1.out ho1))).mono ?_; rintro e wR17_f ⟨rfl, hbf⟩; have hbrf := below_of hbr2 hbf hbr2.size))
      have hb := hbrf
      have S18 : w_1.heap.size ≤ wR17_0.heap.size := hbq0.size
      have S19 : wR17_0.heap.size ≤ wR17_1.heap.size := hbq1.size
      have S20 : wR17_1.heap.size ≤ wR17_2.heap.size := hbq2.size
      have S21 : wR17_2.heap.size ≤ wR17_f.heap.size := hbf.size
      have S22 : w_1.heap.size ≤ wR17_f.heap.size := (hb).size
      have f23 : wR17_f.cell? ⟨w.heap.size, 0, none⟩ = some (.int .i64 s2a) := (below_cell hb _ _ l15).trans f10
      have f24 : wR17_f.cell? ⟨w.heap.size, 1, none⟩ = some (.int .i64 s2b) := (below_cell hb _ _ l15).trans f11
      have f25 : wR17_f.cell? ⟨w.heap.size, 2, none⟩ = some (.int .i64 s2c) := (below_cell hb _ _ l15).trans f12
      have f26 : wR17_f.cell? ⟨w.heap.size, 3, none⟩ = some (.int .i64 s2e) := (below_cell hb _ _ l15).trans f13
      have f27 : wR17_f.cell? ⟨w.heap.size, 4, none⟩ = some (.int .i64 s2f) := (below_cell hb _ _ l15).trans f14
      have l28 : w.heap.size < wR17_f.heap.size := Nat.lt_of_lt_of_le l15 (hb).size
      clear f10 f11 f12 f13 f14 l15
      have HB29 := Lib.hid (below_of HB16.out hb HB16.out.size)
      clear hb hbd hbrf hbf HSK hbq0 hbr0 hbq1 hbr1 hbq2 hbr2 ho0 HI0 ho1 HI1
      go_wp2_with fail
      refine (toIngs_any z0 _ _ (ings_kept HB29.out HY0.out)).mono ?_
      rintro e w_2 ⟨vx0, rfl, ho, hb⟩
      obtain ⟨aZ0, cZ0, rfl⟩ := own_ings_form ho
      have HX0R := Lib.hid (own_ings HYL0.out ho)
      rw [HZN0.out] at HX0R ⊢
      have S30 : wR17_f.heap.size ≤ w_2.heap.size := (hb).size
      have f31 : w_2.cell? ⟨w.heap.size, 0, none⟩ = some (.int .i64 s2a) := (below_cell hb _ _ l28).trans f23
      have f32 : w_2.cell? ⟨w.heap.size, 1, none⟩ = some (.int .i64 s2b) := (below_cell hb _ _ l28).trans f24
      have f33 : w_2.cell? ⟨w.heap.size, 2, none⟩ = some (.int .i64 s2c) := (below_cell hb _ _ l28).trans f25
      have f34 : w_2.cell? ⟨w.heap.size, 3, none⟩ = some (.int .i64 s2e) := (below_cell hb _ _ l28).trans f26
      have f35 : w_2.cell? ⟨w.heap.size, 4, none⟩ = some (.int .i64 s2f) := (below_cell hb _ _ l28).trans f27
      have l36 : w.heap.size < w_2.heap.size := Nat.lt_of_lt_of_le l28 (hb).size
      clear f23 f24 f25 f26 f27 l28
      have HB37 := Lib.hid (below_of HB29.out hb HB29.out.size)
      clear hb ho
      go_wp2_with fail
      refine (toInts_any z1 _ _ (ints_kept HB37.out HY1.out)).mono ?_
      rintro e w_3 ⟨vx1, rfl, ho, hb⟩
      have hv := iv_own ho
      obtain ⟨aZ1, cZ1, rfl⟩ := iv_form hv
      rw [HZN1.out] at hv ⊢
      have HX1I := Lib.hid (iv_in hv)
      have HX1R := Lib.hid hv
      clear hv
      have S38 : w_2.heap.size ≤ w_3.heap.size := (hb).size
      have f39 : w_3.cell? ⟨w.heap.size, 0, none⟩ = some (.int .i64 s2a) := (below_cell hb _ _ l36).trans f31
      have f40 : w_3.cell? ⟨w.heap.size, 1, none⟩ = some (.int .i64 s2b) := (below_cell hb _ _ l36).trans f32
      have f41 : w_3.cell? ⟨w.heap.size, 2, none⟩ = some (.int .i64 s2c) := (below_cell hb _ _ l36).trans f33
      have f42 : w_3.cell? ⟨w.heap.size, 3, none⟩ = some (.int .i64 s2e) := (below_cell hb _ _ l36).trans f34
      have f43 : w_3.cell? ⟨w.heap.size, 4, none⟩ = some (.int .i64 s2f) := (below_cell hb _ _ l36).trans f35
      have l44 : w.heap.size < w_3.heap.size := Nat.lt_of_lt_of_le l36 (hb).size
      clear f31 f32 f33 f34 f35 l36
      have HB45 := Lib.hid (below_of HB37.out hb HB37.out.size)
      have HR46 := Lib.hid (ings_kept hb HX0R.out)
      clear HX0R
      clear hb ho
      go_wp2_with fail
      refine (toDemand_any s2a s2b s2c s2e s2f _).mono ?_
      rintro e w_4 ⟨rfl, hb⟩
      have S47 : w_3.heap.size ≤ w_4.heap.size := (hb).size
      have f48 : w_4.cell? ⟨w.heap.size, 0, none⟩ = some (.int .i64 s2a) := (below_cell hb _ _ l44).trans f39
      have f49 : w_4.cell? ⟨w.heap.size, 1, none⟩ = some (.int .i64 s2b) := (below_cell hb _ _ l44).trans f40
      have f50 : w_4.cell? ⟨w.heap.size, 2, none⟩ = some (.int .i64 s2c) := (below_cell hb _ _ l44).trans f41
      have f51 : w_4.cell? ⟨w.heap.size, 3, none⟩ = some (.int .i64 s2e) := (below_cell hb _ _ l44).trans f42
      have f52 : w_4.cell? ⟨w.heap.size, 4, none⟩ = some (.int .i64 s2f) := (below_cell hb _ _ l44).trans f43
      have l53 : w.heap.size < w_4.heap.size := Nat.lt_of_lt_of_le l44 (hb).size
      clear f39 f40 f41 f42 f43 l44
      have HB54 := Lib.hid (below_of HB45.out hb HB45.out.size)
      have HR55 := Lib.hid (ings_kept hb HR46.out)
      clear HR46
      have HR56 := Lib.hid (iv_kept hb HX1R.out)
      clear HX1R
      clear hb 
      go_wp2_with fail
      refine (HIM.out _ _ _ (HR55.out) (iv_ints HYL1.out HR56.out)).mono ?_
      rintro e w_5 ⟨rfl, hb⟩
      have S57 : w_4.heap.size ≤ w_5.heap.size := (hb).size
      have f58 : w_5.cell? ⟨w.heap.size, 0, none⟩ = some (.int .i64 s2a) := (below_cell hb _ _ l53).trans f48
      have f59 : w_5.cell? ⟨w.heap.size, 1, none⟩ = some (.int .i64 s2b) := (below_cell hb _ _ l53).trans f49
      have f60 : w_5.cell? ⟨w.heap.size, 2, none⟩ = some (.int .i64 s2c) := (below_cell hb _ _ l53).trans f50
      have f61 : w_5.cell? ⟨w.heap.size, 3, none⟩ = some (.int .i64 s2e) := (below_cell hb _ _ l53).trans f51
      have f62 : w_5.cell? ⟨w.heap.size, 4, none⟩ = some (.int .i64 s2f) := (below_cell hb _ _ l53).trans f52
      have l63 : w.heap.size < w_5.heap.size := Nat.lt_of_lt_of_le l53 (hb).size
      clear f48 f49 f50 f51 f52 l53
      have HB64 := Lib.hid (below_of HB54.out hb HB54.out.size)
      have HR65 := Lib.hid (ings_kept hb HR55.out)
      clear HR55
      have HR66 := Lib.hid (iv_kept hb HR56.out)
      clear HR56
      clear hb 
      go_wp2_with fail
      refine (toIngs_any z0 _ _ (ings_kept HB64.out HY0.out)).mono ?_
      rintro e w_6 ⟨vt, rfl, ho, hb⟩
      have HT := Lib.hid (own_ings HYL0.out ho)
      have S67 : w_5.heap.size ≤ w_6.heap.size := (hb).size
      have f68 : w_6.cell? ⟨w.heap.size, 0, none⟩ = some (.int .i64 s2a) := (below_cell hb _ _ l63).trans f58
      have f69 : w_6.cell? ⟨w.heap.size, 1, none⟩ = some (.int .i64 s2b) := (below_cell hb _ _ l63).trans f59
      have f70 : w_6.cell? ⟨w.heap.size, 2, none⟩ = some (.int .i64 s2c) := (below_cell hb _ _ l63).trans f60
      have f71 : w_6.cell? ⟨w.heap.size, 3, none⟩ = some (.int .i64 s2e) := (below_cell hb _ _ l63).trans f61
      have f72 : w_6.cell? ⟨w.heap.size, 4, none⟩ = some (.int .i64 s2f) := (below_cell hb _ _ l63).trans f62
      have l73 : w.heap.size < w_6.heap.size := Nat.lt_of_lt_of_le l63 (hb).size
      clear f58 f59 f60 f61 f62 l63
      have HB74 := Lib.hid (below_of HB64.out hb HB64.out.size)
      have HR75 := Lib.hid (ings_kept hb HR65.out)
      clear HR65
      have HR76 := Lib.hid (iv_kept hb HR66.out)
      clear HR66
      clear hb ho
      go_wp2_with fail
      refine (eqIngs_at z0 _ _ _ (HR75.out) HT.out).mono ?_
      rintro e w_7 ⟨rfl, hb⟩
      have S77 : w_6.heap.size ≤ w_7.heap.size := (hb).size
      have f78 : w_7.cell? ⟨w.heap.size, 0, none⟩ = some (.int .i64 s2a) := (below_cell hb _ _ l73).trans f68
      have f79 : w_7.cell? ⟨w.heap.size, 1, none⟩ = some (.int .i64 s2b) := (below_cell hb _ _ l73).trans f69
      have f80 : w_7.cell? ⟨w.heap.size, 2, none⟩ = some (.int .i64 s2c) := (below_cell hb _ _ l73).trans f70
      have f81 : w_7.cell? ⟨w.heap.size, 3, none⟩ = some (.int .i64 s2e) := (below_cell hb _ _ l73).trans f71
      have f82 : w_7.cell? ⟨w.heap.size, 4, none⟩ = some (.int .i64 s2f) := (below_cell hb _ _ l73).trans f72
      have l83 : w.heap.size < w_7.heap.size := Nat.lt_of_lt_of_le l73 (hb).size
      clear f68 f69 f70 f71 f72 l73
      have HB84 := Lib.hid (below_of HB74.out hb HB74.out.size)
      have HR85 := Lib.hid (ings_kept hb HR75.out)
      clear HR75
      have HR86 := Lib.hid (iv_kept hb HR76.out)
      clear HR76
      clear hb HT
      go_wp2_with fail
      refine (toInts_any z1 _ _ (ints_kept HB84.out HY1.out)).mono ?_
      rintro e w_8 ⟨vt, rfl, ho, hb⟩
      have HT := Lib.hid (own_ints HYL1.out ho)
      have S87 : w_7.heap.size ≤ w_8.heap.size := (hb).size
      have f88 : w_8.cell? ⟨w.heap.size, 0, none⟩ = some (.int .i64 s2a) := (below_cell hb _ _ l83).trans f78
      have f89 : w_8.cell? ⟨w.heap.size, 1, none⟩ = some (.int .i64 s2b) := (below_cell hb _ _ l83).trans f79
      have f90 : w_8.cell? ⟨w.heap.size, 2, none⟩ = some (.int .i64 s2c) := (below_cell hb _ _ l83).trans f80
      have f91 : w_8.cell? ⟨w.heap.size, 3, none⟩ = some (.int .i64 s2e) := (below_cell hb _ _ l83).trans f81
      have f92 : w_8.cell? ⟨w.heap.size, 4, none⟩ = some (.int .i64 s2f) := (below_cell hb _ _ l83).trans f82
      have l93 : w.heap.size < w_8.heap.size := Nat.lt_of_lt_of_le l83 (hb).size
      clear f78 f79 f80 f81 f82 l83
      have HB94 := Lib.hid (below_of HB84.out hb HB84.out.size)
      have HR95 := Lib.hid (ings_kept hb HR85.out)
      clear HR85
      have HR96 := Lib.hid (iv_kept hb HR86.out)
      clear HR86
      clear hb ho
      go_wp2_with fail
      refine (eqInts_at z1 _ _ _ (iv_ints HYL1.out HR96.out) HT.out).mono ?_
      rintro e w_9 ⟨rfl, hb⟩
      have S97 : w_8.heap.size ≤ w_9.heap.size := (hb).size
      have f98 : w_9.cell? ⟨w.heap.size, 0, none⟩ = some (.int .i64 s2a) := (below_cell hb _ _ l93).trans f88
      have f99 : w_9.cell? ⟨w.heap.size, 1, none⟩ = some (.int .i64 s2b) := (below_cell hb _ _ l93).trans f89
      have f100 : w_9.cell? ⟨w.heap.size, 2, none⟩ = some (.int .i64 s2c) := (below_cell hb _ _ l93).trans f90
      have f101 : w_9.cell? ⟨w.heap.size, 3, none⟩ = some (.int .i64 s2e) := (below_cell hb _ _ l93).trans f91
      have f102 : w_9.cell? ⟨w.heap.size, 4, none⟩ = some (.int .i64 s2f) := (below_cell hb _ _ l93).trans f92
      have l103 : w.heap.size < w_9.heap.size := Nat.lt_of_lt_of_le l93 (hb).size
      clear f88 f89 f90 f91 f92 l93
      have HB104 := Lib.hid (below_of HB94.out hb HB94.out.size)
      have HR105 := Lib.hid (ings_kept hb HR95.out)
      clear HR95
      have HR106 := Lib.hid (iv_kept hb HR96.out)
      clear HR96
      clear hb HT
      go_wp2
      go_ret
      exact ⟨rfl, HB104.out⟩
    · have HL0 := Lib.hid (show leftG len0 (lenG z0 len0) = -1 by exact leftG_no (by omega))
      go_enter Try.func10, Try.ntmps10
      have HB107 := Lib.hid ((below_alG w (.cells #[.int .i64 s2a, .int .i64 s2b, .int .i64 s2c, .int .i64 s2e, .int .i64 s2f] 49)))
      go_wp2_with fail
      generalize (w.alloc (.cells #[.int .i64 s2a, .int .i64 s2b, .int .i64 s2c, .int .i64 s2e, .int .i64 s2f] 49)) = wb at *
      refine (szIngs_any z0 _ _ (ings_kept HB107.out HY0.out) HSO0.out).mono ?_
      rintro e w_10 ⟨rfl, hb⟩
      rw [HZN0.out, HL0.out]
      have S108 : wb.heap.size ≤ w_10.heap.size := (hb).size
      have HB109 := Lib.hid (below_of HB107.out hb HB107.out.size)
      clear hb 
      go_wp2
      go_ret
      exact ⟨rfl, HB109.out⟩
  · clear hI0
    go_enter Try.func10, Try.ntmps10
    go_wp2_with fail
    refine (szIngs_big p0 len0 cap0 _ hlen0 (by omega)).mono ?_
    rintro e wB ⟨rfl, hb⟩
    have HBB := Lib.hid (below_of ((below_alG w (.cells #[.int .i64 s2a, .int .i64 s2b, .int .i64 s2c, .int .i64 s2e, .int .i64 s2f] 49))) hb (by simp))
    clear hb
    go_wp2
    go_ret
    exact ⟨rfl, HBB.out⟩

set_option maxRecDepth 100000 in
theorem contract (H : Type) (enc : TypeId × Value → H) (W : World) (base : Nat) (args : Array Value) (ds gs : List (DataW H)) (before : List MemPlace)
    (hval : ∀ (j : Nat) t v, Try.f10.params[j]? = some t → args[j]? = some v → Value.okWide Try.prog W .any base t v)
    (hW : DataW.Whole enc Try.prog Try.f10.params.toList Rows.fnExactFitsDemandSpec.vars false W args.toList ds gs before) :
    Calls Try.prog 10 args W fun e W' => ∃ v, e = .returned v ∧ Rows.fnExactFitsDemandSpec.post enc Try.prog Try.f10 false true false false W args v W' := by
  have hW' := hW
  obtain ⟨p, q, hA0, hV, rfl, hfz, hnd⟩ := hW
  have hA : DataW.TrodAll enc Try.prog W 0 (fun _ => true) true Try.f10.params.toList args.toList ds p := hA0
  rw [Try.params10] at hA hval
  obtain ⟨v0, vs0, d0, ds0, p0, q0, hargs, rfl, rfl, h0, r0⟩ := trodAll_cons hA
  obtain ⟨v1, vs1, d1, ds1, p1, q1, hargs1, rfl, rfl, h1, r1⟩ := trodAll_cons r0
  subst hargs1
  obtain ⟨v2, vs2, d2, ds2, p2, q2, hargs2, rfl, rfl, h2, r2⟩ := trodAll_cons r1
  subst hargs2
  obtain ⟨rfl, rfl, rfl⟩ := trodAll_nil r2
  obtain rfl : args = #[v0, v1, v2] := by cases args; simp_all
  obtain ⟨rfl, rfl⟩ := trodVars_none hV
  simp only [List.append_nil] at hW'
  have hlt0 : ∀ x ∈ p0, x.block < W.heap.size := fun x hx => hW'.lt x (by simp [hx])
  have kept0 := fun (W2 : World) (hb : Below W.heap.size W W2) => Below.trod laidOut (by kernel_rfl) (of_decide_eq_true (by kernel_rfl)) h0 hb hlt0
  obtain ⟨a0, len0, cap0, rfl⟩ := okWide_slice Try.underlying41 (hval 0 41 v0 rfl rfl)
  obtain ⟨fuel0, hf0⟩ := h0
  obtain ⟨w0, hI0⟩ := ings_arg hf0 hlt0
  have hlt1 : ∀ x ∈ p1, x.block < W.heap.size := fun x hx => hW'.lt x (by simp [hx])
  have kept1 := fun (W2 : World) (hb : Below W.heap.size W W2) => Below.trod laidOut (by kernel_rfl) (of_decide_eq_true (by kernel_rfl)) h1 hb hlt1
  obtain ⟨a1, len1, cap1, rfl⟩ := okWide_slice Try.underlying63 (hval 1 63 v1 rfl rfl)
  obtain ⟨fuel1, hf1⟩ := h1
  obtain ⟨w1, hI1⟩ := ints_arg hf1 hlt1
  have hlt2 : ∀ x ∈ p2, x.block < W.heap.size := fun x hx => hW'.lt x (by simp [hx])
  have kept2 := fun (W2 : World) (hb : Below W.heap.size W W2) => Below.trod laidOut (by kernel_rfl) (of_decide_eq_true (by kernel_rfl)) h2 hb hlt2
  obtain ⟨s2a, s2b, s2c, s2e, s2f, rfl, w2⟩ := demand_arg (hval 2 49 v2 rfl rfl) h2
  clear hA0
  refine (walk a0 len0 cap0 a1 len1 cap1 s2a s2b s2c s2e s2f w0 w1 w2 W hI0 hI1).mono fun e W' ⟨he, hg⟩ => ?_
  subst he
  refine ⟨_, rfl, post_at (pa := p0 ++ (p1 ++ p2)) (pv := []) hW' (by simp) hg (fun _ _ => (trodAll_cons_mk (shut_bool Try.underlying4 _) trodAll_mk0)) ?_ rfl⟩
  have hk := (trodAll_cons_mk (kept0 W' hg) (trodAll_cons_mk (kept1 W' hg) (trodAll_cons_mk (kept2 W' hg) trodAll_mk0)))
  simp only [List.append_nil] at hk
  exact hk

set_option maxRecDepth 100000 in
theorem lifted (os : Os) (started : os.Started) (H : Type) (enc : TypeId × Value → H) :
    ReturnsInHanded {} Try.checked os 10 .any (Rows.fnExactFitsDemandSpec.pre6 enc Try.prog Try.f10 Rows.fnExactFitsDemandRow.domain false) (Rows.fnExactFitsDemandSpec.post enc Try.prog Try.f10 false true false false) := by
  refine returnsInHanded_of_change (C := Try.checked) own started (by kernel_rfl) Try.func10
    (ChangeSpec.witness6 (enc := enc) (C := Try.checked) false ⟨#[], #[.slice none 0 0, .slice none 0 0, .agg #[.int .i64 0, .int .i64 0, .int .i64 0, .int .i64 0, .int .i64 0]], []⟩ 8 (by kernel_rfl) (by kernel_rfl) (by kernel_rfl) (by kernel_rfl)) ?_
  intro W base args ds gs before hval0 hW hcnd _
  have hval : ∀ (j : Nat) t v, Try.f10.params[j]? = some t → args[j]? = some v → Value.okWide Try.prog W .any base t v := hval0
  exact contract H enc W base args ds gs before hval hW

theorem over : Rows.fnExactFitsDemandRow.holds Try.pinned (OpenSpec.ofChange Rows.fnExactFitsDemandSpec) :=
  OpenClaim.holds_of_wide 10 Try.f10 rfl rfl rfl rfl rfl rfl rfl ⟨rfl, rfl, rfl, rfl, rfl⟩ rfl rfl rfl rfl rfl (by kernel_rfl) Try.func10 (by kernel_rfl)
    (of_decide_eq_true (by kernel_rfl)) (by unfold Func.isWrapper; first | (rw [if_pos (by decide +kernel)]; kernel_rfl) | (rw [if_neg (by decide +kernel)]; exact ⟨rfl, rfl⟩))
    (fun os started H enc _ => lifted os started H enc)
end Go.Proofs.Ytikoehjalcljnaa.fnExactFitsDemand

namespace Go.Proofs.Ytikoehjalcljnaa
/-- The given statement. -/
theorem fnExactFitsDemand_holds : Rows.FnExactFitsDemandSaid := fnExactFitsDemand.over
#print axioms fnExactFitsDemand_holds
end Go.Proofs.Ytikoehjalcljnaa
