/- At every list StandardModel answers as its model, and its argument is as it was. -/
import Derived.Test.YtpjopfhkgegahaaRows
import Derived.Test.YtpjopfhkgegahaaBase
import Derived.Test.YtpjopfhkgegahaaLaidOut
import Derived.Test.YtpjopfhkgegahaaModX
import Derived.Test.YtpjopfhkgegahaaStdP
import Derived.Test.YtpjopfhkgegahaaIntRes
import Derived.Deep.RegionHeld3
namespace Go.Proofs.Ytpjopfhkgegahaa.fnExactStandardModel
open Go.ChangeShapes Go.WideShapes Go.ChangeAt Go.RowKit
open Go.ChangeMaps (open_string shut_string)
set_option linter.unusedVariables false

theorem own : ownKnob Try.prog.godebug = none := by kernel_rfl

set_option maxRecDepth 100000 in
set_option maxHeartbeats 8000000 in
theorem walk (p0 : Option Addr) (len0 cap0 : Nat) (w0 : len0 ≤ 9223372036854775807) (w : World) (hI0 : len0 ≤ 1048576 → ∃ zs : List Int, zs.length = len0 ∧ IntsAt w (.slice p0 len0 cap0) zs ∧ ∀ z ∈ zs, (Lit.int .i64 z).wf = true) :
    Calls Try.prog 3 #[.slice p0 len0 cap0] w fun e w' => e = .returned (.bool true) ∧ Below w.heap.size w w' := by
  have hlen0 := w0
  clear w0
  by_cases hbz0 : 1048576 < len0
  · clear hI0
    go_enter Try.func3, Try.ntmps3
    go_wp2
    go_ret
    exact ⟨rfl, Below.refl _ _⟩
  obtain ⟨z0, hzn0, hzi0, hzw0⟩ := hI0 (by omega)
  have HZN0 := Lib.hid hzn0
  have HZW0 := Lib.hid hzw0
  have HY0 := Lib.hid hzi0
  have HYL0 := Lib.hid (show z0.length ≤ 1048576 by omega)
  clear hzn0 hzi0 hzw0 hI0
  obtain ⟨LZ, LW, LB, c1, hl1, hsp, him⟩ : ∃ (LZ : List Int) (LW : List (List Int)) (LB : List Int) (c1 : Int), LZ.length + (LW.length + lenS LW LW.length) + LB.length ≤ 1048576 ∧ (∀ u0 w, IntsAt w u0 z0 → Calls Try.prog 5 #[u0] w (ModU LZ LW LB c1 w)) ∧ (∀ u0 w, IntsAt w u0 z0 → Calls Try.prog 7 #[u0] w (ModU LZ LW LB c1 w)) :=
    ⟨stZ z0, stL z0, stB z0, stC z0, st_size z0, fun u w h => specStd_any z0 u w h, fun u w h => implStd_any z0 u w h⟩
  have HSP := Lib.hid hsp
  have HIM := Lib.hid him
  clear hsp him
  have hmL : LZ.length + lenS LW LW.length + LB.length ≤ 1048576 ∧ LW.length ≤ 1048576 ∧ LZ.length ≤ 1048576 ∧ LB.length ≤ 1048576 ∧ lenS LW LW.length ≤ 1048576 := by omega
  have HLL := Lib.hid hmL
  clear hl1
  have hq3 : ((1 + (LZ.length : Int) + (lenS LW LW.length : Nat) + (LB.length : Int)) != (1 + (LZ.length : Int) + (lenS LW LW.length : Nat) + (LB.length : Int))) = false := by simp
  have hpos : ¬ (1 + (LZ.length : Int) + (lenS LW LW.length : Nat) + (LB.length : Int)) < 0 := by omega
  have hpos2 : ¬ (1 + (len0 : Int)) < 0 := by omega
  have hccc1 : (c1 != c1) = false := by simp
  go_enter Try.func3, Try.ntmps3
  go_wp2_with fail
  refine (toInts_any z0 _ _ (ints_kept (Below.refl _ _) HY0.out)).mono ?_
  rintro e w_1 ⟨vx0, rfl, ho, hb⟩
  have HO1 := Lib.hid ((own_ints HYL0.out ho))
  have S2 : w.heap.size ≤ w_1.heap.size := (hb).size
  have HB3 := Lib.hid (hb)
  clear hb ho
  go_wp2_with fail
  refine (HSP.out vx0 _ HO1.out).mono ?_
  rintro e w_2 ⟨vwa, vwb, vwc, rfl, hv, hb⟩
  have hF := modAns_form hv
  obtain ⟨⟨aWa, cWa, rfl⟩, ⟨aWb, cWb, rfl⟩, ⟨aWc, cWc, rfl⟩⟩ := hF
  have HWR := Lib.hid hv
  clear hv
  have S4 : w_1.heap.size ≤ w_2.heap.size := (hb).size
  have HB5 := Lib.hid (below_of HB3.out hb HB3.out.size)
  clear hb HO1
  have f6 : (w_2.alloc (.cells #[.slice aWa LZ.length cWa, .slice aWb LW.length cWb, .slice aWc LB.length cWc] 25)).cell? ⟨w_2.heap.size, 0, none⟩ = some (.slice aWa LZ.length cWa) := by go_simp
  have f7 : (w_2.alloc (.cells #[.slice aWa LZ.length cWa, .slice aWb LW.length cWb, .slice aWc LB.length cWc] 25)).cell? ⟨w_2.heap.size, 1, none⟩ = some (.slice aWb LW.length cWb) := by go_simp
  have f8 : (w_2.alloc (.cells #[.slice aWa LZ.length cWa, .slice aWb LW.length cWb, .slice aWc LB.length cWc] 25)).cell? ⟨w_2.heap.size, 2, none⟩ = some (.slice aWc LB.length cWc) := by go_simp
  have l9 : w_2.heap.size < (w_2.alloc (.cells #[.slice aWa LZ.length cWa, .slice aWb LW.length cWb, .slice aWc LB.length cWc] 25)).heap.size := alloc_lt2 _ _
  have S10 : w_2.heap.size < (w_2.alloc (.cells #[.slice aWa LZ.length cWa, .slice aWb LW.length cWb, .slice aWc LB.length cWc] 25)).heap.size := alloc_lt2 _ _
  have HB11 := Lib.hid (below_of HB5.out (below_al w_2 (.cells #[.slice aWa LZ.length cWa, .slice aWb LW.length cWb, .slice aWc LB.length cWc] 25)) HB5.out.size)
  have HR12 := Lib.hid (modAns_kept (below_al w_2 (.cells #[.slice aWa LZ.length cWa, .slice aWb LW.length cWb, .slice aWc LB.length cWc] 25)) HWR.out)
  clear HWR
  go_wp2_with fail
  generalize (w_2.alloc (.cells #[.slice aWa LZ.length cWa, .slice aWb LW.length cWb, .slice aWc LB.length cWc] 25)) = wb13 at *
  refine (toInts_any z0 _ _ (ints_kept HB11.out HY0.out)).mono ?_
  rintro e w_3 ⟨vx0, rfl, ho, hb⟩
  have hv := iv_own ho
  obtain ⟨aZ0, cZ0, rfl⟩ := iv_form hv
  rw [HZN0.out] at hv ⊢
  have HX0I := Lib.hid (iv_in hv)
  have HX0R := Lib.hid hv
  clear hv
  have S14 : wb13.heap.size ≤ w_3.heap.size := (hb).size
  have f15 : w_3.cell? ⟨w_2.heap.size, 0, none⟩ = some (.slice aWa LZ.length cWa) := (below_cell hb _ _ l9).trans f6
  have f16 : w_3.cell? ⟨w_2.heap.size, 1, none⟩ = some (.slice aWb LW.length cWb) := (below_cell hb _ _ l9).trans f7
  have f17 : w_3.cell? ⟨w_2.heap.size, 2, none⟩ = some (.slice aWc LB.length cWc) := (below_cell hb _ _ l9).trans f8
  have l18 : w_2.heap.size < w_3.heap.size := Nat.lt_of_lt_of_le l9 (hb).size
  clear f6 f7 f8 l9
  have HB19 := Lib.hid (below_of HB11.out hb HB11.out.size)
  have HR20 := Lib.hid (modAns_kept hb HR12.out)
  clear HR12
  clear hb ho
  go_wp2_with fail
  refine (HIM.out _ _ (iv_ints HYL0.out HX0R.out)).mono ?_
  rintro e w_4 ⟨vga, vgb, vgc, rfl, hv, hb⟩
  have hF := modAns_form hv
  obtain ⟨⟨aGa, cGa, rfl⟩, ⟨aGb, cGb, rfl⟩, ⟨aGc, cGc, rfl⟩⟩ := hF
  have HGR := Lib.hid hv
  clear hv
  have S21 : w_3.heap.size ≤ w_4.heap.size := (hb).size
  have f22 : w_4.cell? ⟨w_2.heap.size, 0, none⟩ = some (.slice aWa LZ.length cWa) := (below_cell hb _ _ l18).trans f15
  have f23 : w_4.cell? ⟨w_2.heap.size, 1, none⟩ = some (.slice aWb LW.length cWb) := (below_cell hb _ _ l18).trans f16
  have f24 : w_4.cell? ⟨w_2.heap.size, 2, none⟩ = some (.slice aWc LB.length cWc) := (below_cell hb _ _ l18).trans f17
  have l25 : w_2.heap.size < w_4.heap.size := Nat.lt_of_lt_of_le l18 (hb).size
  clear f15 f16 f17 l18
  have HB26 := Lib.hid (below_of HB19.out hb HB19.out.size)
  have HR27 := Lib.hid (modAns_kept hb HR20.out)
  clear HR20
  have HR28 := Lib.hid (iv_kept hb HX0R.out)
  clear HX0R
  clear hb 
  have f29 : (w_4.alloc (.cells #[.slice aGa LZ.length cGa, .slice aGb LW.length cGb, .slice aGc LB.length cGc] 25)).cell? ⟨w_2.heap.size, 0, none⟩ = some (.slice aWa LZ.length cWa) := (below_cell (below_al w_4 (.cells #[.slice aGa LZ.length cGa, .slice aGb LW.length cGb, .slice aGc LB.length cGc] 25)) _ _ l25).trans f22
  have f30 : (w_4.alloc (.cells #[.slice aGa LZ.length cGa, .slice aGb LW.length cGb, .slice aGc LB.length cGc] 25)).cell? ⟨w_2.heap.size, 1, none⟩ = some (.slice aWb LW.length cWb) := (below_cell (below_al w_4 (.cells #[.slice aGa LZ.length cGa, .slice aGb LW.length cGb, .slice aGc LB.length cGc] 25)) _ _ l25).trans f23
  have f31 : (w_4.alloc (.cells #[.slice aGa LZ.length cGa, .slice aGb LW.length cGb, .slice aGc LB.length cGc] 25)).cell? ⟨w_2.heap.size, 2, none⟩ = some (.slice aWc LB.length cWc) := (below_cell (below_al w_4 (.cells #[.slice aGa LZ.length cGa, .slice aGb LW.length cGb, .slice aGc LB.length cGc] 25)) _ _ l25).trans f24
  have l32 : w_2.heap.size < (w_4.alloc (.cells #[.slice aGa LZ.length cGa, .slice aGb LW.length cGb, .slice aGc LB.length cGc] 25)).heap.size := Nat.lt_of_lt_of_le l25 (below_al w_4 (.cells #[.slice aGa LZ.length cGa, .slice aGb LW.length cGb, .slice aGc LB.length cGc] 25)).size
  clear f22 f23 f24 l25
  have f33 : (w_4.alloc (.cells #[.slice aGa LZ.length cGa, .slice aGb LW.length cGb, .slice aGc LB.length cGc] 25)).cell? ⟨w_4.heap.size, 0, none⟩ = some (.slice aGa LZ.length cGa) := by go_simp
  have f34 : (w_4.alloc (.cells #[.slice aGa LZ.length cGa, .slice aGb LW.length cGb, .slice aGc LB.length cGc] 25)).cell? ⟨w_4.heap.size, 1, none⟩ = some (.slice aGb LW.length cGb) := by go_simp
  have f35 : (w_4.alloc (.cells #[.slice aGa LZ.length cGa, .slice aGb LW.length cGb, .slice aGc LB.length cGc] 25)).cell? ⟨w_4.heap.size, 2, none⟩ = some (.slice aGc LB.length cGc) := by go_simp
  have l36 : w_4.heap.size < (w_4.alloc (.cells #[.slice aGa LZ.length cGa, .slice aGb LW.length cGb, .slice aGc LB.length cGc] 25)).heap.size := alloc_lt2 _ _
  have S37 : w_4.heap.size < (w_4.alloc (.cells #[.slice aGa LZ.length cGa, .slice aGb LW.length cGb, .slice aGc LB.length cGc] 25)).heap.size := alloc_lt2 _ _
  have HB38 := Lib.hid (below_of HB26.out (below_al w_4 (.cells #[.slice aGa LZ.length cGa, .slice aGb LW.length cGb, .slice aGc LB.length cGc] 25)) HB26.out.size)
  have HR39 := Lib.hid (modAns_kept (below_al w_4 (.cells #[.slice aGa LZ.length cGa, .slice aGb LW.length cGb, .slice aGc LB.length cGc] 25)) HR27.out)
  clear HR27
  have HR40 := Lib.hid (iv_kept (below_al w_4 (.cells #[.slice aGa LZ.length cGa, .slice aGb LW.length cGb, .slice aGc LB.length cGc] 25)) HR28.out)
  clear HR28
  have HR41 := Lib.hid (modAns_kept (below_al w_4 (.cells #[.slice aGa LZ.length cGa, .slice aGb LW.length cGb, .slice aGc LB.length cGc] 25)) HGR.out)
  clear HGR
  go_wp2_with fail
  generalize (w_4.alloc (.cells #[.slice aGa LZ.length cGa, .slice aGb LW.length cGb, .slice aGc LB.length cGc] 25)) = wb42 at *
  refine (eqMod_any _ _ _ _ _ _ LZ LW LB _ (modAns_at HLL.out HR41.out).1 (modAns_at HLL.out HR41.out).2.1 (modAns_at HLL.out HR41.out).2.2 (modAns_at HLL.out HR39.out).1 (modAns_at HLL.out HR39.out).2.1 (modAns_at HLL.out HR39.out).2.2).mono ?_
  rintro e w_5 ⟨rfl, hb⟩
  have S43 : wb42.heap.size ≤ w_5.heap.size := (hb).size
  have f44 : w_5.cell? ⟨w_2.heap.size, 0, none⟩ = some (.slice aWa LZ.length cWa) := (below_cell hb _ _ l32).trans f29
  have f45 : w_5.cell? ⟨w_2.heap.size, 1, none⟩ = some (.slice aWb LW.length cWb) := (below_cell hb _ _ l32).trans f30
  have f46 : w_5.cell? ⟨w_2.heap.size, 2, none⟩ = some (.slice aWc LB.length cWc) := (below_cell hb _ _ l32).trans f31
  have f47 : w_5.cell? ⟨w_4.heap.size, 0, none⟩ = some (.slice aGa LZ.length cGa) := (below_cell hb _ _ l36).trans f33
  have f48 : w_5.cell? ⟨w_4.heap.size, 1, none⟩ = some (.slice aGb LW.length cGb) := (below_cell hb _ _ l36).trans f34
  have f49 : w_5.cell? ⟨w_4.heap.size, 2, none⟩ = some (.slice aGc LB.length cGc) := (below_cell hb _ _ l36).trans f35
  have l50 : w_2.heap.size < w_5.heap.size := Nat.lt_of_lt_of_le l32 (hb).size
  have l51 : w_4.heap.size < w_5.heap.size := Nat.lt_of_lt_of_le l36 (hb).size
  clear f29 f30 f31 f33 f34 f35 l32 l36
  have HB52 := Lib.hid (below_of HB38.out hb HB38.out.size)
  have HR53 := Lib.hid (modAns_kept hb HR39.out)
  clear HR39
  have HR54 := Lib.hid (iv_kept hb HR40.out)
  clear HR40
  have HR55 := Lib.hid (modAns_kept hb HR41.out)
  clear HR41
  clear hb 
  go_wp2_with fail
  refine (toInts_any z0 _ _ (ints_kept HB52.out HY0.out)).mono ?_
  rintro e w_6 ⟨vt, rfl, ho, hb⟩
  have HT := Lib.hid (own_ints HYL0.out ho)
  have S56 : w_5.heap.size ≤ w_6.heap.size := (hb).size
  have f57 : w_6.cell? ⟨w_2.heap.size, 0, none⟩ = some (.slice aWa LZ.length cWa) := (below_cell hb _ _ l50).trans f44
  have f58 : w_6.cell? ⟨w_2.heap.size, 1, none⟩ = some (.slice aWb LW.length cWb) := (below_cell hb _ _ l50).trans f45
  have f59 : w_6.cell? ⟨w_2.heap.size, 2, none⟩ = some (.slice aWc LB.length cWc) := (below_cell hb _ _ l50).trans f46
  have f60 : w_6.cell? ⟨w_4.heap.size, 0, none⟩ = some (.slice aGa LZ.length cGa) := (below_cell hb _ _ l51).trans f47
  have f61 : w_6.cell? ⟨w_4.heap.size, 1, none⟩ = some (.slice aGb LW.length cGb) := (below_cell hb _ _ l51).trans f48
  have f62 : w_6.cell? ⟨w_4.heap.size, 2, none⟩ = some (.slice aGc LB.length cGc) := (below_cell hb _ _ l51).trans f49
  have l63 : w_2.heap.size < w_6.heap.size := Nat.lt_of_lt_of_le l50 (hb).size
  have l64 : w_4.heap.size < w_6.heap.size := Nat.lt_of_lt_of_le l51 (hb).size
  clear f44 f45 f46 f47 f48 f49 l50 l51
  have HB65 := Lib.hid (below_of HB52.out hb HB52.out.size)
  have HR66 := Lib.hid (modAns_kept hb HR53.out)
  clear HR53
  have HR67 := Lib.hid (iv_kept hb HR54.out)
  clear HR54
  have HR68 := Lib.hid (modAns_kept hb HR55.out)
  clear HR55
  clear hb ho
  go_wp2_with fail
  refine (eqInts_at z0 _ _ _ (iv_ints HYL0.out HR67.out) HT.out).mono ?_
  rintro e w_7 ⟨rfl, hb⟩
  have S69 : w_6.heap.size ≤ w_7.heap.size := (hb).size
  have f70 : w_7.cell? ⟨w_2.heap.size, 0, none⟩ = some (.slice aWa LZ.length cWa) := (below_cell hb _ _ l63).trans f57
  have f71 : w_7.cell? ⟨w_2.heap.size, 1, none⟩ = some (.slice aWb LW.length cWb) := (below_cell hb _ _ l63).trans f58
  have f72 : w_7.cell? ⟨w_2.heap.size, 2, none⟩ = some (.slice aWc LB.length cWc) := (below_cell hb _ _ l63).trans f59
  have f73 : w_7.cell? ⟨w_4.heap.size, 0, none⟩ = some (.slice aGa LZ.length cGa) := (below_cell hb _ _ l64).trans f60
  have f74 : w_7.cell? ⟨w_4.heap.size, 1, none⟩ = some (.slice aGb LW.length cGb) := (below_cell hb _ _ l64).trans f61
  have f75 : w_7.cell? ⟨w_4.heap.size, 2, none⟩ = some (.slice aGc LB.length cGc) := (below_cell hb _ _ l64).trans f62
  have l76 : w_2.heap.size < w_7.heap.size := Nat.lt_of_lt_of_le l63 (hb).size
  have l77 : w_4.heap.size < w_7.heap.size := Nat.lt_of_lt_of_le l64 (hb).size
  clear f57 f58 f59 f60 f61 f62 l63 l64
  have HB78 := Lib.hid (below_of HB65.out hb HB65.out.size)
  have HR79 := Lib.hid (modAns_kept hb HR66.out)
  clear HR66
  have HR80 := Lib.hid (iv_kept hb HR67.out)
  clear HR67
  have HR81 := Lib.hid (modAns_kept hb HR68.out)
  clear HR68
  clear hb HT
  go_wp2_with fail
  refine (markIv_any (1) (by omega) _ z0 _ _ HYL0.out HR80.out).mono ?_
  rintro e w_8 ⟨rfl, hv, hg⟩
  rw [HZN0.out] at hv ⊢
  have hgm := mk_of_grown (l := wb13.heap.size) (u := w_3.heap.size) hg HX0I.out
  have S82 : w_7.heap.size ≤ w_8.heap.size := hgm.size
  have f83 : w_8.cell? ⟨w_2.heap.size, 0, none⟩ = some (.slice aWa LZ.length cWa) := (mk_cell hgm _ _ l76 (by omega)).trans f70
  have f84 : w_8.cell? ⟨w_2.heap.size, 1, none⟩ = some (.slice aWb LW.length cWb) := (mk_cell hgm _ _ l76 (by omega)).trans f71
  have f85 : w_8.cell? ⟨w_2.heap.size, 2, none⟩ = some (.slice aWc LB.length cWc) := (mk_cell hgm _ _ l76 (by omega)).trans f72
  have f86 : w_8.cell? ⟨w_4.heap.size, 0, none⟩ = some (.slice aGa LZ.length cGa) := (mk_cell hgm _ _ l77 (by omega)).trans f73
  have f87 : w_8.cell? ⟨w_4.heap.size, 1, none⟩ = some (.slice aGb LW.length cGb) := (mk_cell hgm _ _ l77 (by omega)).trans f74
  have f88 : w_8.cell? ⟨w_4.heap.size, 2, none⟩ = some (.slice aGc LB.length cGc) := (mk_cell hgm _ _ l77 (by omega)).trans f75
  have l89 : w_2.heap.size < w_8.heap.size := Nat.lt_of_lt_of_le l76 hgm.size
  have l90 : w_4.heap.size < w_8.heap.size := Nat.lt_of_lt_of_le l77 hgm.size
  clear f70 f71 f72 f73 f74 f75 l76 l77
  have HR91 := Lib.hid (modAns_mk hgm HR79.out (by omega))
  clear HR79
  have HR92 := Lib.hid (modAns_mk hgm HR81.out (by omega))
  clear HR81
  have HR93 := Lib.hid hv
  clear HR80
  have HB94 := Lib.hid (HB78.out.trans (mk_below hgm HB78.out.size (by omega)))
  clear hv hgm hg
  go_wp2_with fail
  refine (eqMod_any _ _ _ _ _ _ LZ LW LB _ (modAns_at HLL.out HR92.out).1 (modAns_at HLL.out HR92.out).2.1 (modAns_at HLL.out HR92.out).2.2 (modAns_at HLL.out HR91.out).1 (modAns_at HLL.out HR91.out).2.1 (modAns_at HLL.out HR91.out).2.2).mono ?_
  rintro e w_9 ⟨rfl, hb⟩
  have S95 : w_8.heap.size ≤ w_9.heap.size := (hb).size
  have f96 : w_9.cell? ⟨w_2.heap.size, 0, none⟩ = some (.slice aWa LZ.length cWa) := (below_cell hb _ _ l89).trans f83
  have f97 : w_9.cell? ⟨w_2.heap.size, 1, none⟩ = some (.slice aWb LW.length cWb) := (below_cell hb _ _ l89).trans f84
  have f98 : w_9.cell? ⟨w_2.heap.size, 2, none⟩ = some (.slice aWc LB.length cWc) := (below_cell hb _ _ l89).trans f85
  have f99 : w_9.cell? ⟨w_4.heap.size, 0, none⟩ = some (.slice aGa LZ.length cGa) := (below_cell hb _ _ l90).trans f86
  have f100 : w_9.cell? ⟨w_4.heap.size, 1, none⟩ = some (.slice aGb LW.length cGb) := (below_cell hb _ _ l90).trans f87
  have f101 : w_9.cell? ⟨w_4.heap.size, 2, none⟩ = some (.slice aGc LB.length cGc) := (below_cell hb _ _ l90).trans f88
  have l102 : w_2.heap.size < w_9.heap.size := Nat.lt_of_lt_of_le l89 (hb).size
  have l103 : w_4.heap.size < w_9.heap.size := Nat.lt_of_lt_of_le l90 (hb).size
  clear f83 f84 f85 f86 f87 f88 l89 l90
  have HB104 := Lib.hid (below_of HB94.out hb HB94.out.size)
  have HR105 := Lib.hid (modAns_kept hb HR91.out)
  clear HR91
  have HR106 := Lib.hid (modAns_kept hb HR92.out)
  clear HR92
  clear hb 
  go_wp2_with fail
  refine (markModA_any 1 (by omega) _ _ _ LZ LB LW _ _ _ HLL.out.1 HLL.out.2.1 HR106.out).mono ?_
  rintro e w_10 ⟨rfl, hv, hgm⟩
  have S107 : w_9.heap.size ≤ w_10.heap.size := hgm.size
  have f108 : w_10.cell? ⟨w_2.heap.size, 0, none⟩ = some (.slice aWa LZ.length cWa) := (mk_cell hgm _ _ l102 (by omega)).trans f96
  have f109 : w_10.cell? ⟨w_2.heap.size, 1, none⟩ = some (.slice aWb LW.length cWb) := (mk_cell hgm _ _ l102 (by omega)).trans f97
  have f110 : w_10.cell? ⟨w_2.heap.size, 2, none⟩ = some (.slice aWc LB.length cWc) := (mk_cell hgm _ _ l102 (by omega)).trans f98
  have f111 : w_10.cell? ⟨w_4.heap.size, 0, none⟩ = some (.slice aGa LZ.length cGa) := (mk_cell hgm _ _ l103 (by omega)).trans f99
  have f112 : w_10.cell? ⟨w_4.heap.size, 1, none⟩ = some (.slice aGb LW.length cGb) := (mk_cell hgm _ _ l103 (by omega)).trans f100
  have f113 : w_10.cell? ⟨w_4.heap.size, 2, none⟩ = some (.slice aGc LB.length cGc) := (mk_cell hgm _ _ l103 (by omega)).trans f101
  have l114 : w_2.heap.size < w_10.heap.size := Nat.lt_of_lt_of_le l102 hgm.size
  have l115 : w_4.heap.size < w_10.heap.size := Nat.lt_of_lt_of_le l103 hgm.size
  clear f96 f97 f98 f99 f100 f101 l102 l103
  have HR116 := Lib.hid (modAns_mk hgm HR105.out (by omega))
  clear HR105
  have HR117 := Lib.hid hv
  clear HR106
  have HB118 := Lib.hid (HB104.out.trans (mk_below hgm HB104.out.size (by omega)))
  clear hv hgm
  go_wp2_with fail
  refine (heldModA_any 1 (by omega) _ _ _ LZ LB LW _ _ _ HLL.out.1 HLL.out.2.1 HR117.out).mono ?_
  rintro e w_11 ⟨rfl, hb⟩
  have S119 : w_10.heap.size ≤ w_11.heap.size := (hb).size
  have f120 : w_11.cell? ⟨w_2.heap.size, 0, none⟩ = some (.slice aWa LZ.length cWa) := (below_cell hb _ _ l114).trans f108
  have f121 : w_11.cell? ⟨w_2.heap.size, 1, none⟩ = some (.slice aWb LW.length cWb) := (below_cell hb _ _ l114).trans f109
  have f122 : w_11.cell? ⟨w_2.heap.size, 2, none⟩ = some (.slice aWc LB.length cWc) := (below_cell hb _ _ l114).trans f110
  have f123 : w_11.cell? ⟨w_4.heap.size, 0, none⟩ = some (.slice aGa LZ.length cGa) := (below_cell hb _ _ l115).trans f111
  have f124 : w_11.cell? ⟨w_4.heap.size, 1, none⟩ = some (.slice aGb LW.length cGb) := (below_cell hb _ _ l115).trans f112
  have f125 : w_11.cell? ⟨w_4.heap.size, 2, none⟩ = some (.slice aGc LB.length cGc) := (below_cell hb _ _ l115).trans f113
  have l126 : w_2.heap.size < w_11.heap.size := Nat.lt_of_lt_of_le l114 (hb).size
  have l127 : w_4.heap.size < w_11.heap.size := Nat.lt_of_lt_of_le l115 (hb).size
  clear f108 f109 f110 f111 f112 f113 l114 l115
  have HB128 := Lib.hid (below_of HB118.out hb HB118.out.size)
  have HR129 := Lib.hid (modAns_kept hb HR116.out)
  clear HR116
  have HR130 := Lib.hid (modAns_kept hb HR117.out)
  clear HR117
  clear hb 
  go_wp2_with fail
  refine (toInts_any z0 _ _ (ints_kept HB128.out HY0.out)).mono ?_
  rintro e w_12 ⟨vx0, rfl, ho, hb⟩
  have HO131 := Lib.hid ((own_ints HYL0.out ho))
  have S132 : w_11.heap.size ≤ w_12.heap.size := (hb).size
  have f133 : w_12.cell? ⟨w_2.heap.size, 0, none⟩ = some (.slice aWa LZ.length cWa) := (below_cell hb _ _ l126).trans f120
  have f134 : w_12.cell? ⟨w_2.heap.size, 1, none⟩ = some (.slice aWb LW.length cWb) := (below_cell hb _ _ l126).trans f121
  have f135 : w_12.cell? ⟨w_2.heap.size, 2, none⟩ = some (.slice aWc LB.length cWc) := (below_cell hb _ _ l126).trans f122
  have f136 : w_12.cell? ⟨w_4.heap.size, 0, none⟩ = some (.slice aGa LZ.length cGa) := (below_cell hb _ _ l127).trans f123
  have f137 : w_12.cell? ⟨w_4.heap.size, 1, none⟩ = some (.slice aGb LW.length cGb) := (below_cell hb _ _ l127).trans f124
  have f138 : w_12.cell? ⟨w_4.heap.size, 2, none⟩ = some (.slice aGc LB.length cGc) := (below_cell hb _ _ l127).trans f125
  have l139 : w_2.heap.size < w_12.heap.size := Nat.lt_of_lt_of_le l126 (hb).size
  have l140 : w_4.heap.size < w_12.heap.size := Nat.lt_of_lt_of_le l127 (hb).size
  clear f120 f121 f122 f123 f124 f125 l126 l127
  have HB141 := Lib.hid (below_of HB128.out hb HB128.out.size)
  have HR142 := Lib.hid (modAns_kept hb HR129.out)
  clear HR129
  have HR143 := Lib.hid (modAns_kept hb HR130.out)
  clear HR130
  clear hb ho
  go_wp2_with fail
  refine (HIM.out vx0 _ HO131.out).mono ?_
  rintro e w_13 ⟨vha, vhb, vhc, rfl, hv, hb⟩
  have hF := modAns_form hv
  obtain ⟨⟨aHa, cHa, rfl⟩, ⟨aHb, cHb, rfl⟩, ⟨aHc, cHc, rfl⟩⟩ := hF
  have HHR := Lib.hid hv
  clear hv
  have S144 : w_12.heap.size ≤ w_13.heap.size := (hb).size
  have f145 : w_13.cell? ⟨w_2.heap.size, 0, none⟩ = some (.slice aWa LZ.length cWa) := (below_cell hb _ _ l139).trans f133
  have f146 : w_13.cell? ⟨w_2.heap.size, 1, none⟩ = some (.slice aWb LW.length cWb) := (below_cell hb _ _ l139).trans f134
  have f147 : w_13.cell? ⟨w_2.heap.size, 2, none⟩ = some (.slice aWc LB.length cWc) := (below_cell hb _ _ l139).trans f135
  have f148 : w_13.cell? ⟨w_4.heap.size, 0, none⟩ = some (.slice aGa LZ.length cGa) := (below_cell hb _ _ l140).trans f136
  have f149 : w_13.cell? ⟨w_4.heap.size, 1, none⟩ = some (.slice aGb LW.length cGb) := (below_cell hb _ _ l140).trans f137
  have f150 : w_13.cell? ⟨w_4.heap.size, 2, none⟩ = some (.slice aGc LB.length cGc) := (below_cell hb _ _ l140).trans f138
  have l151 : w_2.heap.size < w_13.heap.size := Nat.lt_of_lt_of_le l139 (hb).size
  have l152 : w_4.heap.size < w_13.heap.size := Nat.lt_of_lt_of_le l140 (hb).size
  clear f133 f134 f135 f136 f137 f138 l139 l140
  have HB153 := Lib.hid (below_of HB141.out hb HB141.out.size)
  have HR154 := Lib.hid (modAns_kept hb HR142.out)
  clear HR142
  have HR155 := Lib.hid (modAns_kept hb HR143.out)
  clear HR143
  clear hb HO131
  have f156 : (w_13.alloc (.cells #[.slice aHa LZ.length cHa, .slice aHb LW.length cHb, .slice aHc LB.length cHc] 25)).cell? ⟨w_2.heap.size, 0, none⟩ = some (.slice aWa LZ.length cWa) := (below_cell (below_al w_13 (.cells #[.slice aHa LZ.length cHa, .slice aHb LW.length cHb, .slice aHc LB.length cHc] 25)) _ _ l151).trans f145
  have f157 : (w_13.alloc (.cells #[.slice aHa LZ.length cHa, .slice aHb LW.length cHb, .slice aHc LB.length cHc] 25)).cell? ⟨w_2.heap.size, 1, none⟩ = some (.slice aWb LW.length cWb) := (below_cell (below_al w_13 (.cells #[.slice aHa LZ.length cHa, .slice aHb LW.length cHb, .slice aHc LB.length cHc] 25)) _ _ l151).trans f146
  have f158 : (w_13.alloc (.cells #[.slice aHa LZ.length cHa, .slice aHb LW.length cHb, .slice aHc LB.length cHc] 25)).cell? ⟨w_2.heap.size, 2, none⟩ = some (.slice aWc LB.length cWc) := (below_cell (below_al w_13 (.cells #[.slice aHa LZ.length cHa, .slice aHb LW.length cHb, .slice aHc LB.length cHc] 25)) _ _ l151).trans f147
  have f159 : (w_13.alloc (.cells #[.slice aHa LZ.length cHa, .slice aHb LW.length cHb, .slice aHc LB.length cHc] 25)).cell? ⟨w_4.heap.size, 0, none⟩ = some (.slice aGa LZ.length cGa) := (below_cell (below_al w_13 (.cells #[.slice aHa LZ.length cHa, .slice aHb LW.length cHb, .slice aHc LB.length cHc] 25)) _ _ l152).trans f148
  have f160 : (w_13.alloc (.cells #[.slice aHa LZ.length cHa, .slice aHb LW.length cHb, .slice aHc LB.length cHc] 25)).cell? ⟨w_4.heap.size, 1, none⟩ = some (.slice aGb LW.length cGb) := (below_cell (below_al w_13 (.cells #[.slice aHa LZ.length cHa, .slice aHb LW.length cHb, .slice aHc LB.length cHc] 25)) _ _ l152).trans f149
  have f161 : (w_13.alloc (.cells #[.slice aHa LZ.length cHa, .slice aHb LW.length cHb, .slice aHc LB.length cHc] 25)).cell? ⟨w_4.heap.size, 2, none⟩ = some (.slice aGc LB.length cGc) := (below_cell (below_al w_13 (.cells #[.slice aHa LZ.length cHa, .slice aHb LW.length cHb, .slice aHc LB.length cHc] 25)) _ _ l152).trans f150
  have l162 : w_2.heap.size < (w_13.alloc (.cells #[.slice aHa LZ.length cHa, .slice aHb LW.length cHb, .slice aHc LB.length cHc] 25)).heap.size := Nat.lt_of_lt_of_le l151 (below_al w_13 (.cells #[.slice aHa LZ.length cHa, .slice aHb LW.length cHb, .slice aHc LB.length cHc] 25)).size
  have l163 : w_4.heap.size < (w_13.alloc (.cells #[.slice aHa LZ.length cHa, .slice aHb LW.length cHb, .slice aHc LB.length cHc] 25)).heap.size := Nat.lt_of_lt_of_le l152 (below_al w_13 (.cells #[.slice aHa LZ.length cHa, .slice aHb LW.length cHb, .slice aHc LB.length cHc] 25)).size
  clear f145 f146 f147 f148 f149 f150 l151 l152
  have f164 : (w_13.alloc (.cells #[.slice aHa LZ.length cHa, .slice aHb LW.length cHb, .slice aHc LB.length cHc] 25)).cell? ⟨w_13.heap.size, 0, none⟩ = some (.slice aHa LZ.length cHa) := by go_simp
  have f165 : (w_13.alloc (.cells #[.slice aHa LZ.length cHa, .slice aHb LW.length cHb, .slice aHc LB.length cHc] 25)).cell? ⟨w_13.heap.size, 1, none⟩ = some (.slice aHb LW.length cHb) := by go_simp
  have f166 : (w_13.alloc (.cells #[.slice aHa LZ.length cHa, .slice aHb LW.length cHb, .slice aHc LB.length cHc] 25)).cell? ⟨w_13.heap.size, 2, none⟩ = some (.slice aHc LB.length cHc) := by go_simp
  have l167 : w_13.heap.size < (w_13.alloc (.cells #[.slice aHa LZ.length cHa, .slice aHb LW.length cHb, .slice aHc LB.length cHc] 25)).heap.size := alloc_lt2 _ _
  have S168 : w_13.heap.size < (w_13.alloc (.cells #[.slice aHa LZ.length cHa, .slice aHb LW.length cHb, .slice aHc LB.length cHc] 25)).heap.size := alloc_lt2 _ _
  have HB169 := Lib.hid (below_of HB153.out (below_al w_13 (.cells #[.slice aHa LZ.length cHa, .slice aHb LW.length cHb, .slice aHc LB.length cHc] 25)) HB153.out.size)
  have HR170 := Lib.hid (modAns_kept (below_al w_13 (.cells #[.slice aHa LZ.length cHa, .slice aHb LW.length cHb, .slice aHc LB.length cHc] 25)) HR154.out)
  clear HR154
  have HR171 := Lib.hid (modAns_kept (below_al w_13 (.cells #[.slice aHa LZ.length cHa, .slice aHb LW.length cHb, .slice aHc LB.length cHc] 25)) HR155.out)
  clear HR155
  have HR172 := Lib.hid (modAns_kept (below_al w_13 (.cells #[.slice aHa LZ.length cHa, .slice aHb LW.length cHb, .slice aHc LB.length cHc] 25)) HHR.out)
  clear HHR
  go_wp2_with fail
  generalize (w_13.alloc (.cells #[.slice aHa LZ.length cHa, .slice aHb LW.length cHb, .slice aHc LB.length cHc] 25)) = wb173 at *
  refine (eqMod_any _ _ _ _ _ _ LZ LW LB _ (modAns_at HLL.out HR172.out).1 (modAns_at HLL.out HR172.out).2.1 (modAns_at HLL.out HR172.out).2.2 (modAns_at HLL.out HR170.out).1 (modAns_at HLL.out HR170.out).2.1 (modAns_at HLL.out HR170.out).2.2).mono ?_
  rintro e w_14 ⟨rfl, hb⟩
  have S174 : wb173.heap.size ≤ w_14.heap.size := (hb).size
  have f175 : w_14.cell? ⟨w_2.heap.size, 0, none⟩ = some (.slice aWa LZ.length cWa) := (below_cell hb _ _ l162).trans f156
  have f176 : w_14.cell? ⟨w_2.heap.size, 1, none⟩ = some (.slice aWb LW.length cWb) := (below_cell hb _ _ l162).trans f157
  have f177 : w_14.cell? ⟨w_2.heap.size, 2, none⟩ = some (.slice aWc LB.length cWc) := (below_cell hb _ _ l162).trans f158
  have f178 : w_14.cell? ⟨w_4.heap.size, 0, none⟩ = some (.slice aGa LZ.length cGa) := (below_cell hb _ _ l163).trans f159
  have f179 : w_14.cell? ⟨w_4.heap.size, 1, none⟩ = some (.slice aGb LW.length cGb) := (below_cell hb _ _ l163).trans f160
  have f180 : w_14.cell? ⟨w_4.heap.size, 2, none⟩ = some (.slice aGc LB.length cGc) := (below_cell hb _ _ l163).trans f161
  have f181 : w_14.cell? ⟨w_13.heap.size, 0, none⟩ = some (.slice aHa LZ.length cHa) := (below_cell hb _ _ l167).trans f164
  have f182 : w_14.cell? ⟨w_13.heap.size, 1, none⟩ = some (.slice aHb LW.length cHb) := (below_cell hb _ _ l167).trans f165
  have f183 : w_14.cell? ⟨w_13.heap.size, 2, none⟩ = some (.slice aHc LB.length cHc) := (below_cell hb _ _ l167).trans f166
  have l184 : w_2.heap.size < w_14.heap.size := Nat.lt_of_lt_of_le l162 (hb).size
  have l185 : w_4.heap.size < w_14.heap.size := Nat.lt_of_lt_of_le l163 (hb).size
  have l186 : w_13.heap.size < w_14.heap.size := Nat.lt_of_lt_of_le l167 (hb).size
  clear f156 f157 f158 f159 f160 f161 f164 f165 f166 l162 l163 l167
  have HB187 := Lib.hid (below_of HB169.out hb HB169.out.size)
  have HR188 := Lib.hid (modAns_kept hb HR170.out)
  clear HR170
  have HR189 := Lib.hid (modAns_kept hb HR171.out)
  clear HR171
  have HR190 := Lib.hid (modAns_kept hb HR172.out)
  clear HR172
  clear hb 
  go_wp2_with fail
  refine (heldModA_any 1 (by omega) _ _ _ LZ LB LW _ _ _ HLL.out.1 HLL.out.2.1 HR189.out).mono ?_
  rintro e w_15 ⟨rfl, hb⟩
  have S191 : w_14.heap.size ≤ w_15.heap.size := (hb).size
  have f192 : w_15.cell? ⟨w_2.heap.size, 0, none⟩ = some (.slice aWa LZ.length cWa) := (below_cell hb _ _ l184).trans f175
  have f193 : w_15.cell? ⟨w_2.heap.size, 1, none⟩ = some (.slice aWb LW.length cWb) := (below_cell hb _ _ l184).trans f176
  have f194 : w_15.cell? ⟨w_2.heap.size, 2, none⟩ = some (.slice aWc LB.length cWc) := (below_cell hb _ _ l184).trans f177
  have f195 : w_15.cell? ⟨w_4.heap.size, 0, none⟩ = some (.slice aGa LZ.length cGa) := (below_cell hb _ _ l185).trans f178
  have f196 : w_15.cell? ⟨w_4.heap.size, 1, none⟩ = some (.slice aGb LW.length cGb) := (below_cell hb _ _ l185).trans f179
  have f197 : w_15.cell? ⟨w_4.heap.size, 2, none⟩ = some (.slice aGc LB.length cGc) := (below_cell hb _ _ l185).trans f180
  have f198 : w_15.cell? ⟨w_13.heap.size, 0, none⟩ = some (.slice aHa LZ.length cHa) := (below_cell hb _ _ l186).trans f181
  have f199 : w_15.cell? ⟨w_13.heap.size, 1, none⟩ = some (.slice aHb LW.length cHb) := (below_cell hb _ _ l186).trans f182
  have f200 : w_15.cell? ⟨w_13.heap.size, 2, none⟩ = some (.slice aHc LB.length cHc) := (below_cell hb _ _ l186).trans f183
  have l201 : w_2.heap.size < w_15.heap.size := Nat.lt_of_lt_of_le l184 (hb).size
  have l202 : w_4.heap.size < w_15.heap.size := Nat.lt_of_lt_of_le l185 (hb).size
  have l203 : w_13.heap.size < w_15.heap.size := Nat.lt_of_lt_of_le l186 (hb).size
  clear f175 f176 f177 f178 f179 f180 f181 f182 f183 l184 l185 l186
  have HB204 := Lib.hid (below_of HB187.out hb HB187.out.size)
  have HR205 := Lib.hid (modAns_kept hb HR188.out)
  clear HR188
  have HR206 := Lib.hid (modAns_kept hb HR189.out)
  clear HR189
  have HR207 := Lib.hid (modAns_kept hb HR190.out)
  clear HR190
  clear hb 
  go_wp2
  go_ret
  exact ⟨rfl, HB204.out⟩

set_option maxRecDepth 100000 in
theorem contract (H : Type) (enc : TypeId × Value → H) (W : World) (base : Nat) (args : Array Value) (ds gs : List (DataW H)) (before : List MemPlace)
    (hval : ∀ (j : Nat) t v, Try.f3.params[j]? = some t → args[j]? = some v → Value.okWide Try.prog W .any base t v)
    (hW : DataW.Whole enc Try.prog Try.f3.params.toList Rows.fnExactStandardModelSpec.vars false W args.toList ds gs before) :
    Calls Try.prog 3 args W fun e W' => ∃ v, e = .returned v ∧ Rows.fnExactStandardModelSpec.post enc Try.prog Try.f3 false true false false W args v W' := by
  have hW' := hW
  obtain ⟨p, q, hA0, hV, rfl, hfz, hnd⟩ := hW
  have hA : DataW.TrodAll enc Try.prog W 0 (fun _ => true) true Try.f3.params.toList args.toList ds p := hA0
  rw [Try.params3] at hA hval
  obtain ⟨v0, vs0, d0, ds0, p0, q0, hargs, rfl, rfl, h0, r0⟩ := trodAll_cons hA
  obtain ⟨rfl, rfl, rfl⟩ := trodAll_nil r0
  obtain rfl : args = #[v0] := by cases args; simp_all
  obtain ⟨rfl, rfl⟩ := trodVars_none hV
  simp only [List.append_nil] at hW'
  have hlt0 : ∀ x ∈ p0, x.block < W.heap.size := fun x hx => hW'.lt x (by simp [hx])
  have kept0 := fun (W2 : World) (hb : Below W.heap.size W W2) => Below.trod laidOut (by kernel_rfl) (of_decide_eq_true (by kernel_rfl)) h0 hb hlt0
  obtain ⟨a0, len0, cap0, rfl⟩ := okWide_slice Try.underlying22 (hval 0 22 v0 rfl rfl)
  obtain ⟨fuel0, hf0⟩ := h0
  obtain ⟨w0, hI0⟩ := ints_arg hf0 hlt0
  clear hA0
  refine (walk a0 len0 cap0 w0 W hI0).mono fun e W' ⟨he, hg⟩ => ?_
  subst he
  refine ⟨_, rfl, post_at (pa := p0) (pv := []) hW' (by simp) hg (fun _ _ => (trodAll_cons_mk (shut_bool Try.underlying4 _) trodAll_mk0)) ?_ rfl⟩
  have hk := (trodAll_cons_mk (kept0 W' hg) trodAll_mk0)
  simp only [List.append_nil] at hk
  exact hk

set_option maxRecDepth 100000 in
theorem lifted (os : Os) (started : os.Started) (H : Type) (enc : TypeId × Value → H) :
    ReturnsInHanded {} Try.checked os 3 .any (Rows.fnExactStandardModelSpec.pre6 enc Try.prog Try.f3 Rows.fnExactStandardModelRow.domain false) (Rows.fnExactStandardModelSpec.post enc Try.prog Try.f3 false true false false) := by
  refine returnsInHanded_of_change (C := Try.checked) own started (by kernel_rfl) Try.func3
    (ChangeSpec.witness6 (enc := enc) (C := Try.checked) false ⟨#[], #[.slice none 0 0], []⟩ 8 (by kernel_rfl) (by kernel_rfl) (by kernel_rfl) (by kernel_rfl)) ?_
  intro W base args ds gs before hval0 hW hcnd _
  have hval : ∀ (j : Nat) t v, Try.f3.params[j]? = some t → args[j]? = some v → Value.okWide Try.prog W .any base t v := hval0
  exact contract H enc W base args ds gs before hval hW

theorem over : Rows.fnExactStandardModelRow.holds Try.pinned (OpenSpec.ofChange Rows.fnExactStandardModelSpec) :=
  OpenClaim.holds_of_wide 3 Try.f3 rfl rfl rfl rfl rfl rfl rfl ⟨rfl, rfl, rfl, rfl, rfl⟩ rfl rfl rfl rfl rfl (by kernel_rfl) Try.func3 (by kernel_rfl)
    (of_decide_eq_true (by kernel_rfl)) (by unfold Func.isWrapper; first | (rw [if_pos (by decide +kernel)]; kernel_rfl) | (rw [if_neg (by decide +kernel)]; exact ⟨rfl, rfl⟩))
    (fun os started H enc _ => lifted os started H enc)
end Go.Proofs.Ytpjopfhkgegahaa.fnExactStandardModel

namespace Go.Proofs.Ytpjopfhkgegahaa
/-- The given statement. -/
theorem fnExactStandardModel_holds : Rows.FnExactStandardModelSaid := fnExactStandardModel.over
#print axioms fnExactStandardModel_holds
end Go.Proofs.Ytpjopfhkgegahaa
