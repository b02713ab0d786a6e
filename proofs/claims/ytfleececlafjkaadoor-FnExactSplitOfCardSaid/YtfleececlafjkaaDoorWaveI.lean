/- What spots do to a partial: the program's wave, its rounding and size, and SplitOf. -/
import Derived.Test.YtfleececlafjkaaDoorWaveS
import Derived.Test.YtfleececlafjkaaDoorSpotI
import Derived.Test.YtfleececlafjkaaDoorDivRoundE
import Derived.Test.YtfleececlafjkaaDoorRootImpl
import Derived.Test.YtfleececlafjkaaDoorLen64
import Derived.StillTactics
import Derived.StillTailTactics
set_option linter.unusedVariables false
namespace Go.Proofs.YtfleececlafjkaaDoor
open Go.ChangeShapes Go.WideShapes Go.ChangeAt Go.RowKit

theorem below_drewW {w w' : World} (hb : Below w.drew.heap.size w.drew w') : Below w.heap.size w w' := ⟨hb.os, hb.tape, hb.output, hb.size, hb.block⟩
theorem keepW2 {w w' : World} {g : Nat} {u0 u1 : Value} (hz : g < w.heap.size) (g0 : w.cell? ⟨g, 0, none⟩ = some u0) (g1 : w.cell? ⟨g, 1, none⟩ = some u1) (hb : Below w.heap.size w w') :
    w'.cell? ⟨g, 0, none⟩ = some u0 ∧ w'.cell? ⟨g, 1, none⟩ = some u1 ∧ Below w.heap.size w w' :=
  ⟨(hb.cell (p := ⟨g, 0, none⟩) hz).trans g0, (hb.cell (p := ⟨g, 1, none⟩) hz).trans g1, hb⟩
theorem dr_nq {a : Int} (h : -16000000000 ≤ a ∧ a ≤ 16000000000) : divRound a 1000 = nq a 1000 := by
  unfold divRound
  rw [if_pos ⟨by omega, inB_true (by omega), inB_true (by omega)⟩]
theorem results_cellW {P : Program} {fn : Func} {p : Tmp} {ty : TypeId} (h : fn.results = #[.cell p ty]) (tmps : Array Value) (w : World) :
    (results fn tmps).run P w = ((asAddr (tmps.getD p undef)).run P w).andThen fun a w1 => (loadVar ty a).run P w1 := by
  simp only [results, h]
  simp [Sem.run_bind, Result.andThen]
theorem isWaves_any (n : Int) (w : World) :
    Calls Tryd.prog 35 #[.int .i64 n] w fun e w' => e = .returned (.bool (wavB n)) ∧ Below w.heap.size w w' := by
  go_enter Tryd.func35, Tryd.ntmps35
  go_wp2_with fail
  refine (within_i64 _ _ [n] _ 0 1 1 _ rfl (by omega) (cellI1Q _ _ _ _ rfl)).mono ?_
  rintro e w' ⟨rfl, rfl⟩
  rw [allI1Q]
  have H := Lib.hid (show inB n 2 6 = wavB n from rfl)
  rw [H.out]
  go_wp2
  go_ret
  exact ⟨rfl, (Below.refl _ _).alloc (Nat.le_refl _) _⟩
set_option maxRecDepth 20000 in
set_option maxHeartbeats 4000000 in
theorem with_any (c s x y n : Int) (w : World) (hT : SinOk w) (hc : -20000000000 ≤ c ∧ c ≤ 20000000000) (hs : -20000000000 ≤ s ∧ s ≤ 20000000000) (hx : 0 ≤ x ∧ x ≤ 359) (hy : -1000 ≤ y ∧ y ≤ 1000) (hn : 2 ≤ n ∧ n ≤ 6) :
    Calls Tryd.prog 43 #[.agg #[.int .i64 c, .int .i64 s], .agg #[.int .i64 x, .int .i64 y], .int .i64 n] w fun e w' => e = .returned (.agg #[.int .i64 (c + y * cosV (2 * n * x)), .int .i64 (s + y * sinV (2 * n * x))]) ∧ Below w.heap.size w w' := by
  have hnx : 0 ≤ 2 * n * x ∧ 2 * n * x ≤ 12 * 359 := by
    have e1 := Int.mul_le_mul (show 2 * n ≤ 12 by omega) hx.2 hx.1 (by omega : (0 : Int) ≤ 12)
    have e2 := Int.mul_nonneg (show 0 ≤ 2 * n by omega) hx.1
    omega
  obtain ⟨t, ht⟩ : ∃ t, 2 * n * x = t := ⟨_, rfl⟩
  rw [ht] at hnx ⊢
  have p1 := prod_bd hy (sinV_bd (t + 90))
  have p2 := prod_bd hy (sinV_bd t)
  have HCA := Lib.hid (fun w (h : SinOk w) => waveCosine_any t w (Lib.hid h))
  have HSA := Lib.hid (fun w (h : SinOk w) => waveSine_any t w (Lib.hid h))
  have HT := Lib.hid hT
  have HX := Lib.hid (show cosV t = sinV (t + 90) from rfl)
  rw [← HX.out] at p1
  generalize cosV t = cc at *
  generalize sinV t = ss at *
  have hw0 : IntKind.i64.wrap (2 * n) = 2 * n := IntWalk.i64_in _ (by omega)
  have hw1 : IntKind.i64.wrap (2 * n * x) = t := by rw [ht]; exact IntWalk.i64_in _ (by omega)
  have hw3 : IntKind.i64.wrap (y * cc) = y * cc := IntWalk.i64_in _ (by omega)
  have hw4 : IntKind.i64.wrap (y * ss) = y * ss := IntWalk.i64_in _ (by omega)
  have hw5 : IntKind.i64.wrap (c + y * cc) = c + y * cc := IntWalk.i64_in _ (by omega)
  have hw6 : IntKind.i64.wrap (s + y * ss) = s + y * ss := IntWalk.i64_in _ (by omega)
  clear HX hT p1 p2 hnx ht
  go_enter Tryd.func43, Tryd.ntmps43
  go_wp2
  have HBA := Lib.hid ((((Below.refl w.heap.size w).alloc (Nat.le_refl _) (.cells #[.int .i64 c, .int .i64 s] 42)).alloc (by simp) (.cells #[.int .i64 x, .int .i64 y] 38)).alloc (by simp <;> omega) (.cells #[.int .i64 0, .int .i64 0] 42))
  have g0 : (((w.alloc (.cells #[.int .i64 c, .int .i64 s] 42)).alloc (.cells #[.int .i64 x, .int .i64 y] 38)).alloc (.cells #[.int .i64 0, .int .i64 0] 42)).cell? ⟨w.heap.size, 0, none⟩ = some (.int .i64 c) := by go_simp
  have g1 : (((w.alloc (.cells #[.int .i64 c, .int .i64 s] 42)).alloc (.cells #[.int .i64 x, .int .i64 y] 38)).alloc (.cells #[.int .i64 0, .int .i64 0] 42)).cell? ⟨w.heap.size, 1, none⟩ = some (.int .i64 s) := by go_simp
  have e0 : (((w.alloc (.cells #[.int .i64 c, .int .i64 s] 42)).alloc (.cells #[.int .i64 x, .int .i64 y] 38)).alloc (.cells #[.int .i64 0, .int .i64 0] 42)).cell? ⟨w.heap.size + 1, 0, none⟩ = some (.int .i64 x) := by go_simp
  have e1 : (((w.alloc (.cells #[.int .i64 c, .int .i64 s] 42)).alloc (.cells #[.int .i64 x, .int .i64 y] 38)).alloc (.cells #[.int .i64 0, .int .i64 0] 42)).cell? ⟨w.heap.size + 1, 1, none⟩ = some (.int .i64 y) := by go_simp
  have n0 : (((w.alloc (.cells #[.int .i64 c, .int .i64 s] 42)).alloc (.cells #[.int .i64 x, .int .i64 y] 38)).alloc (.cells #[.int .i64 0, .int .i64 0] 42)).cell? ⟨w.heap.size + 2, 0, none⟩ = some (.int .i64 0) := by go_simp
  have n1 : (((w.alloc (.cells #[.int .i64 c, .int .i64 s] 42)).alloc (.cells #[.int .i64 x, .int .i64 y] 38)).alloc (.cells #[.int .i64 0, .int .i64 0] 42)).cell? ⟨w.heap.size + 2, 1, none⟩ = some (.int .i64 0) := by go_simp
  have f0 : (((w.alloc (.cells #[.int .i64 c, .int .i64 s] 42)).alloc (.cells #[.int .i64 x, .int .i64 y] 38)).alloc (.cells #[.int .i64 0, .int .i64 0] 42)).frozen? ⟨w.heap.size + 2, 0, none⟩ = false := by go_simp
  have f1 : (((w.alloc (.cells #[.int .i64 c, .int .i64 s] 42)).alloc (.cells #[.int .i64 x, .int .i64 y] 38)).alloc (.cells #[.int .i64 0, .int .i64 0] 42)).frozen? ⟨w.heap.size + 2, 1, none⟩ = false := by go_simp
  generalize (((w.alloc (.cells #[.int .i64 c, .int .i64 s] 42)).alloc (.cells #[.int .i64 x, .int .i64 y] 38)).alloc (.cells #[.int .i64 0, .int .i64 0] 42)) = wA at *
  have HTA := Lib.hid (show SinOk wA.drew from sin_kept (show Below w.heap.size w wA.drew from ⟨HBA.out.os, HBA.out.tape, HBA.out.output, HBA.out.size, HBA.out.block⟩) HT.out)
  have HCS := Lib.hid ((HCA.out wA.drew HTA.out).mono fun e w' h => show e = .returned (.int .i64 cc) ∧ w' = wA.drew from ⟨h.1, h.2.symm⟩)
  have HSS := Lib.hid ((HSA.out wA.drew HTA.out).mono fun e w' h => show e = .returned (.int .i64 ss) ∧ w' = wA.drew from ⟨h.1, h.2.symm⟩)
  refine wp_region_still_tail 17 (by kernel_rfl) (by kernel_rfl) ?_
  simp only [List.take_succ_cons, List.take_zero, List.drop_succ_cons, List.drop_zero]
  repeat still_step
  still_call HCS.out
  repeat still_step
  still_call HSS.out
  repeat still_step
  refine wpStill_nil ?_
  change wpList _ _ _ _ _ wA.drew
  go_wp2
  try simp only [Exit.inBlock, Exit.then]
  refine bodyPost_ret_by (v := .agg #[.int .i64 (c + y * cc), .int .i64 (s + y * ss)]) (by rw [results_cellW rfl]; go_simp) rfl ⟨rfl, ?_⟩
  exact (((show Below w.heap.size w wA.drew from ⟨HBA.out.os, HBA.out.tape, HBA.out.output, HBA.out.size, HBA.out.block⟩).setCell (by simp <;> omega) _).setCell (by simp <;> omega) _)
theorem keepV {w w' w2 : World} {u0 u1 : Value} (h : w'.cell? ⟨w.heap.size, 0, none⟩ = some u0 ∧ w'.cell? ⟨w.heap.size, 1, none⟩ = some u1 ∧ w.heap.size + 1 < w'.heap.size ∧ Below w.heap.size w w') (hb : Below w'.heap.size w' w2) :
    w2.cell? ⟨w.heap.size, 0, none⟩ = some u0 ∧ w2.cell? ⟨w.heap.size, 1, none⟩ = some u1 ∧ w.heap.size + 1 < w2.heap.size ∧ Below w.heap.size w w2 :=
  ⟨(below_cell hb _ _ (by omega)).trans h.1, (below_cell hb _ _ (by omega)).trans h.2.1, Nat.lt_of_lt_of_le h.2.2.1 hb.size, below_of h.2.2.2 hb h.2.2.2.size⟩
theorem keepT {w w' : World} {u0 u1 v0 v1 : Value} (h : w'.cell? ⟨w.heap.size, 0, none⟩ = some u0 ∧ w'.cell? ⟨w.heap.size, 1, none⟩ = some u1 ∧ w.heap.size + 1 < w'.heap.size ∧ Below w.heap.size w w') :
    ((w'.setCell ⟨w.heap.size + 1, 0, none⟩ v0).setCell ⟨w.heap.size + 1, 1, none⟩ v1).cell? ⟨w.heap.size, 0, none⟩ = some u0 ∧ ((w'.setCell ⟨w.heap.size + 1, 0, none⟩ v0).setCell ⟨w.heap.size + 1, 1, none⟩ v1).cell? ⟨w.heap.size, 1, none⟩ = some u1 ∧ w.heap.size + 1 < ((w'.setCell ⟨w.heap.size + 1, 0, none⟩ v0).setCell ⟨w.heap.size + 1, 1, none⟩ v1).heap.size ∧ Below w.heap.size w ((w'.setCell ⟨w.heap.size + 1, 0, none⟩ v0).setCell ⟨w.heap.size + 1, 1, none⟩ v1) :=
  ⟨(World.cell?_setCell_far _ _ _ _ (by simp only; omega)).trans ((World.cell?_setCell_far _ _ _ _ (by simp only; omega)).trans h.1), (World.cell?_setCell_far _ _ _ _ (by simp only; omega)).trans ((World.cell?_setCell_far _ _ _ _ (by simp only; omega)).trans h.2.1), by simp; exact h.2.2.1, (h.2.2.2.setCell (by simp) _).setCell (by simp) _⟩
set_option maxRecDepth 20000 in
set_option maxHeartbeats 4000000 in
theorem rounded_any (c s : Int) (w : World) (hc : -16000000000 ≤ c ∧ c ≤ 16000000000) (hs : -16000000000 ≤ s ∧ s ≤ 16000000000) :
    Calls Tryd.prog 27 #[.agg #[.int .i64 c, .int .i64 s]] w fun e w' => e = .returned (.agg #[.int .i64 (nq c 1000), .int .i64 (nq s 1000)]) ∧ Below w.heap.size w w' := by
  have HDC := Lib.hid (fun w => implDivRound_any c 1000 w)
  have HDS := Lib.hid (fun w => implDivRound_any s 1000 w)
  rw [dr_nq hc] at HDC
  rw [dr_nq hs] at HDS
  generalize nq c 1000 = rc at *
  generalize nq s 1000 = rs at *
  go_enter Tryd.func27, Tryd.ntmps27
  go_wp2
  have g0 : ((w.alloc (.cells #[.int .i64 c, .int .i64 s] 42)).alloc (.cells #[.int .i64 0, .int .i64 0] 42)).cell? ⟨w.heap.size, 0, none⟩ = some (.int .i64 c) := by go_simp
  have g1 : ((w.alloc (.cells #[.int .i64 c, .int .i64 s] 42)).alloc (.cells #[.int .i64 0, .int .i64 0] 42)).cell? ⟨w.heap.size, 1, none⟩ = some (.int .i64 s) := by go_simp
  have n0 : ((w.alloc (.cells #[.int .i64 c, .int .i64 s] 42)).alloc (.cells #[.int .i64 0, .int .i64 0] 42)).cell? ⟨w.heap.size + 1, 0, none⟩ = some (.int .i64 0) := by go_simp
  have n1 : ((w.alloc (.cells #[.int .i64 c, .int .i64 s] 42)).alloc (.cells #[.int .i64 0, .int .i64 0] 42)).cell? ⟨w.heap.size + 1, 1, none⟩ = some (.int .i64 0) := by go_simp
  have f0 : ((w.alloc (.cells #[.int .i64 c, .int .i64 s] 42)).alloc (.cells #[.int .i64 0, .int .i64 0] 42)).frozen? ⟨w.heap.size + 1, 0, none⟩ = false := by go_simp
  have f1 : ((w.alloc (.cells #[.int .i64 c, .int .i64 s] 42)).alloc (.cells #[.int .i64 0, .int .i64 0] 42)).frozen? ⟨w.heap.size + 1, 1, none⟩ = false := by go_simp
  have hzA : w.heap.size < ((w.alloc (.cells #[.int .i64 c, .int .i64 s] 42)).alloc (.cells #[.int .i64 0, .int .i64 0] 42)).heap.size := by simp <;> omega
  have hzB : w.heap.size + 1 < ((w.alloc (.cells #[.int .i64 c, .int .i64 s] 42)).alloc (.cells #[.int .i64 0, .int .i64 0] 42)).heap.size := by simp <;> omega
  have HBA := Lib.hid (((Below.refl w.heap.size w).alloc (Nat.le_refl _) (.cells #[.int .i64 c, .int .i64 s] 42)).alloc (by simp) (.cells #[.int .i64 0, .int .i64 0] 42))
  generalize ((w.alloc (.cells #[.int .i64 c, .int .i64 s] 42)).alloc (.cells #[.int .i64 0, .int .i64 0] 42)) = wA at *
  have HS0 := Lib.hid (show wA.drew.cell? ⟨w.heap.size, 0, none⟩ = some (.int .i64 c) ∧ wA.drew.cell? ⟨w.heap.size, 1, none⟩ = some (.int .i64 s) ∧ w.heap.size + 1 < wA.drew.heap.size ∧ Below w.heap.size w wA.drew from ⟨g0, g1, hzB, ⟨HBA.out.os, HBA.out.tape, HBA.out.output, HBA.out.size, HBA.out.block⟩⟩)
  go_region_held3 (fun w' => w'.cell? ⟨w.heap.size, 0, none⟩ = some (.int .i64 c) ∧ w'.cell? ⟨w.heap.size, 1, none⟩ = some (.int .i64 s) ∧ w.heap.size + 1 < w'.heap.size ∧ Below w.heap.size w w')
    (first | exact HS0.out | assumption | exact keepT hs7)
    (first | (go_at_call_of 39 (Value.int .i64 c); refine (HDC.out _).mono ?_; rintro e w6 ⟨rfl, hb6⟩; have hs6 := keepV HS0.out hb6; have hb8 := below_drewW hb6; have fz0 := (below_frozen hb8 _ 0 hzB).trans f0; have fz1 := (below_frozen hb8 _ 1 hzB).trans f1) | (go_at_call_of 39 (Value.int .i64 s); refine (HDS.out _).mono ?_; rintro e w7 ⟨rfl, hb7⟩; have hs7 := keepV hs6 hb7; have hb9 := below_of hb8 hb7 hb8.size; have fy0 := (below_frozen hb9 _ 0 hzB).trans f0; have fy1 := (below_frozen hb9 _ 1 hzB).trans f1; have m0 := (below_cell hb9 _ 0 hzB).trans n0; have m1 := (below_cell hb9 _ 1 hzB).trans n1))
  have HB9 := Lib.hid (below_of HBA.out hb9 HBA.out.size)
  go_wp2
  try simp only [Exit.inBlock, Exit.then]
  refine bodyPost_ret_by (v := .agg #[.int .i64 rc, .int .i64 rs]) (by rw [results_cellW rfl]; go_simp) rfl ⟨rfl, ?_⟩
  exact ((HB9.out.setCell (by simp <;> omega) _).setCell (by simp <;> omega) _)
end Go.Proofs.YtfleececlafjkaaDoor
