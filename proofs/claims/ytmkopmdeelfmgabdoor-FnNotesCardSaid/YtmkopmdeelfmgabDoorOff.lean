/- The offsets of a valid temperament as an array. -/
import Derived.Test.YtmkopmdeelfmgabDoorValidTemp
import Derived.Laws.CopyOwn
import Derived.Deep.RegionLaw
namespace Go.Proofs.YtmkopmdeelfmgabDoor
open Go.ChangeShapes Go.WideShapes Go.ChangeAt Go.RowKit

theorem size1I64 : (Tryd.prog.info? 2).map (·.size) = some 1 := by kernel_rfl
theorem src12 {w : World} {bb off : Nat} {x0 x1 x2 x3 x4 x5 x6 x7 x8 x9 x10 x11 : Int} (hc : ∀ j, j < 12 → w.cell? ⟨bb, off + j, none⟩ = some (.int .i64 ([x0, x1, x2, x3, x4, x5, x6, x7, x8, x9, x10, x11].getD j 0))) :
    ∀ j v, [Value.int .i64 x0, Value.int .i64 x1, Value.int .i64 x2, Value.int .i64 x3, Value.int .i64 x4, Value.int .i64 x5, Value.int .i64 x6, Value.int .i64 x7, Value.int .i64 x8, Value.int .i64 x9, Value.int .i64 x10, Value.int .i64 x11][j]? = some v → w.cell? ((⟨bb, off, none⟩ : Addr).add j) = some v := by
  intro j v hj
  have hlt : j < 12 := by
    have := (List.getElem?_eq_some_iff.1 hj).1
    simpa using this
  rw [add_plain, hc j hlt]
  match j, hlt, hj with
  | 0, _, hj => simpa using hj
  | 1, _, hj => simpa using hj
  | 2, _, hj => simpa using hj
  | 3, _, hj => simpa using hj
  | 4, _, hj => simpa using hj
  | 5, _, hj => simpa using hj
  | 6, _, hj => simpa using hj
  | 7, _, hj => simpa using hj
  | 8, _, hj => simpa using hj
  | 9, _, hj => simpa using hj
  | 10, _, hj => simpa using hj
  | 11, _, hj => simpa using hj
theorem heap_top (w : World) (o : Obj) (g : Nat) (h : g = w.heap.size) : (w.alloc o).drew.heap[g]? = some o := by
  subst h
  show (w.heap.push o)[w.heap.size]? = some o
  simp
theorem heap_two (w : World) (o p : Obj) (g : Nat) (h : g = w.heap.size) : ((w.alloc o).alloc p).drew.heap[g]? = some o := by
  subst h
  show ((w.heap.push o).push p)[w.heap.size]? = some o
  rw [Array.getElem?_push_lt (by simp)]
  simp
theorem blk_cell {w : World} {g : Nat} {cs : Array Value} {T : TypeId} (h : w.heap[g]? = some (.cells cs T (0, 0))) (j : Nat) (v : Value) (hv : cs[j]? = some v) : w.cell? ⟨g, j, none⟩ = some v := by
  simp [World.cell?, h, hv]
theorem blk_free {w : World} {g : Nat} {cs : Array Value} {T : TypeId} (h : w.heap[g]? = some (.cells cs T (0, 0))) (j : Nat) : w.frozen? ⟨g, j, none⟩ = false := by
  simp [World.frozen?, h]
theorem below_src {w W : World} {bb off : Nat} (h : Below w.heap.size w W) (hb : bb < w.heap.size) {j : Nat} {v : Value} (hv : w.cell? ((⟨bb, off, none⟩ : Addr).add j) = some v) : W.cell? ((⟨bb, off, none⟩ : Addr).add j) = some v := by
  rw [add_plain] at *
  rw [below_cell h _ _ hb]
  exact hv
set_option maxRecDepth 100000 in
set_option maxHeartbeats 4000000 in
theorem offsetsOf_any (s : ByteArray) (bb off cap : Nat) (x0 x1 x2 x3 x4 x5 x6 x7 x8 x9 x10 x11 : Int) (w : World) (hb : bb < w.heap.size) (hc : ∀ j, j < 12 → w.cell? ⟨bb, off + j, none⟩ = some (.int .i64 ([x0, x1, x2, x3, x4, x5, x6, x7, x8, x9, x10, x11].getD j 0))) :
    Calls Tryd.prog 47 #[.agg #[.string s, .slice (some ⟨bb, off, none⟩) 12 cap]] w fun e w' => e = .returned (.agg #[.int .i64 x0, .int .i64 x1, .int .i64 x2, .int .i64 x3, .int .i64 x4, .int .i64 x5, .int .i64 x6, .int .i64 x7, .int .i64 x8, .int .i64 x9, .int .i64 x10, .int .i64 x11]) ∧ Below w.heap.size w w' := by
  have HC := Lib.hid (src12 hc)
  clear hc
  go_enter Tryd.func47, Tryd.ntmps47
  go_wp2
  go_region_law (refine step_copy_splice rfl (.tmp 4) (.tmp 6) 36 36 rfl 2 Tryd.underlying36 size1I64 (some ⟨w.heap.size + 1 + 1, 0, none⟩) (some ⟨bb, off, none⟩) 12 12 12 cap (by simp [Act.eval]) (by simp [Act.eval]) (w.heap.size + 1 + 1) 0 [Value.int .i64 0, Value.int .i64 0, Value.int .i64 0, Value.int .i64 0, Value.int .i64 0, Value.int .i64 0, Value.int .i64 0, Value.int .i64 0, Value.int .i64 0, Value.int .i64 0, Value.int .i64 0, Value.int .i64 0] 72 (heap_top _ _ _ (by simp)) [Value.int .i64 x0, Value.int .i64 x1, Value.int .i64 x2, Value.int .i64 x3, Value.int .i64 x4, Value.int .i64 x5, Value.int .i64 x6, Value.int .i64 x7, Value.int .i64 x8, Value.int .i64 x9, Value.int .i64 x10, Value.int .i64 x11] rfl (fun _ => ⟨rfl, _, rfl, fun j v hj => below_src (((((Below.refl w.heap.size w).alloc (Nat.le_refl _) _).alloc (by simp) _).alloc (by simp <;> omega) _).drew) hb (HC.out j v hj)⟩) (by simp) (by simp [Value.oneCell']) (w.heap.size + 1 + 1) _ (Below.refl _ _) (by omega) ?_; intro w1 hg1 hb1)
  have hk : w1.heap[w.heap.size + 1 + 1]? = some (.cells #[.int .i64 x0, .int .i64 x1, .int .i64 x2, .int .i64 x3, .int .i64 x4, .int .i64 x5, .int .i64 x6, .int .i64 x7, .int .i64 x8, .int .i64 x9, .int .i64 x10, .int .i64 x11] 72 (0, 0)) := by rw [hg1.out]; rfl
  have ht : w1.heap[w.heap.size + 1]? = some (.cells #[Value.int .i64 0, Value.int .i64 0, Value.int .i64 0, Value.int .i64 0, Value.int .i64 0, Value.int .i64 0, Value.int .i64 0, Value.int .i64 0, Value.int .i64 0, Value.int .i64 0, Value.int .i64 0, Value.int .i64 0] 72 (0, 0)) := by
    rw [hb1.block _ (by omega)]
    exact heap_two _ _ _ _ (by simp)
  have HB1 := Lib.hid (show Below w.heap.size w w1 from (((((Below.refl w.heap.size w).alloc (Nat.le_refl _) _).alloc (by simp) _).alloc (by simp <;> omega) _).drew).trans (hb1.mono (by omega)))
  clear hb1 hg1
  have c0 := blk_cell hk 0 (.int .i64 x0) rfl
  have d0 := blk_cell ht 0 (.int .i64 0) rfl
  have f0 := blk_free ht 0
  have c1 := blk_cell hk 1 (.int .i64 x1) rfl
  have d1 := blk_cell ht 1 (.int .i64 0) rfl
  have f1 := blk_free ht 1
  have c2 := blk_cell hk 2 (.int .i64 x2) rfl
  have d2 := blk_cell ht 2 (.int .i64 0) rfl
  have f2 := blk_free ht 2
  have c3 := blk_cell hk 3 (.int .i64 x3) rfl
  have d3 := blk_cell ht 3 (.int .i64 0) rfl
  have f3 := blk_free ht 3
  have c4 := blk_cell hk 4 (.int .i64 x4) rfl
  have d4 := blk_cell ht 4 (.int .i64 0) rfl
  have f4 := blk_free ht 4
  have c5 := blk_cell hk 5 (.int .i64 x5) rfl
  have d5 := blk_cell ht 5 (.int .i64 0) rfl
  have f5 := blk_free ht 5
  have c6 := blk_cell hk 6 (.int .i64 x6) rfl
  have d6 := blk_cell ht 6 (.int .i64 0) rfl
  have f6 := blk_free ht 6
  have c7 := blk_cell hk 7 (.int .i64 x7) rfl
  have d7 := blk_cell ht 7 (.int .i64 0) rfl
  have f7 := blk_free ht 7
  have c8 := blk_cell hk 8 (.int .i64 x8) rfl
  have d8 := blk_cell ht 8 (.int .i64 0) rfl
  have f8 := blk_free ht 8
  have c9 := blk_cell hk 9 (.int .i64 x9) rfl
  have d9 := blk_cell ht 9 (.int .i64 0) rfl
  have f9 := blk_free ht 9
  have c10 := blk_cell hk 10 (.int .i64 x10) rfl
  have d10 := blk_cell ht 10 (.int .i64 0) rfl
  have f10 := blk_free ht 10
  have c11 := blk_cell hk 11 (.int .i64 x11) rfl
  have d11 := blk_cell ht 11 (.int .i64 0) rfl
  have f11 := blk_free ht 11
  clear hk ht
  go_wp2
  refine bodyPost_ret (v := .agg #[.int .i64 x0, .int .i64 x1, .int .i64 x2, .int .i64 x3, .int .i64 x4, .int .i64 x5, .int .i64 x6, .int .i64 x7, .int .i64 x8, .int .i64 x9, .int .i64 x10, .int .i64 x11]) (by simp [results, Tryd.results47, go_sem, d0, d1, d2, d3, d4, d5, d6, d7, d8, d9, d10, d11]) rfl ⟨rfl, ?_⟩
  exact ((((((((((((HB1.out.setCell (by simp) _).setCell (by simp) _).setCell (by simp) _).setCell (by simp) _).setCell (by simp) _).setCell (by simp) _).setCell (by simp) _).setCell (by simp) _).setCell (by simp) _).setCell (by simp) _).setCell (by simp) _).setCell (by simp) _)
end Go.Proofs.YtmkopmdeelfmgabDoor
