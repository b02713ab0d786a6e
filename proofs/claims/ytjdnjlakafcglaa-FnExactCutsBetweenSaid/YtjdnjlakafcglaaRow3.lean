/- A row of rings known whole: copied into, appended to, cleared. -/
import Derived.Test.YtjdnjlakafcglaaRingRes
import Derived.Test.YtjdnjlakafcglaaG2
import Derived.Laws.CopyRow
import Derived.Laws.IdiomCopy
import Derived.Deep.RegionLaw
import Derived.BigRegion
namespace Go.Proofs.Ytjdnjlakafcglaa
open Go.ChangeShapes Go.WideShapes Go.ChangeAt Go.RowKit

def RowAt (w : World) (g : Nat) (X : List Value) : Prop := w.heap[g]? = some (.cells X.toArray 121 (0, 0))
theorem rowAt_cell {w : World} {g : Nat} {X : List Value} (h : RowAt w g X) (j : Nat) : w.cell? ⟨g, j, none⟩ = X[j]? := by
  rw [cell_of_row w g j X.toArray _ (0, 0) h]; simp
theorem rowAt_some {w : World} {g : Nat} {X : List Value} (h : RowAt w g X) (j : Nat) (hj : j < X.length) : (w.cell? ⟨g, j, none⟩).isSome = true := by
  rw [rowAt_cell h, List.getElem?_eq_getElem hj]; rfl
theorem rowAt_frozen {w : World} {g : Nat} {X : List Value} (h : RowAt w g X) (j : Nat) : w.frozen? ⟨g, j, none⟩ = false := by
  have h' : w.heap[g]? = some (.cells X.toArray 121 (0, 0)) := h
  simp [World.frozen?, h']
theorem rowAt_lt {w : World} {g : Nat} {X : List Value} (h : RowAt w g X) : g < w.heap.size := (Array.getElem?_eq_some_iff.1 h).1
theorem rowAt_of {w : World} {B g n cap : Nat} {xs : List Value} (h : w.ownsRow B 121 3 (.slice (some ⟨g, 0, none⟩) n cap) n xs) : ∃ X : List Value, RowAt w g X ∧ X.length = cap * 3 ∧ X.take (n * 3) = xs ∧ n ≤ cap ∧ cap ≤ maxLen ∧ B ≤ g := by
  rcases h.2 with ⟨e, _⟩ | ⟨g', cap', cur, e, hb, hg, h1, h2, h3, h4⟩
  · cases e
  · simp only [Value.slice.injEq, Option.some.injEq, Addr.mk.injEq] at e
    obtain ⟨⟨rfl, _⟩, _, rfl⟩ := e
    exact ⟨cur.toList, by unfold RowAt; simpa using hg, by simpa using h3, h4, h1, h2, hb⟩
theorem rowAt_own {w : World} {B g n cap : Nat} {X xs : List Value} (h : RowAt w g X) (hl : X.length = cap * 3) (ht : X.take (n * 3) = xs) (hc : n ≤ cap) (hm : cap ≤ maxLen) (hB : B ≤ g) : w.ownsRow B 121 3 (.slice (some ⟨g, 0, none⟩) n cap) n xs := by
  refine ⟨by rw [← ht, List.length_take, hl]; have := Nat.mul_le_mul_right 3 hc; omega, .inr ⟨g, cap, X.toArray, rfl, hB, h, hc, hm, by simpa using hl, by simpa using ht⟩⟩
theorem setCells_as_row {w : World} {g o : Nat} {X cs : List Value} (h : RowAt w g X) (hfit : o + cs.length ≤ X.length) (h1 : ∀ v ∈ cs, v.oneCell' = true) : RowAt (w.setCells g o cs) g (X.take o ++ cs ++ X.drop (o + cs.length)) := by
  have r1 := run_storeCells_at Try.prog g o 121 cs 0 X.toArray w h (by simpa using hfit) h1
  have r2 := run_storeCells_cells (P := Try.prog) g o cs 0 w (fun j hj => rowAt_some h _ (by omega)) (fun j _ => rowAt_frozen h _) h1
  rw [Nat.add_zero] at r1 r2
  have e := r2.symm.trans r1
  injection e with _ e
  rw [e]
  unfold RowAt
  rw [setRow_heap w g _ _ _ _ h]
theorem gb_setCells (g : Nat) : ∀ (cs : List Value) (o : Nat) (w : World), w.grownBy (w.setCells g o cs) (some g)
  | [], _, w => gb_refl _ _
  | v :: r, o, w => by
    rw [World.setCells]
    exact gb_trans (gb_set _ _ (gb_refl w (some g))) (gb_setCells g r _ _)
theorem one_i64s (zs : List Int) : ∀ v ∈ i64s zs, v.oneCell' = true := by
  intro v hv
  obtain ⟨x, _, rfl⟩ := List.mem_map.1 hv
  rfl
theorem run_copy3 (w : World) (ty : TypeId) (b o dLen dCap : Nat) (a : Addr) (sLen sCap : Nat) (cs : List Value) (m : Nat) (hm : m = Nat.min sLen dLen) (hn : cs.length = m * 3)
    (hsrc : ∀ j v, cs[j]? = some v → w.cell? (a.add j) = some v) (hc : ∀ j, j < cs.length → (w.cell? ⟨b, o + j, none⟩).isSome = true) (hf : ∀ j, j < cs.length → w.frozen? ⟨b, o + j, none⟩ = false) (h1 : ∀ v ∈ cs, v.oneCell' = true) :
    (Builtin.copy_ #[28, 28] ty #[.slice (some ⟨b, o, none⟩) dLen dCap, .slice (some a) sLen sCap]).run Try.prog w = .ok (goInt m) (w.setCells b o cs) := by
  obtain ⟨i, hi, -, hsz, -⟩ := info_parts infoRing
  have hl := run_loadCells_list (P := Try.prog) w a cs hsrc
  have hst := run_storeCells_cells (P := Try.prog) b o cs 0 w (by simpa using hc) (by simpa using hf) h1
  rw [Nat.add_zero] at hst
  rw [hn] at hl
  simp only [Builtin.copy_, Builtin.lenOf, Builtin.firstCells, sizeOf, typeInfo]
  simp [run_underlying Try.underlying28, hi, hsz, ← hm, hl, hst]
theorem run_clear3 (w : World) (ty : TypeId) (b o n c : Nat) (hn : 0 < n) (hc : ∀ j, j < n * 3 → (w.cell? ⟨b, o + j, none⟩).isSome = true) (hf : ∀ j, j < n * 3 → w.frozen? ⟨b, o + j, none⟩ = false) :
    (Builtin.clear_ #[28] ty #[.slice (some ⟨b, o, none⟩) n c]).run Try.prog w = .ok (.tuple #[]) (w.setCells b o (List.replicate (n * 3) (.int .i64 0))) := by
  have hzc : (Builtin.zeroCells (Value.agg #[.int .i64 0, .int .i64 0, .int .i64 0]).cells n).toList = List.replicate (n * 3) (.int .i64 0) := by
    apply List.ext_getElem?
    intro j
    have h3 : j % 3 = 0 ∨ j % 3 = 1 ∨ j % 3 = 2 := by omega
    by_cases h : j < n * 3
    · rcases h3 with h3 | h3 | h3 <;> simp [Builtin.zeroCells, h, Value.cells, h3]
    · simp [Builtin.zeroCells, Value.cells, h]
  have hst := run_storeCells_cells (P := Try.prog) b o (List.replicate (n * 3) (Value.int .i64 0)) 0 w (by simpa using hc) (by simpa using hf) (by intro v hv; rw [List.eq_of_mem_replicate hv]; rfl)
  rw [Nat.add_zero] at hst
  have hz : ∀ w : World, (zeroValue 121).run Try.prog w = .ok (.agg #[.int .i64 0, .int .i64 0, .int .i64 0]) w := fun w => by kernel_rfl
  obtain ⟨m, rfl⟩ : ∃ m, n = m + 1 := ⟨n - 1, by omega⟩
  simp [Builtin.clear_, run_underlying Try.underlying28, hz, hzc, hst]
theorem run_make3 (w : World) (n c : Nat) (hnc : n ≤ c) (hc : c ≤ 1048576) :
    (Instr.makeSlice 28 (.int .i64 (n : Int)) (.int .i64 (c : Int))).run Try.prog w = .ok (.slice (some ⟨w.heap.size, 0, none⟩) n c) (w.alloc (.cells (i64s (flat (List.replicate c zR))).toArray 121)) := by
  obtain ⟨i, hi, hz, hsz, hb⟩ := info_parts infoRing
  have h := run_make (P := Try.prog) w 28 121 i _ Try.underlying28 hi hz .i64 .i64 n c (by omega) (by omega) (by rw [hb]; omega) (by omega)
  rw [h, hsz]
  simp only [Int.toNat_natCast]
  rw [← made_rings]
theorem flat_take (rs : List Rg) (k : Nat) : (flat rs).take (k * 3) = flat (rs.take k) := by
  induction rs generalizing k with
  | nil => simp [flat]
  | cons r rs ih =>
    match k with
    | 0 => simp [flat]
    | k + 1 =>
      rw [show (k + 1) * 3 = k * 3 + 1 + 1 + 1 by omega]
      simp [flat, ih]
theorem flat_drop (rs : List Rg) (k : Nat) : (flat rs).drop (k * 3) = flat (rs.drop k) := by
  induction rs generalizing k with
  | nil => simp [flat]
  | cons r rs ih =>
    match k with
    | 0 => simp [flat]
    | k + 1 =>
      rw [show (k + 1) * 3 = k * 3 + 1 + 1 + 1 by omega]
      simp [flat, ih]
theorem i64s_take (zs : List Int) (k : Nat) : (i64s zs).take k = i64s (zs.take k) := by simp [i64s, List.map_take]
theorem i64s_drop (zs : List Int) (k : Nat) : (i64s zs).drop k = i64s (zs.drop k) := by simp [i64s, List.map_drop]
theorem i64s_app (a b : List Int) : i64s (a ++ b) = i64s a ++ i64s b := by simp [i64s]
theorem i64s_length (a : List Int) : (i64s a).length = a.length := by simp [i64s]
end Go.Proofs.Ytjdnjlakafcglaa
