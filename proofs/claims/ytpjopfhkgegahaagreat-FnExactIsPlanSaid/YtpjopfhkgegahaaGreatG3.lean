/- Merged texts: Row3 WithO AppOwn OwnP LatOf LatT LatZ Cuts CutsV SrtMath CutSpec SrtSpec CutImpl SrtMap. -/
import Derived.Test.YtpjopfhkgegahaaGreatRingRes
import Derived.Test.YtpjopfhkgegahaaGreatG2
import Derived.Laws.CopyRow
import Derived.Laws.IdiomCopy
import Derived.Deep.RegionLaw
import Derived.BigRegion
import Derived.Maps.AppendAt
import Derived.Test.YtpjopfhkgegahaaGreatSumLie
import Derived.Test.YtpjopfhkgegahaaGreatModImpl
import Derived.Test.YtpjopfhkgegahaaGreatWallMath
import Derived.StillTailTactics
import Derived.Test.YtpjopfhkgegahaaGreatZone
import Derived.Test.YtpjopfhkgegahaaGreatG1
import Derived.Deep.Slices
import Derived.Deep.Strs
import Derived.Lib.SmallJoins
import Derived.Deep.RegionWith
import Derived.Deep.QuietTactic
import Derived.BigQuiet
import Derived.Maps.Own
import Derived.Maps.OwnOps
import Derived.Maps.OwnSet
import Derived.Maps.RangeWalk

namespace Go.Proofs.YtpjopfhkgegahaaGreat
open Go.ChangeShapes Go.WideShapes Go.ChangeAt Go.RowKit

def RowAt (w : World) (g : Nat) (X : List Value) : Prop := w.heap[g]? = some (.cells X.toArray 113 (0, 0))
theorem rowAt_cell {w : World} {g : Nat} {X : List Value} (h : RowAt w g X) (j : Nat) : w.cell? ⟨g, j, none⟩ = X[j]? := by
  rw [cell_of_row w g j X.toArray _ (0, 0) h]; simp
theorem rowAt_some {w : World} {g : Nat} {X : List Value} (h : RowAt w g X) (j : Nat) (hj : j < X.length) : (w.cell? ⟨g, j, none⟩).isSome = true := by
  rw [rowAt_cell h, List.getElem?_eq_getElem hj]; rfl
theorem rowAt_frozen {w : World} {g : Nat} {X : List Value} (h : RowAt w g X) (j : Nat) : w.frozen? ⟨g, j, none⟩ = false := by
  have h' : w.heap[g]? = some (.cells X.toArray 113 (0, 0)) := h
  simp [World.frozen?, h']
theorem rowAt_lt {w : World} {g : Nat} {X : List Value} (h : RowAt w g X) : g < w.heap.size := (Array.getElem?_eq_some_iff.1 h).1
theorem rowAt_of {w : World} {B g n cap : Nat} {xs : List Value} (h : w.ownsRow B 113 3 (.slice (some ⟨g, 0, none⟩) n cap) n xs) : ∃ X : List Value, RowAt w g X ∧ X.length = cap * 3 ∧ X.take (n * 3) = xs ∧ n ≤ cap ∧ cap ≤ maxLen ∧ B ≤ g := by
  rcases h.2 with ⟨e, _⟩ | ⟨g', cap', cur, e, hb, hg, h1, h2, h3, h4⟩
  · cases e
  · simp only [Value.slice.injEq, Option.some.injEq, Addr.mk.injEq] at e
    obtain ⟨⟨rfl, _⟩, _, rfl⟩ := e
    exact ⟨cur.toList, by unfold RowAt; simpa using hg, by simpa using h3, h4, h1, h2, hb⟩
theorem rowAt_own {w : World} {B g n cap : Nat} {X xs : List Value} (h : RowAt w g X) (hl : X.length = cap * 3) (ht : X.take (n * 3) = xs) (hc : n ≤ cap) (hm : cap ≤ maxLen) (hB : B ≤ g) : w.ownsRow B 113 3 (.slice (some ⟨g, 0, none⟩) n cap) n xs := by
  refine ⟨by rw [← ht, List.length_take, hl]; have := Nat.mul_le_mul_right 3 hc; omega, .inr ⟨g, cap, X.toArray, rfl, hB, h, hc, hm, by simpa using hl, by simpa using ht⟩⟩
theorem setCells_as_row {w : World} {g o : Nat} {X cs : List Value} (h : RowAt w g X) (hfit : o + cs.length ≤ X.length) (h1 : ∀ v ∈ cs, v.oneCell' = true) : RowAt (w.setCells g o cs) g (X.take o ++ cs ++ X.drop (o + cs.length)) := by
  have r1 := run_storeCells_at Tryz.prog g o 113 cs 0 X.toArray w h (by simpa using hfit) h1
  have r2 := run_storeCells_cells (P := Tryz.prog) g o cs 0 w (fun j hj => rowAt_some h _ (by omega)) (fun j _ => rowAt_frozen h _) h1
  rw [Nat.add_zero] at r1 r2
  have e := r2.symm.trans r1
  injection e with _ e
  rw [e]
  unfold RowAt
  rw [setRow_heap w g _ _ _ _ h]
theorem gb_setCells (g : Nat) : ∀ (cs : List Value) (o : Nat) (w : World), w.grownBy (w.setCells g o cs) (some g)
  | [], _, w => gb_refl _ _
  | v :: r, o, w => by
    rw [World.setCells]
    exact gb_trans (gb_set _ _ (gb_refl w (some g))) (gb_setCells g r _ _)
theorem one_i64s (zs : List Int) : ∀ v ∈ i64s zs, v.oneCell' = true := by
  intro v hv
  obtain ⟨x, _, rfl⟩ := List.mem_map.1 hv
  rfl
theorem run_copy3 (w : World) (ty : TypeId) (b o dLen dCap : Nat) (a : Addr) (sLen sCap : Nat) (cs : List Value) (m : Nat) (hm : m = Nat.min sLen dLen) (hn : cs.length = m * 3)
    (hsrc : ∀ j v, cs[j]? = some v → w.cell? (a.add j) = some v) (hc : ∀ j, j < cs.length → (w.cell? ⟨b, o + j, none⟩).isSome = true) (hf : ∀ j, j < cs.length → w.frozen? ⟨b, o + j, none⟩ = false) (h1 : ∀ v ∈ cs, v.oneCell' = true) :
    (Builtin.copy_ #[40, 40] ty #[.slice (some ⟨b, o, none⟩) dLen dCap, .slice (some a) sLen sCap]).run Tryz.prog w = .ok (goInt m) (w.setCells b o cs) := by
  obtain ⟨i, hi, -, hsz, -⟩ := info_parts infoRing
  have hl := run_loadCells_list (P := Tryz.prog) w a cs hsrc
  have hst := run_storeCells_cells (P := Tryz.prog) b o cs 0 w (by simpa using hc) (by simpa using hf) h1
  rw [Nat.add_zero] at hst
  rw [hn] at hl
  simp only [Builtin.copy_, Builtin.lenOf, Builtin.firstCells, sizeOf, typeInfo]
  simp [run_underlying Tryz.underlying40, hi, hsz, ← hm, hl, hst]
theorem run_clear3 (w : World) (ty : TypeId) (b o n c : Nat) (hn : 0 < n) (hc : ∀ j, j < n * 3 → (w.cell? ⟨b, o + j, none⟩).isSome = true) (hf : ∀ j, j < n * 3 → w.frozen? ⟨b, o + j, none⟩ = false) :
    (Builtin.clear_ #[40] ty #[.slice (some ⟨b, o, none⟩) n c]).run Tryz.prog w = .ok (.tuple #[]) (w.setCells b o (List.replicate (n * 3) (.int .i64 0))) := by
  have hzc : (Builtin.zeroCells (Value.agg #[.int .i64 0, .int .i64 0, .int .i64 0]).cells n).toList = List.replicate (n * 3) (.int .i64 0) := by
    apply List.ext_getElem?
    intro j
    have h3 : j % 3 = 0 ∨ j % 3 = 1 ∨ j % 3 = 2 := by omega
    by_cases h : j < n * 3
    · rcases h3 with h3 | h3 | h3 <;> simp [Builtin.zeroCells, h, Value.cells, h3]
    · simp [Builtin.zeroCells, Value.cells, h]
  have hst := run_storeCells_cells (P := Tryz.prog) b o (List.replicate (n * 3) (Value.int .i64 0)) 0 w (by simpa using hc) (by simpa using hf) (by intro v hv; rw [List.eq_of_mem_replicate hv]; rfl)
  rw [Nat.add_zero] at hst
  have hz : ∀ w : World, (zeroValue 113).run Tryz.prog w = .ok (.agg #[.int .i64 0, .int .i64 0, .int .i64 0]) w := fun w => by kernel_rfl
  obtain ⟨m, rfl⟩ : ∃ m, n = m + 1 := ⟨n - 1, by omega⟩
  simp [Builtin.clear_, run_underlying Tryz.underlying40, hz, hzc, hst]
theorem run_make3 (w : World) (n c : Nat) (hnc : n ≤ c) (hc : c ≤ 1048576) :
    (Instr.makeSlice 40 (.int .i64 (n : Int)) (.int .i64 (c : Int))).run Tryz.prog w = .ok (.slice (some ⟨w.heap.size, 0, none⟩) n c) (w.alloc (.cells (i64s (flat (List.replicate c zR))).toArray 113)) := by
  obtain ⟨i, hi, hz, hsz, hb⟩ := info_parts infoRing
  have h := run_make (P := Tryz.prog) w 40 113 i _ Tryz.underlying40 hi hz .i64 .i64 n c (by omega) (by omega) (by rw [hb]; omega) (by omega)
  rw [h, hsz]
  simp only [Int.toNat_natCast]
  rw [← made_rings]
theorem flat_take (rs : List Rg) (k : Nat) : (flat rs).take (k * 3) = flat (rs.take k) := by
  induction rs generalizing k with
  | nil => simp [flat]
  | cons r rs ih =>
    match k with
    | 0 => simp [flat]
    | k + 1 =>
      rw [show (k + 1) * 3 = k * 3 + 1 + 1 + 1 by omega]
      simp [flat, ih]
theorem flat_drop (rs : List Rg) (k : Nat) : (flat rs).drop (k * 3) = flat (rs.drop k) := by
  induction rs generalizing k with
  | nil => simp [flat]
  | cons r rs ih =>
    match k with
    | 0 => simp [flat]
    | k + 1 =>
      rw [show (k + 1) * 3 = k * 3 + 1 + 1 + 1 by omega]
      simp [flat, ih]
theorem i64s_take (zs : List Int) (k : Nat) : (i64s zs).take k = i64s (zs.take k) := by simp [i64s, List.map_take]
theorem i64s_drop (zs : List Int) (k : Nat) : (i64s zs).drop k = i64s (zs.drop k) := by simp [i64s, List.map_drop]
theorem i64s_app (a b : List Int) : i64s (a ++ b) = i64s a ++ i64s b := by simp [i64s]
theorem i64s_length (a : List Int) : (i64s a).length = a.length := by simp [i64s]
end Go.Proofs.YtpjopfhkgegahaaGreat


namespace Go.Proofs.YtpjopfhkgegahaaGreat
open Go.ChangeShapes Go.WideShapes Go.ChangeAt Go.RowKit

def resS (s : ByteArray) (c : Int) : ByteArray := if c = 0 then s else ⟨#[]⟩
def resL (l : List Rg) (c : Int) : List Rg := if c = 0 then l else []
def resC (s : ByteArray) (l : List Rg) : Int := if profB s l = true then 0 else 6
theorem resL_len (l : List Rg) (c : Int) (h : l.length ≤ 64) : (resL l c).length ≤ 64 := by unfold resL; split <;> simp [h]
theorem results_cellP {P : Program} {fn : Func} {p r : Tmp} {ty : TypeId} (h : fn.results = #[.cell p ty, .tmp r]) (tmps : Array Value) (w : World) :
    (results fn tmps).run P w = ((asAddr (tmps.getD p undef)).run P w).andThen fun a w1 => ((loadVar ty a).run P w1).andThen fun v w2 => .ok (.tuple #[v, tmps.getD r undef]) w2 := by
  simp only [results, h]
  simp [Sem.run_bind, Result.andThen]
/-- Block g holds no profile yet, and may be written. -/
def BlankP (w : World) (g : Nat) : Prop := (w.cell? ⟨g, 0, none⟩ = some (.string ⟨#[]⟩) ∧ w.cell? ⟨g, 1, none⟩ = some (.slice none 0 0)) ∧ w.frozen? ⟨g, 0, none⟩ = false ∧ w.frozen? ⟨g, 1, none⟩ = false
theorem blankP_kept {w w' : World} {B g : Nat} (hb : Below B w w') (hg : g < B) (h : BlankP w g) : BlankP w' g :=
  ⟨⟨by rw [hb.cell (p := ⟨g, 0, none⟩) hg]; exact h.1.1, by rw [hb.cell (p := ⟨g, 1, none⟩) hg]; exact h.1.2⟩, by rw [hb.frozen (p := ⟨g, 0, none⟩) hg]; exact h.2.1, by rw [hb.frozen (p := ⟨g, 1, none⟩) hg]; exact h.2.2⟩
theorem blankP_alloc (w : World) (T : TypeId) : BlankP (w.alloc (.cells #[.string ⟨#[]⟩, .slice none 0 0] T)) w.heap.size := ⟨⟨by go_simp, by go_simp⟩, by go_simp, by go_simp⟩
theorem blankP_gb {w w' : World} {g : Nat} {row : Option Nat} (hb : w.grownBy w' row) (hg : g < w.heap.size) (hne : some g ≠ row) (h : BlankP w g) : BlankP w' g := by
  have e : w'.heap[g]? = w.heap[g]? := hb.block g hg hne
  exact ⟨⟨(World.cell?_of_block e).trans h.1.1, (World.cell?_of_block e).trans h.1.2⟩, (World.frozen?_of_block e).trans h.2.1, (World.frozen?_of_block e).trans h.2.2⟩
set_option maxRecDepth 20000 in
set_option maxHeartbeats 2000000 in
theorem withRings_any (s : ByteArray) (a0 : Option Addr) (n0 c0 : Nat) (v : Value) (l : List Rg) (w : World) (h : RingsAt w v l) (hs : s.size ≤ maxLen) :
    Calls Tryz.prog 116 #[.agg #[.string s, .slice a0 n0 c0], v] w fun e w' => e = .returned (.tuple #[.agg #[.string (resS s (resC s l)), if profB s l = true then v else .slice none 0 0], .int .i64 (resC s l)]) ∧ Below w.heap.size w w' := by
  have HI := Lib.hid h
  obtain ⟨a, c, rfl⟩ := rings_form h
  clear h
  generalize hn : l.length = n at *
  clear hn
  rcases Bool.eq_false_or_eq_true (profB s l) with hp | hp
  · have hC : resC s l = 0 := by unfold resC; rw [if_pos hp]
    have HP := Lib.hid hp
    rw [hC, if_pos hp, show resS s 0 = s from rfl]
    clear hp hC
    have hBA := ((Below.refl w.heap.size w).alloc (Nat.le_refl _) (.cells #[.string s, .slice a n c] 42)).alloc (by simp) (.cells #[.string ⟨#[]⟩, .slice none 0 0] 42)
    have z0 : ((w.alloc (.cells #[.string s, .slice a n c] 42)).alloc (.cells #[.string ⟨#[]⟩, .slice none 0 0] 42)).cell? ⟨w.heap.size, 0, none⟩ = some (.string s) := by go_simp
    have z1 : ((w.alloc (.cells #[.string s, .slice a n c] 42)).alloc (.cells #[.string ⟨#[]⟩, .slice none 0 0] 42)).cell? ⟨w.heap.size, 1, none⟩ = some (.slice a n c) := by go_simp
    have hbl : BlankP ((w.alloc (.cells #[.string s, .slice a n c] 42)).alloc (.cells #[.string ⟨#[]⟩, .slice none 0 0] 42)) (w.heap.size + 1) := ⟨⟨by go_simp, by go_simp⟩, by go_simp, by go_simp⟩
    have hl1 : w.heap.size + 1 < ((w.alloc (.cells #[.string s, .slice a n c] 42)).alloc (.cells #[.string ⟨#[]⟩, .slice none 0 0] 42)).heap.size := by simp
    have HBA := Lib.hid hBA
    have HIA := Lib.hid (rings_kept hBA HI.out)
    go_enter Tryz.func116, Tryz.ntmps116
    go_wp2_with fail
    clear hBA
    generalize ((w.alloc (.cells #[.string s, .slice a n c] 42)).alloc (.cells #[.string ⟨#[]⟩, .slice none 0 0] 42)) = wA at *
    refine (implValidP_any s _ l _ HIA.out hs).mono ?_
    rintro e w1 ⟨rfl, hb⟩
    rw [HP.out]
    have q0 := (below_cell hb _ _ (by omega)).trans z0
    have q1 := (below_cell hb _ _ (by omega)).trans z1
    obtain ⟨⟨b0, b1⟩, f0, f1⟩ := blankP_kept hb hl1 hbl
    have HB := Lib.hid (below_of HBA.out hb HBA.out.size)
    clear hb hbl z0 z1
    go_wp2
    try simp only [Exit.inBlock, Exit.then]
    refine bodyPost_ret_by (v := .tuple #[.agg #[.string s, .slice a n c], .int .i64 0]) (by rw [results_cellP rfl]; go_simp) rfl ?_
    exact ⟨rfl, (HB.out.setCell (by show _ ≤ w.heap.size + 1; omega) _).setCell (by show _ ≤ w.heap.size + 1; omega) _⟩
  · have hC : resC s l = 6 := by unfold resC; rw [hp]; rfl
    have HP := Lib.hid hp
    rw [hC, hp, show resS s 6 = ⟨#[]⟩ from rfl]
    clear hp hC
    have hBA := ((Below.refl w.heap.size w).alloc (Nat.le_refl _) (.cells #[.string s, .slice a n c] 42)).alloc (by simp) (.cells #[.string ⟨#[]⟩, .slice none 0 0] 42)
    have z0 : ((w.alloc (.cells #[.string s, .slice a n c] 42)).alloc (.cells #[.string ⟨#[]⟩, .slice none 0 0] 42)).cell? ⟨w.heap.size, 0, none⟩ = some (.string s) := by go_simp
    have z1 : ((w.alloc (.cells #[.string s, .slice a n c] 42)).alloc (.cells #[.string ⟨#[]⟩, .slice none 0 0] 42)).cell? ⟨w.heap.size, 1, none⟩ = some (.slice a n c) := by go_simp
    have hbl : BlankP ((w.alloc (.cells #[.string s, .slice a n c] 42)).alloc (.cells #[.string ⟨#[]⟩, .slice none 0 0] 42)) (w.heap.size + 1) := ⟨⟨by go_simp, by go_simp⟩, by go_simp, by go_simp⟩
    have hl1 : w.heap.size + 1 < ((w.alloc (.cells #[.string s, .slice a n c] 42)).alloc (.cells #[.string ⟨#[]⟩, .slice none 0 0] 42)).heap.size := by simp
    have HBA := Lib.hid hBA
    have HIA := Lib.hid (rings_kept hBA HI.out)
    go_enter Tryz.func116, Tryz.ntmps116
    go_wp2_with fail
    clear hBA
    generalize ((w.alloc (.cells #[.string s, .slice a n c] 42)).alloc (.cells #[.string ⟨#[]⟩, .slice none 0 0] 42)) = wA at *
    refine (implValidP_any s _ l _ HIA.out hs).mono ?_
    rintro e w1 ⟨rfl, hb⟩
    rw [HP.out]
    have q0 := (below_cell hb _ _ (by omega)).trans z0
    have q1 := (below_cell hb _ _ (by omega)).trans z1
    obtain ⟨⟨b0, b1⟩, f0, f1⟩ := blankP_kept hb hl1 hbl
    have HB := Lib.hid (below_of HBA.out hb HBA.out.size)
    clear hb hbl z0 z1
    go_wp2
    try simp only [Exit.inBlock, Exit.then]
    refine bodyPost_ret_by (v := .tuple #[.agg #[.string ⟨#[]⟩, .slice none 0 0], .int .i64 6]) (by rw [results_cellP rfl]; go_simp) rfl ?_
    exact ⟨rfl, (HB.out.setCell (by show _ ≤ w.heap.size + 1; omega) _).setCell (by show _ ≤ w.heap.size + 1; omega) _⟩
set_option maxRecDepth 20000 in
set_option maxHeartbeats 2000000 in
theorem l07Done_any (s : ByteArray) (v : Value) (l : List Rg) (w : World) (h : RingsAt w v l) (hs : s.size ≤ maxLen) :
    Calls Tryz.prog 76 #[.agg #[.string s, v]] w fun e w' => e = .returned (.tuple #[.agg #[.string (resS s (resC s l)), if profB s l = true then v else .slice none 0 0], .int .i64 (resC s l)]) ∧ Below w.heap.size w w' := by
  have HI := Lib.hid h
  obtain ⟨a, c, rfl⟩ := rings_form h
  clear h
  generalize hn : l.length = n at *
  clear hn
  rcases Bool.eq_false_or_eq_true (profB s l) with hp | hp
  · have hC : resC s l = 0 := by unfold resC; rw [if_pos hp]
    have HP := Lib.hid hp
    rw [hC, if_pos hp, show resS s 0 = s from rfl]
    clear hp hC
    have hBA := ((Below.refl w.heap.size w).alloc (Nat.le_refl _) (.cells #[.string s, .slice a n c] 42)).alloc (by simp) (.cells #[.string ⟨#[]⟩, .slice none 0 0] 42)
    have z0 : ((w.alloc (.cells #[.string s, .slice a n c] 42)).alloc (.cells #[.string ⟨#[]⟩, .slice none 0 0] 42)).cell? ⟨w.heap.size, 0, none⟩ = some (.string s) := by go_simp
    have z1 : ((w.alloc (.cells #[.string s, .slice a n c] 42)).alloc (.cells #[.string ⟨#[]⟩, .slice none 0 0] 42)).cell? ⟨w.heap.size, 1, none⟩ = some (.slice a n c) := by go_simp
    have hbl : BlankP ((w.alloc (.cells #[.string s, .slice a n c] 42)).alloc (.cells #[.string ⟨#[]⟩, .slice none 0 0] 42)) (w.heap.size + 1) := ⟨⟨by go_simp, by go_simp⟩, by go_simp, by go_simp⟩
    have hl1 : w.heap.size + 1 < ((w.alloc (.cells #[.string s, .slice a n c] 42)).alloc (.cells #[.string ⟨#[]⟩, .slice none 0 0] 42)).heap.size := by simp
    have HBA := Lib.hid hBA
    have HIA := Lib.hid (rings_kept hBA HI.out)
    go_enter Tryz.func76, Tryz.ntmps76
    go_wp2_with fail
    clear hBA
    generalize ((w.alloc (.cells #[.string s, .slice a n c] 42)).alloc (.cells #[.string ⟨#[]⟩, .slice none 0 0] 42)) = wA at *
    refine (l05Ok_any _ s _ l _ ⟨z0, z1⟩ HIA.out hs).mono ?_
    rintro e w1 ⟨rfl, hb⟩
    rw [HP.out]
    have q0 := (below_cell hb _ _ (by omega)).trans z0
    have q1 := (below_cell hb _ _ (by omega)).trans z1
    obtain ⟨⟨b0, b1⟩, f0, f1⟩ := blankP_kept hb hl1 hbl
    have HB := Lib.hid (below_of HBA.out hb HBA.out.size)
    clear hb hbl z0 z1
    go_wp2
    try simp only [Exit.inBlock, Exit.then]
    refine bodyPost_ret_by (v := .tuple #[.agg #[.string s, .slice a n c], .int .i64 0]) (by rw [results_cellP rfl]; go_simp) rfl ?_
    exact ⟨rfl, (HB.out.setCell (by show _ ≤ w.heap.size + 1; omega) _).setCell (by show _ ≤ w.heap.size + 1; omega) _⟩
  · have hC : resC s l = 6 := by unfold resC; rw [hp]; rfl
    have HP := Lib.hid hp
    rw [hC, hp, show resS s 6 = ⟨#[]⟩ from rfl]
    clear hp hC
    have hBA := ((Below.refl w.heap.size w).alloc (Nat.le_refl _) (.cells #[.string s, .slice a n c] 42)).alloc (by simp) (.cells #[.string ⟨#[]⟩, .slice none 0 0] 42)
    have z0 : ((w.alloc (.cells #[.string s, .slice a n c] 42)).alloc (.cells #[.string ⟨#[]⟩, .slice none 0 0] 42)).cell? ⟨w.heap.size, 0, none⟩ = some (.string s) := by go_simp
    have z1 : ((w.alloc (.cells #[.string s, .slice a n c] 42)).alloc (.cells #[.string ⟨#[]⟩, .slice none 0 0] 42)).cell? ⟨w.heap.size, 1, none⟩ = some (.slice a n c) := by go_simp
    have hbl : BlankP ((w.alloc (.cells #[.string s, .slice a n c] 42)).alloc (.cells #[.string ⟨#[]⟩, .slice none 0 0] 42)) (w.heap.size + 1) := ⟨⟨by go_simp, by go_simp⟩, by go_simp, by go_simp⟩
    have hl1 : w.heap.size + 1 < ((w.alloc (.cells #[.string s, .slice a n c] 42)).alloc (.cells #[.string ⟨#[]⟩, .slice none 0 0] 42)).heap.size := by simp
    have HBA := Lib.hid hBA
    have HIA := Lib.hid (rings_kept hBA HI.out)
    go_enter Tryz.func76, Tryz.ntmps76
    go_wp2_with fail
    clear hBA
    generalize ((w.alloc (.cells #[.string s, .slice a n c] 42)).alloc (.cells #[.string ⟨#[]⟩, .slice none 0 0] 42)) = wA at *
    refine (l05Ok_any _ s _ l _ ⟨z0, z1⟩ HIA.out hs).mono ?_
    rintro e w1 ⟨rfl, hb⟩
    rw [HP.out]
    have q0 := (below_cell hb _ _ (by omega)).trans z0
    have q1 := (below_cell hb _ _ (by omega)).trans z1
    obtain ⟨⟨b0, b1⟩, f0, f1⟩ := blankP_kept hb hl1 hbl
    have HB := Lib.hid (below_of HBA.out hb HBA.out.size)
    clear hb hbl z0 z1
    go_wp2
    try simp only [Exit.inBlock, Exit.then]
    refine bodyPost_ret_by (v := .tuple #[.agg #[.string ⟨#[]⟩, .slice none 0 0], .int .i64 6]) (by rw [results_cellP rfl]; go_simp) rfl ?_
    exact ⟨rfl, (HB.out.setCell (by show _ ≤ w.heap.size + 1; omega) _).setCell (by show _ ≤ w.heap.size + 1; omega) _⟩
end Go.Proofs.YtpjopfhkgegahaaGreat


set_option linter.unusedVariables false
namespace Go.Proofs.YtpjopfhkgegahaaGreat
open Go.ChangeShapes Go.WideShapes Go.ChangeAt Go.RowKit

theorem k2_below {w w' : World} {b : Nat} {u v : Value} (hS : w.cell? ⟨b, 0, none⟩ = some u ∧ w.cell? ⟨b, 1, none⟩ = some v) (hz : b < w.heap.size) (hb : Below w.heap.size w w') : w'.cell? ⟨b, 0, none⟩ = some u ∧ w'.cell? ⟨b, 1, none⟩ = some v :=
  ⟨(below_cell hb _ _ hz).trans hS.1, (below_cell hb _ _ hz).trans hS.2⟩
theorem k2_gb {w w' : World} {b : Nat} {u v : Value} {row : Option Nat} (hS : w.cell? ⟨b, 0, none⟩ = some u ∧ w.cell? ⟨b, 1, none⟩ = some v) (hz : b < w.heap.size) (hb : w.grownBy w' row) (hne : some b ≠ row) : w'.cell? ⟨b, 0, none⟩ = some u ∧ w'.cell? ⟨b, 1, none⟩ = some v :=
  ⟨(gb_cell hb _ _ hz hne).trans hS.1, (gb_cell hb _ _ hz hne).trans hS.2⟩
theorem k2_set2 {w : World} {b b2 : Nat} {u v x y : Value} (hS : w.cell? ⟨b, 0, none⟩ = some u ∧ w.cell? ⟨b, 1, none⟩ = some v) (hne : b ≠ b2) : ((w.setCell ⟨b2, 0, none⟩ x).setCell ⟨b2, 1, none⟩ y).cell? ⟨b, 0, none⟩ = some u ∧ ((w.setCell ⟨b2, 0, none⟩ x).setCell ⟨b2, 1, none⟩ y).cell? ⟨b, 1, none⟩ = some v := by
  have e : ∀ (w : World) (k j : Nat) (z : Value), (w.setCell ⟨b2, k, none⟩ z).cell? ⟨b, j, none⟩ = w.cell? ⟨b, j, none⟩ := fun w k j z => World.cell?_of_block (Below.heap_setCell _ _ _ _ hne)
  exact ⟨by rw [e, e]; exact hS.1, by rw [e, e]; exact hS.2⟩
theorem rings_of_row {w : World} {g m cap : Nat} {X : List Value} {l : List Rg} (h : RowAt w g X) (ht : X.take (m * 3) = i64s (flat l)) (hm : l.length = m) (h64 : m ≤ 1048576) : RingsAt w (.slice (some ⟨g, 0, none⟩) m cap) l := by
  refine ⟨by omega, .inr ⟨g, 0, cap, by rw [hm], rowAt_lt h, fun j hj => ?_⟩⟩
  rw [Nat.zero_add, rowAt_cell h]
  have h2 := i64s_get (flat l) j (by rw [flat_len]; exact hj)
  rw [← ht, List.getElem?_take] at h2
  split at h2
  · exact h2
  · cases h2
theorem ownR_set2 {w : World} {B : Nat} {v : Value} {zs : List Rg} (h : OwnRings w B v zs) (b : Nat) (x y : Value) (hne : ∀ g o n c, v = .slice (some ⟨g, o, none⟩) n c → b ≠ g) : OwnRings ((w.setCell ⟨b, 0, none⟩ x).setCell ⟨b, 1, none⟩ y) B v zs := by
  obtain ⟨g, cap, rfl, h1, h2, hown⟩ := h
  have hne := hne g 0 _ _ rfl
  have e : ∀ (w : World) (k : Nat) (z : Value), w.grownBy (w.setCell ⟨b, k, none⟩ z) (some b) := fun w k z => gb_set _ _ (gb_refl w (some b))
  refine ⟨g, cap, rfl, h1, by simpa using h2, (hown.kept (e _ _ _) (.inr ?_)).kept (e _ _ _) (.inr ?_)⟩ <;> simp [Value.ownBlock] <;> omega
/-- A slice of rings whose capacity is not less than its length. -/
def RingsC (w : World) (v : Value) (rs : List Rg) : Prop := RingsAt w v rs ∧ ∃ a c, v = .slice a rs.length c ∧ rs.length ≤ c
theorem rv_ringsC {w : World} {B : Nat} {v : Value} {zs : List Rg} (hl : zs.length ≤ 1048576) (h : Rv w B v zs) : RingsC w v zs := by
  refine ⟨rv_rings hl h, ?_⟩
  rcases h with ⟨rfl, rfl⟩ | ⟨g, cap, rfl, h2, h4⟩
  · exact ⟨_, _, rfl, by simp⟩
  · obtain ⟨X, h1, h2, h3, h5, -⟩ := rowAt_of h4
    exact ⟨_, _, rfl, h5⟩
section
variable {P : Program} {w : World}
theorem step_append_own {ops : Array Oper} {o : Oper} {a : Act} {K : Act → World → Prop} {Q : Exit → Act → World → Prop} {E : Prop} (hgd : o.guard = none) (s x : Operand) (t : TypeId)
    (ho : o.op = .call { callee := .builtin .append, args := #[s, x], argTypes := #[t, t] })
    (base : Nat) (e : TypeId) (i : TypeInfo) (z : Value) (size bytes : Nat) (ht : P.underlying t = some (.slice e)) (hi : P.info? e = some i) (hz : i.zero = some z)
    (hsize : i.size = size) (hby : i.bytes = bytes) (hzs : z.cells.size = size) (hsz : 0 < size)
    (v : Value) (n : Nat) (xs : List Value) (hs : a.eval s = v) (hown : w.ownsRow base e size v n xs)
    (ad : Addr) (m c : Nat) (news : List Value) (hx : a.eval x = .slice (some ad) m c) (hl : news.length = m * size) (hnews : ∀ j u, news[j]? = some u → w.cell? (ad.add j) = some u) (h1 : ∀ u ∈ news, u.oneCell' = true)
    (h63 : n + m ≤ maxLen) (hbytes : (n + m) * bytes ≤ 140737488355328) (hbase : base ≤ w.heap.size)
    (h : ∀ v' w', w'.ownsRow base e size v' (n + m) (xs ++ news) → w.grownBy w' v.ownBlock → (v' = .slice none 0 0 ↔ v = .slice none 0 0 ∧ m = 0) → (v'.ownBlock = v.ownBlock ∨ v'.ownBlock = some w.heap.size) → K (a.put o.dst v') w') :
    if Region.wanted o (yielded ops a.tmps) = true then Oper.wp P o a w K Q else E := by
  have hw : Region.wanted o (yielded ops a.tmps) = true := by simp [Region.wanted, hgd]
  rw [if_pos hw]
  obtain ⟨v', w', hr, h2, h3, h4, h5⟩ := run_append_own_at (P := P) w base t o.type e i z size bytes ht hi hz hsize hby hzs hsz v n xs hown ad m c news hl hnews h1 h63 hbytes hbase
  unfold Oper.wp execOp
  simp only [ho, resolve, invoke, builtin, Sem.run_bind, Sem.run_pure, Result.andThen_ok, List.map_toArray, List.map_cons, List.map_nil, hs, hx, hr]
  exact h v' w' h2 h3 h4 h5
end
theorem apart_n {b g n c : Nat} (h : b ≠ g) : some b ≠ (Value.slice (some ⟨g, 0, none⟩) n c).ownBlock := by simpa [Value.ownBlock] using h
theorem own_slice {w : World} {B : Nat} {v : Value} {n : Nat} {xs : List Value} (h : w.ownsRow B 113 3 v n xs) (hne : ¬ v = .slice none 0 0) : ∃ g cap, v = .slice (some ⟨g, 0, none⟩) n cap ∧ B ≤ g ∧ g < w.heap.size := by
  rcases h.2 with ⟨e, _⟩ | ⟨g, cap, cur, e, hb, hg, _⟩
  · exact absurd e hne
  · exact ⟨g, cap, e, hb, (Array.getElem?_eq_some_iff.1 hg).1⟩
end Go.Proofs.YtpjopfhkgegahaaGreat


set_option linter.unusedVariables false
namespace Go.Proofs.YtpjopfhkgegahaaGreat
open Go.ChangeShapes Go.WideShapes Go.ChangeAt Go.RowKit

theorem addr_addO (g o j : Nat) : (⟨g, o, none⟩ : Addr).add j = ⟨g, o + j, none⟩ := by unfold Addr.add; split <;> simp_all
theorem k2o {W W2 : World} {p : Nat} {u v : Value} (hS : W.cell? ⟨p, 0, none⟩ = some u ∧ W.cell? ⟨p, 1, none⟩ = some v) (hz : p < W.heap.size) (hb : Below W.heap.size W W2) : W2.cell? ⟨p, 0, none⟩ = some u ∧ W2.cell? ⟨p, 1, none⟩ = some v :=
  ⟨(below_cell hb _ _ hz).trans hS.1, (below_cell hb _ _ hz).trans hS.2⟩
theorem results_cell1o {P : Program} {fn : Func} {p : Tmp} {ty : TypeId} (h : fn.results = #[.cell p ty]) (tmps : Array Value) (w : World) :
    (results fn tmps).run P w = ((asAddr (tmps.getD p undef)).run P w).andThen fun a w1 => (loadVar ty a).run P w1 := results_cellR h tmps w
set_option maxRecDepth 100000 in
set_option maxHeartbeats 2000000 in
theorem l05Own_any (p b off n c : Nat) (s : ByteArray) (rs : List Rg) (w : World) (hn : rs.length = n) (h1 : 1 ≤ n) (h32 : n ≤ 32) (hpl : p < w.heap.size) (hbl : b < w.heap.size) (hp : ProfIn w p s (.slice (some ⟨b, off, none⟩) n c)) (hsrc : ∀ j, j < n * 3 → w.cell? ⟨b, off + j, none⟩ = some (.int .i64 ((flat rs).getD j 0))) :
    Calls Tryz.prog 99 #[.pointer (some ⟨p, 0, none⟩)] w fun e w' => ∃ g cap, e = .returned (.agg #[.string s, .slice (some ⟨g, 0, none⟩) n cap]) ∧ w.heap.size ≤ g ∧ w'.ownsRow w.heap.size 113 3 (.slice (some ⟨g, 0, none⟩) n cap) n (i64s (flat rs)) ∧ Below w.heap.size w w' := by
  obtain ⟨i0, hi, hz0, hz1, hz2⟩ := info_parts infoRing
  obtain ⟨p0, p1⟩ := hp
  have HFL := Lib.hid (show (i64s (flat rs)).length = n * 3 by rw [i64s_length, flat_len, hn])
  have hBA := below_al w (.cells #[.string ⟨#[]⟩, .slice none 0 0] 42)
  have q0 := (below_cell hBA _ _ hpl).trans p0
  have q1 := (below_cell hBA _ _ hpl).trans p1
  have HSR := Lib.hid (show ∀ j u, (i64s (flat rs))[j]? = some u → ((w.alloc (.cells #[.string ⟨#[]⟩, .slice none 0 0] 42)).alloc (.cells #[] 113)).drew.cell? ((⟨b, off, none⟩ : Addr).add j) = some u from fun j u hj => by
    have hjl : j < n * 3 := by rw [← HFL.out]; exact (List.getElem?_eq_some_iff.1 hj).1
    have h2 := below_cell (show Below (w.alloc (.cells #[.string ⟨#[]⟩, .slice none 0 0] 42)).heap.size (w.alloc (.cells #[.string ⟨#[]⟩, .slice none 0 0] 42)) ((w.alloc (.cells #[.string ⟨#[]⟩, .slice none 0 0] 42)).alloc (.cells #[] 113)).drew from (below_al (w.alloc (.cells #[.string ⟨#[]⟩, .slice none 0 0] 42)) (.cells #[] 113)).trans ⟨rfl, rfl, rfl, Nat.le_refl _, fun _ _ => rfl⟩) b (off + j) (Nat.lt_of_lt_of_le hbl hBA.size)
    rw [addr_addO, h2]
    refine ((below_cell hBA _ _ hbl).trans (hsrc j hjl)).trans ?_
    rw [i64s_get _ j (by rw [flat_len, hn]; exact hjl)] at hj
    exact hj)
  have HR0 := Lib.hid (show ((w.alloc (.cells #[.string ⟨#[]⟩, .slice none 0 0] 42)).alloc (.cells #[] 113)).drew.ownsRow (w.heap.size + 1) 113 3 (.slice (some ⟨w.heap.size + 1, 0, none⟩) 0 0) 0 [] from by
    have h := World.ownsRow.drew (World.ownsRow_made (base := w.heap.size + 1) (e := 113) (size := 3) (w.alloc (.cells #[.string ⟨#[]⟩, .slice none 0 0] 42)) #[] 0 (by simp) (by unfold maxLen; omega) rfl)
    have hsz : (w.alloc (.cells #[.string ⟨#[]⟩, .slice none 0 0] 42)).heap.size = w.heap.size + 1 := by simp
    rwa [hsz] at h)
  have HBK := Lib.hid (blankP_alloc w 42)
  have hl := alloc_lt2 w (.cells #[.string ⟨#[]⟩, .slice none 0 0] 42)
  have hpA := Nat.lt_of_lt_of_le hpl hBA.size
  have hsA : (w.alloc (.cells #[.string ⟨#[]⟩, .slice none 0 0] 42)).heap.size = w.heap.size + 1 := by simp
  have HBA := Lib.hid hBA
  clear p0 p1 hsrc hBA
  go_enter Tryz.func99, Tryz.ntmps99
  go_wp2
  generalize w.alloc (.cells #[.string ⟨#[]⟩, .slice none 0 0] 42) = wA at *
  have hba : Below wA.heap.size wA (wA.alloc (.cells #[] 113)).drew := (below_al wA (.cells #[] 113)).trans ⟨rfl, rfl, rfl, Nat.le_refl _, fun _ _ => rfl⟩
  have hBa := below_of HBA.out hba HBA.out.size
  have hlw : w.heap.size < (wA.alloc (.cells #[] 113)).drew.heap.size := Nat.lt_of_lt_of_le hl hba.size
  have HBKa := Lib.hid (blankP_kept hba hl HBK.out)
  have hbase : w.heap.size + 1 ≤ (wA.alloc (.cells #[] 113)).drew.heap.size := hlw
  have hpw : p ≠ w.heap.size := by omega
  go_region_held3 (fun w' => w'.cell? ⟨p, 0, none⟩ = some (.string s) ∧ w'.cell? ⟨p, 1, none⟩ = some (.slice (some ⟨b, off, none⟩) n c))
    (first | exact ⟨q0, q1⟩ | assumption | exact k2o (W := wA) ⟨q0, q1⟩ hpA hba | exact HM.out | exact ⟨(World.cell?_setCell_far _ _ _ _ hpw.symm).trans ((World.cell?_setCell_far _ _ _ _ hpw.symm).trans HM.out.1), (World.cell?_setCell_far _ _ _ _ hpw.symm).trans ((World.cell?_setCell_far _ _ _ _ hpw.symm).trans HM.out.2)⟩)
    ((refine step_append_own rfl _ _ 40 rfl (w.heap.size + 1) 113 i0 _ 3 24 Tryz.underlying40 hi hz0 hz1 hz2 rfl (by omega) (.slice (some ⟨w.heap.size + 1, 0, none⟩) 0 0) 0 [] (by first | rfl | simp [Act.eval]) HR0.out ⟨b, off, none⟩ n c (i64s (flat rs)) (by first | rfl | simp [Act.eval]) HFL.out HSR.out (one_i64s _) (by unfold maxLen; omega) (by omega) hbase ?_; intro v5 w5 hown5 hgrow5 hnil5 hat5; obtain ⟨g5, c5, rfl, hg5, hg5l⟩ := own_slice hown5 (fun e => by have := (hnil5.1 e).1; cases this); have hneW : some w.heap.size ≠ (Value.slice (some ⟨w.heap.size + 1, 0, none⟩) 0 0).ownBlock := (by simp [Value.ownBlock]); have hneP : some p ≠ (Value.slice (some ⟨w.heap.size + 1, 0, none⟩) 0 0).ownBlock := (by simp [Value.ownBlock]; omega); have hkk := k2o (W := wA) ⟨q0, q1⟩ hpA hba; have m0 := (gb_cell hgrow5 p 0 (Nat.lt_of_lt_of_le hpA hba.size) hneP).trans hkk.1; have m1 := (gb_cell hgrow5 p 1 (Nat.lt_of_lt_of_le hpA hba.size) hneP).trans hkk.2; have HBK5 := Lib.hid (blankP_gb hgrow5 hlw hneW HBKa.out); obtain ⟨⟨x0, x1⟩, x2, x3⟩ := HBK5.out; have HB5 := Lib.hid (hBa.grown hgrow5 (Nat.le_of_lt hlw) (fun q hq => by simp only [Value.ownBlock, Option.some.injEq] at hq; omega)); have HO5 := Lib.hid hown5; have HM := Lib.hid (show w5.cell? ⟨p, 0, none⟩ = some (.string s) ∧ w5.cell? ⟨p, 1, none⟩ = some (.slice (some ⟨b, off, none⟩) n c) from ⟨m0, m1⟩); clear hown5 hnil5 hat5 hgrow5 m0 m1 hkk))
  all_goals
    go_wp2
    try simp only [Exit.inBlock, Exit.then]
    refine bodyPost_ret_by (v := .agg #[.string s, .slice (some ⟨g5, 0, none⟩) n c5]) (by rw [results_cell1o rfl]; go_simp) rfl ?_
    refine ⟨g5, c5, rfl, by omega, ?_, (HB5.out.setCell (by show _ ≤ w.heap.size; omega) _).setCell (by show _ ≤ w.heap.size; omega) _⟩
    have ho := HO5.out
    rw [List.nil_append, Nat.zero_add] at ho
    exact row_baseR ((ho.kept (gb_set _ _ (gb_refl w5 (some w.heap.size))) (.inr (by simp [Value.ownBlock]; omega))).kept (gb_set _ _ (gb_refl _ (some w.heap.size))) (.inr (by simp [Value.ownBlock]; omega))) (by omega)
end Go.Proofs.YtpjopfhkgegahaaGreat


set_option linter.unusedVariables false
namespace Go.Proofs.YtpjopfhkgegahaaGreat
open Go.ChangeShapes Go.WideShapes Go.ChangeAt Go.RowKit

def zoneN (zs : List Int) (r : Int) : Nat → Nat
  | 0 => 0
  | n + 1 => if zs.getD n 0 ≤ r then n else zoneN zs r n
theorem zoneN_yes {zs : List Int} {r : Int} {n : Nat} (h : zs.getD n 0 ≤ r) : zoneN zs r (n + 1) = n := by unfold zoneN; rw [if_pos h]
theorem zoneN_no {zs : List Int} {r : Int} {n : Nat} (h : ¬ zs.getD n 0 ≤ r) : zoneN zs r (n + 1) = zoneN zs r n := by
  conv => lhs; unfold zoneN
  rw [if_neg h]
theorem zoneN_lt (zs : List Int) (r : Int) : ∀ n, 0 < n → zoneN zs r n < n
  | 0, h => by omega
  | 1, _ => by unfold zoneN; split <;> simp [zoneN]
  | n + 2, _ => by
    have := zoneN_lt zs r (n + 1) (by omega)
    by_cases h : zs.getD (n + 1) 0 ≤ r
    · rw [zoneN_yes h]; omega
    · rw [zoneN_no h]; omega
theorem zones_first {zs : List Int} (h : zonesB zs = true) : zs.getD 0 0 = 0 := by
  unfold zonesB at h
  rw [Bool.and_eq_true, Bool.and_eq_true, decide_eq_true_eq, decide_eq_true_eq] at h
  exact h.2.1
/-- ZoneOf's two answers. -/
def zoR (zs : List Int) (r : Int) : Int := if zonesB zs = true ∧ inB r 0 31 = true then (zoneN zs r zs.length : Nat) else 0
def zoC (zs : List Int) (r : Int) : Int := if zonesB zs = true then if inB r 0 31 = true then 0 else 2 else 1
theorem zo_0 {zs : List Int} {r : Int} (h : zonesB zs = true) (h2 : inB r 0 31 = true) : zoR zs r = (zoneN zs r zs.length : Nat) ∧ zoC zs r = 0 := by unfold zoR zoC; rw [if_pos ⟨h, h2⟩, if_pos h, if_pos h2]; exact ⟨rfl, rfl⟩
theorem zo_2 {zs : List Int} {r : Int} (h : zonesB zs = true) (h2 : inB r 0 31 = false) : zoR zs r = 0 ∧ zoC zs r = 2 := by unfold zoR zoC; rw [if_neg (by rw [h2]; simp), if_pos h, if_neg (by rw [h2]; simp)]; exact ⟨rfl, rfl⟩
theorem zo_1 {zs : List Int} {r : Int} (h : zonesB zs = false) : zoR zs r = 0 ∧ zoC zs r = 1 := by unfold zoR zoC; rw [if_neg (by rw [h]; simp), if_neg (by rw [h]; simp)]; exact ⟨rfl, rfl⟩
theorem ret_zo {a b c d : Int} (h : a = b) (k : c = d) : Ending.returned (.tuple #[.int .i64 a, .int .i64 c]) = .returned (.tuple #[.int .i64 b, .int .i64 d]) := by rw [h, k]
set_option maxHeartbeats 1000000 in
theorem l09Zone_some (zs : List Int) (r : Int) (b off cap n : Nat) (w : World) (hn : n ≤ 64) (hc : ∀ j, j < n → w.cell? ⟨b, off + j, none⟩ = some (.int .i64 (zs.getD j 0))) :
    Calls Tryz.prog 100 #[.slice (some ⟨b, off, none⟩) n cap, .int .i64 r] w fun e w' => e = .returned (.int .i64 (zoneN zs r n : Nat)) ∧ w = w' := by
  have HC := Lib.hid hc
  clear hc
  go_enter Tryz.func100, Tryz.ntmps100
  go_wp2
  go_loop [5, 6] (fun kz i => ∃ k : Nat, k ≤ n ∧ i = .int .i64 k ∧ kz = .int .i64 (zoneN zs r k : Nat)) (fun _ i => n - (intOf i).toNat)
  case atStart => exact ⟨0, by omega, rfl, rfl⟩
  case round =>
    obtain ⟨k, hk, rfl, rfl⟩ := hrel
    by_cases hlt : k < n
    · have hcell := HC.out k hlt
      have hlt1 : (k : Int) < (n : Int) := by omega
      have hk0 : (0 : Int) ≤ (k : Int) := by omega
      by_cases hz : zs.getD k 0 ≤ r
      · have HY := Lib.hid (zoneN_yes hz)
        generalize zs.getD k 0 = z at *
        go_wp2
        go_round
        case rel => exact ⟨k + 1, by omega, by go_num, by rw [HY.out]⟩
        case measure => simp [intOf]; omega
      · have HY := Lib.hid (zoneN_no hz)
        generalize zs.getD k 0 = z at *
        go_wp2
        go_round
        case rel => exact ⟨k + 1, by omega, by go_num, by rw [HY.out]⟩
        case measure => simp [intOf]; omega
    · obtain rfl : k = n := by omega
      go_wp2
      go_ret
      exact ⟨rfl, rfl⟩
set_option maxHeartbeats 1000000 in
theorem zonesOf_any (zs : List Int) (r : Int) (b off cap n : Nat) (w : World) (hn : n ≤ 64) (h1 : 0 < n) (h0 : zs.getD 0 0 ≤ r) (hc : ∀ j, j < n → w.cell? ⟨b, off + j, none⟩ = some (.int .i64 (zs.getD j 0))) :
    Calls Tryz.prog 115 #[.slice (some ⟨b, off, none⟩) n cap, .int .i64 r] w fun e w' => e = .returned (.int .i64 (zoneN zs r n : Nat)) ∧ w = w' := by
  have HC := Lib.hid hc
  have H0 := Lib.hid h0
  have hs : (n : Int) - 1 = ((n - 1 : Nat) : Int) := by omega
  have HS := Lib.hid hs
  clear hc h0 hs
  go_enter Tryz.func115, Tryz.ntmps115
  go_wp2
  go_loop [5] (fun i => ∃ k : Nat, k < n ∧ i = .int .i64 k ∧ zoneN zs r n = zoneN zs r (k + 1)) (fun i => (intOf i).toNat)
  case atStart => exact ⟨n - 1, by omega, by rw [← HS.out], by rw [Nat.sub_add_cancel h1]⟩
  case round =>
    obtain ⟨k, hk, rfl, hzn⟩ := hrel
    have HN := Lib.hid hzn
    clear hzn
    have hcell := HC.out k hk
    have hlt1 : (k : Int) < (n : Int) := by omega
    have hk0 : (0 : Int) ≤ (k : Int) := by omega
    by_cases hz : zs.getD k 0 ≤ r
    · have HY := Lib.hid (zoneN_yes hz)
      generalize zs.getD k 0 = z at *
      have hz2 : ¬ r < z := by omega
      clear hz
      go_wp2
      go_ret
      exact ⟨ret_i64 (by rw [HN.out, HY.out]), rfl⟩
    · have HY := Lib.hid (zoneN_no hz)
      obtain ⟨q, rfl⟩ : ∃ q, k = q + 1 := ⟨k - 1, by
        have : k ≠ 0 := by intro e; subst e; exact hz H0.out
        omega⟩
      generalize zs.getD (q + 1) 0 = z at *
      have hz2 : r < z := by omega
      clear hz
      go_wp2
      go_round
      case rel => exact ⟨q, by omega, by go_num, by rw [HN.out, HY.out]⟩
      case measure => simp [intOf]
end Go.Proofs.YtpjopfhkgegahaaGreat


set_option linter.unusedVariables false
namespace Go.Proofs.YtpjopfhkgegahaaGreat
open Go.ChangeShapes Go.WideShapes Go.ChangeAt Go.RowKit

def turnR (t : Int) (r : Rg) : Rg := (r.1, r.2.1 + 10 * t, r.2.2)
/-- The first k rings turned, ring i by f i steps. -/
def turnL (f : Nat → Int) (rs : List Rg) (k : Nat) : List Rg := (List.range rs.length).map fun j => if j < k then turnR (f j) (rs.getD j zR) else rs.getD j zR
theorem turnL_len (f : Nat → Int) (rs : List Rg) (k : Nat) : (turnL f rs k).length = rs.length := by simp [turnL]
theorem turnL_zero (f : Nat → Int) (rs : List Rg) : turnL f rs 0 = rs := by
  refine List.ext_getElem (by simp [turnL]) fun j h1 h2 => ?_
  simp [turnL, List.getD, h2]
theorem turnL_get (f : Nat → Int) (rs : List Rg) (k j : Nat) (h : j < rs.length) : (turnL f rs k).getD j zR = if j < k then turnR (f j) (rs.getD j zR) else rs.getD j zR := by
  rw [List.getD_eq_getElem?_getD, List.getElem?_eq_getElem (by rw [turnL_len]; exact h)]
  simp [turnL]
theorem turnL_next (f : Nat → Int) (rs : List Rg) (k : Nat) (h : k < rs.length) : (turnL f rs k).set k (turnR (f k) (rs.getD k zR)) = turnL f rs (k + 1) := by
  refine List.ext_getElem (by simp [turnL]) fun j h1 h2 => ?_
  have hj : j < rs.length := by simpa [turnL] using h2
  rw [List.getElem_set]
  simp only [turnL, List.getElem_map, List.getElem_range]
  by_cases e : k = j
  · subst e; rw [if_pos rfl, if_pos (by omega)]
  · rw [if_neg e]
    by_cases e2 : j < k
    · rw [if_pos e2, if_pos (by omega)]
    · rw [if_neg e2, if_neg (by omega)]
theorem flat_setY (rs : List Rg) (j : Nat) (y : Int) (h : j < rs.length) : (flat rs).set (j * 3 + 1) y = flat (rs.set j ((rs.getD j zR).1, y, (rs.getD j zR).2.2)) := by
  induction rs generalizing j with
  | nil => simp at h
  | cons q rs ih =>
    match j with
    | 0 => simp [flat]
    | j + 1 =>
      have e : (j + 1) * 3 + 1 = j * 3 + 1 + 3 := by omega
      have := ih j (by simpa using h)
      rw [e]
      simpa [flat] using this
theorem storeY {w : World} {B g n cap : Nat} {rs : List Rg} (h : w.ownsRow B 113 3 (.slice (some ⟨g, 0, none⟩) n cap) n (i64s (flat rs))) (j : Nat) (y : Int) (hj : j < rs.length) :
    (w.setCell ⟨g, j * 3 + 1, none⟩ (.int .i64 y)).ownsRow B 113 3 (.slice (some ⟨g, 0, none⟩) n cap) n (i64s (flat (rs.set j ((rs.getD j zR).1, y, (rs.getD j zR).2.2)))) := by
  have h1 := (h.stored (j * 3 + 1) (.int .i64 y)).1
  rw [i64s_set, flat_setY rs j y hj] at h1
  exact h1
theorem src_lieT {w : World} {a : Option Addr} {n c : Nat} {rs : List Rg} (hn : rs.length = n) (h1 : 1 ≤ n) (h : RingsAt w (.slice a n c) rs) : ∃ b off, a = some ⟨b, off, none⟩ ∧ b < w.heap.size ∧ ∀ j, j < n * 3 → w.cell? ⟨b, off + j, none⟩ = some (.int .i64 ((flat rs).getD j 0)) := by
  obtain ⟨-, ⟨a', c', hv, h0⟩ | ⟨b, off, cap, hv, hbl, hc⟩⟩ := h
  · rw [h0] at hn; simp at hn; omega
  · simp only [Value.slice.injEq] at hv
    exact ⟨b, off, hv.1, hbl, fun j hj => hc j (by omega)⟩
theorem blankP_gbT {w w' : World} {g : Nat} {row : Option Nat} (hb : w.grownBy w' row) (hg : g < w.heap.size) (hne : some g ≠ row) (h : BlankP w g) : BlankP w' g := by
  have e : w'.heap[g]? = w.heap[g]? := hb.block g hg hne
  exact ⟨⟨(World.cell?_of_block e).trans h.1.1, (World.cell?_of_block e).trans h.1.2⟩, (World.frozen?_of_block e).trans h.2.1, (World.frozen?_of_block e).trans h.2.2⟩
theorem gb_drewT {w w1 : World} {row : Option Nat} (h : w.grownBy w1 row) : w.grownBy w1.drew row := ⟨h.os, h.tape, h.output, h.size, h.block⟩
theorem ints_cellsT {w : World} {v : Value} {zs : List Int} (h : IntsAt w v zs) (hp : 0 < zs.length) : ∃ b off cap, v = .slice (some ⟨b, off, none⟩) zs.length cap ∧ b < w.heap.size ∧ ∀ j, j < zs.length → w.cell? ⟨b, off + j, none⟩ = some (.int .i64 (zs.getD j 0)) := by
  obtain ⟨_, ⟨a, c, _, rfl⟩ | h⟩ := h
  · simp at hp
  · exact h
/-- The steps of ring i: those of its zone. -/
def stepF (zs L : List Int) (i : Nat) : Int := L.getD (zoneN zs (i : Int) zs.length) 0
set_option maxRecDepth 20000 in
set_option maxHeartbeats 4000000 in
theorem l09Turned_any (p : Nat) (s : ByteArray) (v vz vL : Value) (rs : List Rg) (zs L : List Int) (w : World) (hpl : p < w.heap.size) (hp : ProfIn w p s v) (h : RingsAt w v rs) (hz : IntsAt w vz zs) (hL : IntsAt w vL L)
    (h32 : 1 ≤ rs.length ∧ rs.length ≤ 32) (hR : ∀ i, i < rs.length → ringB (rs.getD i zR) = true) (hzl : 0 < zs.length ∧ zs.length ≤ 64) (hLl : zs.length ≤ L.length) (hLb : ∀ j, j < L.length → 0 ≤ L.getD j 0 ∧ L.getD j 0 ≤ 1000) :
    Calls Tryz.prog 63 #[.pointer (some ⟨p, 0, none⟩), vz, vL] w fun e w' => (∃ v, e = .returned (.agg #[.string s, v]) ∧ Rv w' w.heap.size v (turnL (stepF zs L) rs rs.length)) ∧ Below w.heap.size w w' := by
  obtain ⟨n1, n32⟩ := h32
  obtain ⟨bz, oz, cz, rfl, hbz, hcz⟩ := ints_cellsT hz hzl.1
  obtain ⟨bL, oL, cL, rfl, hbL, hcL⟩ := ints_cellsT hL (by omega)
  obtain ⟨a, c, rfl⟩ := rings_form h
  have HZC := Lib.hid (fun (i : Int) W (hW : Below w.heap.size w W) => l09Zone_some zs i bz oz cz zs.length W hzl.2 (fun j hj => (below_cell hW _ _ hbz).trans (hcz j hj)))
  have HZL := Lib.hid (fun (i : Int) => zoneN_lt zs i zs.length hzl.1)
  have HLC := Lib.hid (fun W (hW : Below w.heap.size w W) j (hj : j < L.length) => (below_cell hW _ _ hbL).trans (hcL j hj))
  have HLB := Lib.hid hLb
  have HSF := Lib.hid (fun i => show stepF zs L i = L.getD (zoneN zs (i : Int) zs.length) 0 from rfl)
  obtain ⟨b, off, rfl, hbl, hsrc⟩ := src_lieT rfl n1 h
  have HPN := Lib.hid (fun k (hk : k < rs.length) => turnL_next (stepF zs L) rs k hk)
  have HPG := Lib.hid (fun k (hk : k < rs.length) => show (turnL (stepF zs L) rs k).getD k zR = rs.getD k zR by rw [turnL_get _ _ _ _ hk, if_neg (by omega)])
  have HPL := Lib.hid (turnL_len (stepF zs L) rs)
  have HP0 := Lib.hid (turnL_zero (stepF zs L) rs)
  have HVR := Lib.hid hR
  have hBA := below_al w (.cells #[.string ⟨#[]⟩, .slice none 0 0] 42)
  have HBL := Lib.hid (blankP_alloc w 42)
  have hl1 := alloc_lt2 w (.cells #[.string ⟨#[]⟩, .slice none 0 0] 42)
  have HBA := Lib.hid hBA
  have HOW := Lib.hid (l05Own_any p b off _ c s rs (w.alloc (.cells #[.string ⟨#[]⟩, .slice none 0 0] 42)) rfl n1 n32 (Nat.lt_trans hpl hl1) (Nat.lt_trans hbl hl1) (prof_keep hBA hpl hp) (fun j hj => (below_cell hBA _ _ hbl).trans (hsrc j hj)))
  clear h hz hL hp hsrc hcz hcL hR hLb hBA
  obtain ⟨n, hn⟩ : ∃ n, rs.length = n := ⟨_, rfl⟩
  obtain ⟨nz, hnz⟩ : ∃ nz, zs.length = nz := ⟨_, rfl⟩
  obtain ⟨nL, hnL⟩ : ∃ nL, L.length = nL := ⟨_, rfl⟩
  rw [hn] at HOW HPN HPG HPL HVR n1 n32 ⊢
  rw [hnz] at HZC HZL HSF hzl hLl ⊢
  rw [hnL] at HLC HLB hLl ⊢
  have HN := Lib.hid hn
  clear hn hnz hnL
  go_enter Tryz.func63, Tryz.ntmps63
  go_wp2_with fail
  generalize (w.alloc (.cells #[.string ⟨#[]⟩, .slice none 0 0] 42)) = wA at *
  refine HOW.out.mono ?_
  rintro e w3 ⟨g, cap, rfl, hg, hown, hb⟩
  have HBL3 := Lib.hid (blankP_kept hb hl1 HBL.out)
  have hl3 := Nat.lt_of_lt_of_le hl1 hb.size
  have HB3 := Lib.hid (below_of HBA.out hb HBA.out.size)
  have HGW := Lib.hid (hown.lt g rfl).2
  have HO3 := Lib.hid (show (w3.alloc (.cells #[.string s, .slice (some ⟨g, 0, none⟩) n cap] 42)).ownsRow wA.heap.size 113 3 (.slice (some ⟨g, 0, none⟩) n cap) n (i64s (flat (turnL (stepF zs L) rs 0))) from by
    rw [HP0.out]; exact hown.alloc (.cells #[.string s, .slice (some ⟨g, 0, none⟩) n cap] 42))
  have o0 : (w3.alloc (.cells #[.string s, .slice (some ⟨g, 0, none⟩) n cap] 42)).cell? ⟨w3.heap.size, 0, none⟩ = some (.string s) := by go_simp
  have o1 : (w3.alloc (.cells #[.string s, .slice (some ⟨g, 0, none⟩) n cap] 42)).cell? ⟨w3.heap.size, 1, none⟩ = some (.slice (some ⟨g, 0, none⟩) n cap) := by go_simp
  have HBL4 := Lib.hid (blankP_kept (below_al w3 (.cells #[.string s, .slice (some ⟨g, 0, none⟩) n cap] 42)) hl3 HBL3.out)
  have HB4 := Lib.hid (HB3.out.alloc HB3.out.size (.cells #[.string s, .slice (some ⟨g, 0, none⟩) n cap] 42))
  have hl4 := alloc_lt2 w3 (.cells #[.string s, .slice (some ⟨g, 0, none⟩) n cap] 42)
  have hg2 : w.heap.size < g := by omega
  clear hown hb
  go_wp2
  generalize (w3.alloc (.cells #[.string s, .slice (some ⟨g, 0, none⟩) n cap] 42)) = w4 at *
  have hge : g < w3.heap.size := HGW.out
  have HGN := Lib.hid (show some w.heap.size ≠ some g from fun e => by have := Option.some.inj e; omega)
  go_loopw [8] (fun i wr => ∃ k : Nat, k ≤ n ∧ i = .int .i64 k ∧ (wr.cell? ⟨w3.heap.size, 0, none⟩ = some (.string s) ∧ wr.cell? ⟨w3.heap.size, 1, none⟩ = some (.slice (some ⟨g, 0, none⟩) n cap)) ∧ Hid (wr.ownsRow wA.heap.size 113 3 (.slice (some ⟨g, 0, none⟩) n cap) n (i64s (flat (turnL (stepF zs L) rs k)))) ∧ Hid (BlankP wr w.heap.size) ∧ Hid (Below w.heap.size w wr) ∧ w3.heap.size < wr.heap.size) (fun i _ => n - (intOf i).toNat)
  case atStart => exact ⟨0, by omega, rfl, ⟨o0, o1⟩, HO3, HBL4, HB4, hl4⟩
  case round =>
    obtain ⟨k, hk, rfl, ⟨c0, c1⟩, HO, HBK, HBW, hsz⟩ := hrel
    clear o0 o1
    by_cases hlt : k < n
    · have hrb := (ring_iff.1 (HVR.out k hlt)).2.1
      have hro := (ring_iff.1 (HVR.out k hlt)).1
      have hri := own_in (by rw [HPL.out]) HO.out k hlt
      obtain ⟨q, hq⟩ : ∃ q, zoneN zs (k : Int) nz = q := ⟨_, rfl⟩
      have hql : q < nz := by rw [← hq]; exact HZL.out (k : Int)
      have hqL : q < nL := by omega
      have hLc := HLC.out wr HBW.out q hqL
      have hLbd := HLB.out q hqL
      have HSK := Lib.hid (show stepF zs L k = L.getD q 0 by rw [HSF.out, hq])
      have HCZ := Lib.hid ((HZC.out (k : Int) wr.drew (HBW.out.trans ⟨rfl, rfl, rfl, Nat.le_refl _, fun _ _ => rfl⟩)).mono fun e w' h => show e = .returned (.int .i64 (q : Int)) ∧ w' = wr.drew from ⟨by rw [h.1, hq], h.2.symm⟩)
      have HNX := Lib.hid (HPN.out k hlt)
      rw [HPG.out k hlt] at hri
      have e1 := hri.c1
      have ff := HO.out.frozenAt (k * 3 + 1)
      have HST := Lib.hid (storeY HO.out k ((rs.getD k zR).2.1 + 10 * L.getD q 0) (by rw [HPL.out]; exact hlt))
      rw [HPG.out k hlt] at HST
      have HTR := Lib.hid (show turnR (stepF zs L k) (rs.getD k zR) = ((rs.getD k zR).1, (rs.getD k zR).2.1 + 10 * L.getD q 0, (rs.getD k zR).2.2) by unfold turnR; rw [HSK.out])
      rw [HTR.out] at HNX
      clear hri hq
      obtain ⟨y, hy⟩ : ∃ y, (rs.getD k zR).2.1 = y := ⟨_, rfl⟩
      obtain ⟨t, ht⟩ : ∃ t, L.getD q 0 = t := ⟨_, rfl⟩
      rw [hy] at e1 hrb HST HNX
      rw [ht] at hLc hLbd HST HNX
      clear hy ht
      have hw1 : IntKind.i64.wrap (10 * t) = 10 * t := IntWalk.i64_in _ (by omega)
      have hw2 : IntKind.i64.wrap (y + 10 * t) = y + 10 * t := IntWalk.i64_in _ (by omega)
      have hkn : (k : Int) < (n : Int) := by omega
      have hk0 : (0 : Int) ≤ (k : Int) := by omega
      have hqn : (q : Int) < (nL : Int) := by omega
      have hq0 : (0 : Int) ≤ (q : Int) := by omega
      clear hrb hro hLbd
      go_wp2
      refine wp_region_still_tail 16 (by kernel_rfl) (by kernel_rfl) ?_
      simp only [List.take_succ_cons, List.take_zero, List.drop_succ_cons, List.drop_zero]
      repeat still_step
      still_call HCZ.out
      repeat still_step
      refine wpStill_nil ?_
      change wpList _ _ _ _ _ wr.drew
      go_wp2
      go_roundw
      case rel => exact ⟨k + 1, by omega, by go_num, ⟨(World.cell?_setCell_far _ _ _ _ (by simp only; omega)).trans c0, (World.cell?_setCell_far _ _ _ _ (by simp only; omega)).trans c1⟩, Lib.hid (by rw [← HNX.out]; exact World.ownsRow.drew HST.out), Lib.hid (blankP_gbT (gb_drewT (gb_set _ _ (gb_refl wr (some g)))) (Nat.lt_trans hl3 hsz) HGN.out HBK.out), Lib.hid ((HBW.out.setCell (p := ⟨g, k * 3 + 1, none⟩) (by show _ ≤ g; omega) _).trans ⟨rfl, rfl, rfl, Nat.le_refl _, fun _ _ => rfl⟩), by simpa using hsz⟩
      case measure => simp [intOf]; omega
    · obtain rfl : k = n := by omega
      have HRV := Lib.hid (show Rv wr w.heap.size (.slice (some ⟨g, 0, none⟩) k cap) (turnL (stepF zs L) rs k) from .inr ⟨g, cap, by rw [HPL.out], by omega, by rw [HPL.out]; exact row_baseR HO.out (by omega)⟩)
      obtain ⟨⟨b0, b1⟩, f0, f1⟩ := HBK.out
      have hne1 : w.heap.size ≠ w3.heap.size := by omega
      have hne2 : w3.heap.size ≠ w.heap.size := by omega
      go_wp2
      try simp only [Exit.inBlock, Exit.then]
      refine bodyPost_ret_by (v := .agg #[.string s, .slice (some ⟨g, 0, none⟩) k cap]) (by rw [results_cellR rfl]; go_simp) rfl ?_
      refine ⟨⟨_, rfl, ?_⟩, (HBW.out.setCell (by show _ ≤ w.heap.size; omega) _).setCell (by show _ ≤ w.heap.size; omega) _⟩
      exact rv_grown (gb_set _ _ (gb_set _ _ (gb_refl wr (some w.heap.size)))) HRV.out (.inr (by simp [Value.ownBlock]; omega))
end Go.Proofs.YtpjopfhkgegahaaGreat


set_option linter.unusedVariables false
namespace Go.Proofs.YtpjopfhkgegahaaGreat
open Go.ChangeShapes Go.WideShapes Go.ChangeAt Go.RowKit

def lathB (s : ByteArray) (rs : List Rg) (zs : List Int) : Bool := profB s rs && fitB rs.length zs
theorem lath_iff {s : ByteArray} {rs : List Rg} {zs : List Int} : lathB s rs zs = true ↔ profB s rs = true ∧ fitB rs.length zs = true := by unfold lathB; rw [Bool.and_eq_true]
theorem lath_zw {s : ByteArray} {rs : List Rg} {zs : List Int} : (lathB s rs zs = true ∧ zwC s rs zs = 0) ∨ (lathB s rs zs = false ∧ (zwC s rs zs = 1 ∨ zwC s rs zs = 2)) := by
  unfold lathB zwC
  rcases Bool.eq_false_or_eq_true (profB s rs) with h | h <;> rcases Bool.eq_false_or_eq_true (fitB rs.length zs) with h2 | h2 <;> simp [h, h2]
theorem zb_yes {s : ByteArray} {v vz : Value} {rs : List Rg} {zs : List Int} (h : lathB s rs zs = true) : zbV s v vz rs zs = .agg #[.string s, v, vz] := zb_0 (lath_iff.1 h).1 (lath_iff.1 h).2
theorem zb_not {s : ByteArray} {v vz : Value} {rs : List Rg} {zs : List Int} (h : lathB s rs zs = false) : zbV s v vz rs zs = .agg #[.string ⟨#[]⟩, .slice none 0 0, .slice none 0 0] := zb_1 (fun h2 => by rw [lath_iff.2 h2] at h; cases h)
theorem ret_zt {v : Value} {a b : Bool} (h : a = b) : Ending.returned (.tuple #[v, .bool a]) = .returned (.tuple #[v, .bool b]) := by rw [h]
theorem blank3 (w : World) (T : TypeId) : ((w.alloc (.cells #[.string ⟨#[]⟩, .slice none 0 0, .slice none 0 0] T)).frozen? ⟨w.heap.size, 0, none⟩ = false ∧ (w.alloc (.cells #[.string ⟨#[]⟩, .slice none 0 0, .slice none 0 0] T)).frozen? ⟨w.heap.size, 1, none⟩ = false ∧ (w.alloc (.cells #[.string ⟨#[]⟩, .slice none 0 0, .slice none 0 0] T)).frozen? ⟨w.heap.size, 2, none⟩ = false) ∧ (w.alloc (.cells #[.string ⟨#[]⟩, .slice none 0 0, .slice none 0 0] T)).cell? ⟨w.heap.size, 0, none⟩ = some (.string ⟨#[]⟩) ∧ (w.alloc (.cells #[.string ⟨#[]⟩, .slice none 0 0, .slice none 0 0] T)).cell? ⟨w.heap.size, 1, none⟩ = some (.slice none 0 0) ∧ (w.alloc (.cells #[.string ⟨#[]⟩, .slice none 0 0, .slice none 0 0] T)).cell? ⟨w.heap.size, 2, none⟩ = some (.slice none 0 0) := ⟨⟨by go_simp, by go_simp, by go_simp⟩, by go_simp, by go_simp, by go_simp⟩
set_option maxRecDepth 20000 in
set_option maxHeartbeats 4000000 in
theorem onLathe_any (s : ByteArray) (v vz : Value) (rs : List Rg) (zs : List Int) (w : World) (h : RingsAt w v rs) (hs : s.size ≤ maxLen) (hz : IntsAt w vz zs) :
    Calls Tryz.prog 89 #[.agg #[.string s, v], vz] w fun e w' => e = .returned (.tuple #[zbV s v vz rs zs, .bool (lathB s rs zs)]) ∧ Below w.heap.size w w' := by
  have hba := (below_al w (.cells #[.string s, v] 42)).alloc (by simp) (.cells #[.string ⟨#[]⟩, .slice none 0 0, .slice none 0 0] 93)
  have HZB := Lib.hid (zonedBy_any s v vz rs zs _ (rings_kept hba h) hs (ints_kept hba hz))
  obtain ⟨⟨g0, g1, g2⟩, k0, k1, k2⟩ := blank3 (w.alloc (.cells #[.string s, v] 42)) 93
  rw [World.size_alloc] at g0 g1 g2 k0 k1 k2
  have hsz : w.heap.size + 1 < ((w.alloc (.cells #[.string s, v] 42)).alloc (.cells #[.string ⟨#[]⟩, .slice none 0 0, .slice none 0 0] 93)).heap.size := by simp
  obtain ⟨a, c, hvf⟩ := rings_form h
  obtain ⟨az, cz, hzf⟩ := ints_form hz
  have HBA := Lib.hid hba
  clear h hz hba
  obtain ⟨zv, hzv⟩ : ∃ zv, zbV s v vz rs zs = zv := ⟨_, rfl⟩
  obtain ⟨x0, x1, x2, hx⟩ : ∃ x0 x1 x2, zv = .agg #[.string x0, x1, x2] ∧ (∃ a n c, x1 = .slice a n c) ∧ ∃ a n c, x2 = .slice a n c := by
    subst hzv
    unfold zbV
    split
    · exact ⟨_, _, _, rfl, ⟨_, _, _, hvf⟩, _, _, _, hzf⟩
    · exact ⟨_, _, _, rfl, ⟨_, _, _, rfl⟩, _, _, _, rfl⟩
  obtain ⟨rfl, ⟨e1, e2, e3, rfl⟩, e4, e5, e6, rfl⟩ := hx
  have HL := Lib.hid (lath_zw (s := s) (rs := rs) (zs := zs))
  rw [hzv] at HZB ⊢
  clear hzv hvf hzf
  generalize lathB s rs zs = r at *
  generalize zwC s rs zs = q at *
  have hq : (q == 0) = r := by
    rcases HL.out with ⟨h1, h2⟩ | ⟨h1, h2 | h2⟩ <;> rw [h1, h2] <;> rfl
  have HQ := Lib.hid hq
  clear HL hq
  go_enter Tryz.func89, Tryz.ntmps89
  go_wp2_with fail
  generalize ((w.alloc (.cells #[.string s, v] 42)).alloc (.cells #[.string ⟨#[]⟩, .slice none 0 0, .slice none 0 0] 93)) = wA at *
  refine HZB.out.mono ?_
  rintro e w1 ⟨rfl, hb⟩
  have q0 := (below_cell hb _ _ hsz).trans k0
  have q1 := (below_cell hb _ _ hsz).trans k1
  have q2 := (below_cell hb _ _ hsz).trans k2
  have f0 := (below_frozen hb _ _ hsz).trans g0
  have f1 := (below_frozen hb _ _ hsz).trans g1
  have f2 := (below_frozen hb _ _ hsz).trans g2
  have hs1 : w.heap.size + 1 < w1.heap.size := Nat.lt_of_lt_of_le hsz hb.size
  have HB := Lib.hid (below_of HBA.out hb HBA.out.size)
  clear hb g0 g1 g2 k0 k1 k2 hsz
  go_wp2
  try simp only [Exit.inBlock, Exit.then]
  refine bodyPost_ret_by (v := .tuple #[.agg #[.string x0, .slice e1 e2 e3, .slice e4 e5 e6], .bool (q == 0)]) (by rw [results_cell_tmp rfl]; go_simp) rfl ?_
  exact ⟨ret_zt HQ.out, (((HB.out.setCell (p := ⟨w.heap.size + 1, 0, none⟩) (by simp) _).setCell (p := ⟨w.heap.size + 1, 1, none⟩) (by simp) _).setCell (p := ⟨w.heap.size + 1, 2, none⟩) (by simp) _).alloc (by simpa using HB.out.size) _⟩
end Go.Proofs.YtpjopfhkgegahaaGreat


namespace Go.Proofs.YtpjopfhkgegahaaGreat
open Go.ChangeShapes Go.WideShapes Go.ChangeAt Go.RowKit Go.Deep

abbrev Ct := Int × Int
def zC : Ct := (0, 0)
/-- The cells, one element after the other. -/
def flatC : List Ct → List Int
  | [] => []
  | r :: rs => r.1 :: r.2 :: flatC rs
theorem flatC_len (rs : List Ct) : (flatC rs).length = rs.length * 2 := by
  induction rs with
  | nil => rfl
  | cons r rs ih => simp [flatC, ih]; omega
theorem flatC_get (rs : List Ct) (j : Nat) (h : j < rs.length) : (flatC rs)[j * 2]? = some (rs.getD j zC).1 ∧ (flatC rs)[j * 2 + 1]? = some (rs.getD j zC).2 := by
  induction rs generalizing j with
  | nil => simp at h
  | cons r rs ih =>
    match j with
    | 0 => simp [flatC]
    | j + 1 =>
      have := ih j (by simpa using h)
      have e : (j + 1) * 2 = j * 2 + 2 := by omega
      rw [e]
      simpa [flatC] using this
/-- Block b holds the element r from o on. -/
structure CIn (w : World) (b o : Nat) (r : Ct) : Prop where
  c0 : w.cell? ⟨b, o, none⟩ = some (.int .i64 r.1)
  c1 : w.cell? ⟨b, o + 1, none⟩ = some (.int .i64 r.2)
/-- The slice v reads as rs. -/
def CutsAt (w : World) (v : Value) (rs : List Ct) : Prop :=
  rs.length ≤ 1048576 ∧ ((∃ a c, v = .slice a 0 c ∧ rs = []) ∨ ∃ b off cap, v = .slice (some ⟨b, off, none⟩) rs.length cap ∧ b < w.heap.size ∧ ∀ j, j < rs.length * 2 → w.cell? ⟨b, off + j, none⟩ = some (.int .i64 ((flatC rs).getD j 0)))
/-- .. in a block of its own, from B on, that may be written. -/
def OwnCuts (w : World) (B : Nat) (v : Value) (rs : List Ct) : Prop := ∃ g cap, v = .slice (some ⟨g, 0, none⟩) rs.length cap ∧ B ≤ g ∧ g < w.heap.size ∧ w.ownsRow B 69 2 v rs.length (i64s (flatC rs))
theorem cuts_kept {w w' : World} {v : Value} {rs : List Ct} (hb : Below w.heap.size w w') (h : CutsAt w v rs) : CutsAt w' v rs := by
  obtain ⟨hl, h | ⟨b, off, cap, rfl, hlt, hc⟩⟩ := h
  · exact ⟨hl, .inl h⟩
  · exact ⟨hl, .inr ⟨b, off, cap, rfl, by have := hb.size; omega, fun j hj => by rw [hb.cell (p := ⟨b, off + j, none⟩) hlt]; exact hc j hj⟩⟩
theorem own_cuts {w : World} {B : Nat} {v : Value} {rs : List Ct} (hl : rs.length ≤ 1048576) (h : OwnCuts w B v rs) : CutsAt w v rs := by
  obtain ⟨g, cap, rfl, _, hg, hown⟩ := h
  refine ⟨hl, .inr ⟨g, 0, cap, rfl, hg, fun j hj => ?_⟩⟩
  rw [Nat.zero_add, hown.cellAt j (by omega)]
  exact i64s_get _ j (by rw [flatC_len]; omega)
theorem cuts_form {w : World} {v : Value} {zs : List Ct} (h : CutsAt w v zs) : ∃ a c, v = .slice a zs.length c := by
  obtain ⟨_, ⟨a, c, rfl, rfl⟩ | ⟨b, off, cap, rfl, _⟩⟩ := h
  · exact ⟨_, _, rfl⟩
  · exact ⟨_, _, rfl⟩
theorem cuts_in {w : World} {b off : Nat} {rs : List Ct} (hc : ∀ j, j < rs.length * 2 → w.cell? ⟨b, off + j, none⟩ = some (.int .i64 ((flatC rs).getD j 0))) (i : Nat) (hi : i < rs.length) : CIn w b (off + i * 2) (rs.getD i zC) := by
  obtain ⟨g0, g1⟩ := flatC_get rs i hi
  exact ⟨by rw [show off + i * 2 = off + (i * 2) from by omega, hc _ (by omega), List.getD_eq_getElem?_getD, g0, Option.getD_some], by rw [show off + i * 2 + 1 = off + (i * 2 + 1) from by omega, hc _ (by omega), List.getD_eq_getElem?_getD, g1, Option.getD_some]⟩
theorem cuts_cells {w : World} {v : Value} {rs : List Ct} (h : CutsAt w v rs) (h0 : 0 < rs.length) : ∃ b off cap, v = .slice (some ⟨b, off, none⟩) rs.length cap ∧ b < w.heap.size ∧ ∀ i, i < rs.length → CIn w b (off + i * 2) (rs.getD i zC) := by
  obtain ⟨_, ⟨a, c, _, rfl⟩ | ⟨b, off, cap, rfl, hb, hc⟩⟩ := h
  · simp at h0
  · exact ⟨b, off, cap, rfl, hb, cuts_in hc⟩
theorem cuts_keep {w w' : World} {b o : Nat} {r : Ct} (hb : Below w.heap.size w w') (hl : b < w.heap.size) (h : CIn w b o r) : CIn w' b o r := ⟨(below_cell hb _ _ hl).trans h.c0, (below_cell hb _ _ hl).trans h.c1⟩
theorem infoC : (Tryz.prog.info? 69).map (fun i => (i.zero, i.size, i.bytes)) = some (some (.agg #[.int .i64 0, .int .i64 0]), 2, 16) := by kernel_rfl
theorem flatC_append (a b : List Ct) : flatC (a ++ b) = flatC a ++ flatC b := by
  induction a with
  | nil => rfl
  | cons r a ih => simp [flatC, ih]
theorem flatC_set (rs : List Ct) (j : Nat) (r : Ct) : ((flatC rs).set (j * 2) r.1).set (j * 2 + 1) r.2 = flatC (rs.set j r) := by
  induction rs generalizing j with
  | nil => rfl
  | cons q rs ih =>
    match j with
    | 0 => simp [flatC]
    | j + 1 =>
      have e : (j + 1) * 2 = j * 2 + 2 := by omega
      have := ih j
      rw [e]
      simpa [flatC] using this
theorem i64s_setC (zs : List Int) (j : Nat) (z : Int) : (i64s zs).set j (.int .i64 z) = i64s (zs.set j z) := by simp [i64s, List.map_set]
def copiedC (rs : List Ct) (k : Nat) : List Ct := rs.take k ++ List.replicate (rs.length - k) zC
theorem copiedC_len (rs : List Ct) (k : Nat) (h : k ≤ rs.length) : (copiedC rs k).length = rs.length := by simp [copiedC]; omega
theorem copiedC_next (rs : List Ct) (k : Nat) (h : k < rs.length) : (copiedC rs k).set k (rs.getD k zC) = copiedC rs (k + 1) := by
  unfold copiedC
  rw [show rs.length - k = rs.length - (k + 1) + 1 from by omega, List.replicate_succ, List.set_append_right _ _ (by simp; omega), List.length_take,
    Nat.min_eq_left (by omega), Nat.sub_self, List.set_cons_zero, List.take_succ_eq_append_getElem h]
  simp only [List.append_assoc, List.singleton_append, List.getD_eq_getElem?_getD, List.getElem?_eq_getElem h, Option.getD_some]
theorem copiedC_all (rs : List Ct) : copiedC rs rs.length = rs := by simp [copiedC]
theorem flatC_zeros (n : Nat) : flatC (List.replicate n zC) = List.replicate (n * 2) 0 := by
  induction n with
  | zero => rfl
  | succ n ih => rw [List.replicate_succ, flatC, ih, show (n + 1) * 2 = n * 2 + 1 + 1 from by omega, List.replicate_succ, List.replicate_succ]; rfl
theorem made_cuts (n : Nat) : (madeCells (Value.agg #[.int .i64 0, .int .i64 0]).cells (n * 2)).toList = i64s (flatC (List.replicate n zC)) := by
  rw [flatC_zeros]
  unfold madeCells i64s
  rw [List.map_replicate]
  apply List.ext_getElem?
  intro j
  have h3 : j % 2 = 0 ∨ j % 2 = 1 := by omega
  by_cases h : j < n * 2
  · rcases h3 with h3 | h3 <;> simp [h, Value.cells, h3]
  · simp [h]
theorem results_cellC {P : Program} {fn : Func} {p : Tmp} {ty : TypeId} (h : fn.results = #[.cell p ty]) (tmps : Array Value) (w : World) :
    (results fn tmps).run P w = ((asAddr (tmps.getD p undef)).run P w).andThen fun a w1 => (loadVar ty a).run P w1 := by
  simp only [results, h]
  simp [Sem.run_bind, Result.andThen]
set_option maxHeartbeats 1000000 in
theorem toCut_any (x y : Int) (w : World) : Calls Tryz.prog 29 #[.agg #[.int .i64 x, .int .i64 y]] w fun e w' => e = .returned (.agg #[.int .i64 x, .int .i64 y]) ∧ Below w.heap.size w w' := by
  go_enter Tryz.func29, Tryz.ntmps29
  go_wp2
  try simp only [Exit.inBlock, Exit.then]
  refine bodyPost_ret_by (v := .agg #[.int .i64 x, .int .i64 y]) (by rw [results_cellC rfl]; go_simp) rfl ?_
  exact ⟨rfl, (((Below.refl _ _).alloc (Nat.le_refl _) _).alloc (by simp) _).alloc (by simp <;> omega) _⟩
set_option maxHeartbeats 1000000 in
theorem eqCut_any (x y : Int) (w : World) : Calls Tryz.prog 36 #[.agg #[.int .i64 x, .int .i64 y], .agg #[.int .i64 x, .int .i64 y]] w fun e w' => e = .returned (.bool true) ∧ Below w.heap.size w w' := by
  have hx : (x != x) = false := by simp
  have hy : (y != y) = false := by simp
  go_enter Tryz.func36, Tryz.ntmps36
  go_wp2
  go_ret
  exact ⟨rfl, ((Below.refl _ _).alloc (Nat.le_refl _) _).alloc (by simp) _⟩
theorem row_keepC {w w' : World} {B sz : Nat} {e : TypeId} {v : Value} {n : Nat} {xs : List Value} (hb : Below w.heap.size w w') (h : w.ownsRow B e sz v n xs) : w'.ownsRow B e sz v n xs :=
  h.kept (row := none) ⟨hb.os, hb.tape, hb.output, hb.size, fun k hk _ => hb.block k hk⟩ (by cases hv : v.ownBlock <;> simp)
theorem storeC {w : World} {B g n cap : Nat} {rs : List Ct} (h : w.ownsRow B 69 2 (.slice (some ⟨g, 0, none⟩) n cap) n (i64s (flatC rs))) (j : Nat) (r : Ct) :
    ((w.setCell ⟨g, j * 2, none⟩ (.int .i64 r.1)).setCell ⟨g, j * 2 + 1, none⟩ (.int .i64 r.2)).ownsRow B 69 2 (.slice (some ⟨g, 0, none⟩) n cap) n (i64s (flatC (rs.set j r))) := by
  have h1 := (h.stored (j * 2) (.int .i64 r.1)).1
  have h2 := (h1.stored (j * 2 + 1) (.int .i64 r.2)).1
  rw [i64s_setC, i64s_setC, flatC_set] at h2
  exact h2
theorem own_inC {w : World} {B g n cap : Nat} {T : TypeId} {rs : List Ct} (hn : rs.length = n) (h : w.ownsRow B T 2 (.slice (some ⟨g, 0, none⟩) n cap) n (i64s (flatC rs))) (i : Nat) (hi : i < n) : CIn w g (i * 2) (rs.getD i zC) := by
  have hr := cuts_in (w := w) (b := g) (off := 0) (rs := rs) (fun j hj => by
    rw [Nat.zero_add, h.cellAt j (by omega)]
    exact i64s_get _ j (by rw [flatC_len]; omega)) i (by omega)
  rw [Nat.zero_add] at hr
  exact hr
theorem gb_reflC (w : World) (row : Option Nat) : w.grownBy w row := ⟨rfl, rfl, rfl, Nat.le_refl _, fun _ _ _ => rfl⟩
theorem gb_setC {w wr : World} {g : Nat} (k : Nat) (u : Value) (h : w.grownBy wr (some g)) : w.grownBy (wr.setCell ⟨g, k, none⟩ u) (some g) :=
  ⟨h.os, h.tape, h.output, by simpa using h.size, fun b hb hne => (Below.heap_setCell _ _ _ _ (by intro e; exact hne (by simp only at e; rw [e]))).trans (h.block b hb hne)⟩
set_option maxHeartbeats 2000000 in
set_option maxRecDepth 100000 in
theorem toCuts_some (rs : List Ct) (b off cap : Nat) (w : World) (hl : rs.length ≤ 1048576) (hlt : b < w.heap.size) (hc : ∀ i, i < rs.length → CIn w b (off + i * 2) (rs.getD i zC)) (n : Nat) (hn : Hid (rs.length = n)) :
    Calls Tryz.prog 12 #[.slice (some ⟨b, off, none⟩) n cap] w fun e w' => ∃ g, e = .returned (.slice (some ⟨g, 0, none⟩) n n) ∧ w.heap.size ≤ g ∧ g < w'.heap.size ∧ w'.ownsRow w.heap.size 69 2 (.slice (some ⟨g, 0, none⟩) n n) n (i64s (flatC rs)) ∧ Below w.heap.size w w' := by
  obtain ⟨i0, hi, hz0, hz1, hz2⟩ := info_parts infoC
  have hn1 : n ≤ 1048576 := by rw [← hn.out]; exact hl
  have HC := Lib.hid hc
  clear hc hl
  go_enter Tryz.func12, Tryz.ntmps12
  go_wp2_with (at_make; refine wpList_make_full _ rfl _ _ 48 rfl w.heap.size 69 i0 (.agg #[.int .i64 0, .int .i64 0]) 2 Tryz.underlying48 hi hz0 hz1 .i64 .i64 _ _ n rfl rfl rfl rfl (by rw [hz2]; omega) (by unfold maxLen; omega) (Nat.le_refl _) ?_; intro w0 hown hgrow)
  have HB0 := Lib.hid ((Below.refl w.heap.size w).grown hgrow (Nat.le_refl _) (fun k hk => by cases hk))
  rw [made_cuts] at hown
  have HO0 := Lib.hid (show w0.ownsRow w.heap.size 69 2 (.slice (some ⟨w.heap.size, 0, none⟩) n n) n (i64s (flatC (copiedC rs 0))) by
    unfold copiedC; rw [hn.out, Nat.sub_zero, List.take_zero, List.nil_append]; exact hown)
  clear hgrow hown
  go_wp2
  go_loopw [4] (fun i wr => ∃ k : Nat, k ≤ n ∧ i = .int .i64 k ∧ wr.ownsRow w.heap.size 69 2 (.slice (some ⟨w.heap.size, 0, none⟩) n n) n (i64s (flatC (copiedC rs k))) ∧ Below w.heap.size w wr) (fun i _ => n - (intOf i).toNat)
  case atStart => exact ⟨0, by omega, rfl, HO0.out, HB0.out⟩
  case round =>
    obtain ⟨k, hk, rfl, hown, hbw⟩ := hrel
    by_cases hlt2 : k < n
    · obtain ⟨c0, c1⟩ := HC.out k (by rw [hn.out]; exact hlt2)
      obtain ⟨⟨x, y⟩, hxyz⟩ : ∃ r, rs.getD k zC = r := ⟨_, rfl⟩
      rw [hxyz] at c0 c1
      have hc0 : wr.cell? ⟨b, off + k * 2, none⟩ = some (.int .i64 x) := by rw [hbw.cell (p := ⟨b, off + k * 2, none⟩) hlt]; exact c0
      have hc1 : wr.cell? ⟨b, off + k * 2 + 1, none⟩ = some (.int .i64 y) := by rw [hbw.cell (p := ⟨b, off + k * 2 + 1, none⟩) hlt]; exact c1
      have HN := Lib.hid (show (copiedC rs k).set k (x, y) = copiedC rs (k + 1) by rw [← hxyz]; exact copiedC_next rs k (by rw [hn.out]; exact hlt2))
      have HL := Lib.hid (show (copiedC rs k).length = n by rw [copiedC_len _ _ (by rw [hn.out]; omega), hn.out])
      have HO := Lib.hid hown
      have HB := Lib.hid hbw
      clear hown hbw c0 c1 hxyz
      generalize copiedC rs k = cs at *
      have hkn : (k : Int) < (n : Int) := by omega
      have hk0 : (0 : Int) ≤ (k : Int) := by omega
      go_wp2_with fail
      refine (toCut_any x y _).mono ?_
      rintro e w2 ⟨rfl, hb2⟩
      have HO2 := Lib.hid (row_keepC hb2 HO.out)
      have HB2 := Lib.hid (below_of HB.out hb2 HB.out.size)
      obtain ⟨d0, d1⟩ := own_inC HL.out HO2.out k hlt2
      generalize cs.getD k zC = old at *
      have f0 := HO2.out.frozenAt (k * 2)
      have f1 := HO2.out.frozenAt (k * 2 + 1)
      have HS := Lib.hid (storeC HO2.out k (x, y))
      clear hb2
      go_wp2
      go_roundw
      case rel => exact ⟨k + 1, by omega, by go_num, by rw [← HN.out]; exact HS.out, (HB2.out.setCell (Nat.le_refl _) _).setCell (Nat.le_refl _) _⟩
      case measure => simp [intOf]; omega
    · obtain rfl : k = n := by omega
      have HO := Lib.hid hown
      have HB := Lib.hid hbw
      clear hown hbw
      have hc2 : copiedC rs k = rs := by rw [← hn.out]; exact copiedC_all rs
      rw [hc2] at HO
      clear hc2
      go_wp2
      go_ret
      exact ⟨w.heap.size, rfl, Nat.le_refl _, (HO.out.lt _ rfl).2, HO.out, HB.out⟩
set_option maxRecDepth 100000 in
theorem toCuts_none (a : Option Addr) (c : Nat) (w : World) :
    Calls Tryz.prog 12 #[.slice a 0 c] w fun e w' => ∃ g, e = .returned (.slice (some ⟨g, 0, none⟩) 0 0) ∧ w.heap.size ≤ g ∧ g < w'.heap.size ∧ w'.ownsRow w.heap.size 69 2 (.slice (some ⟨g, 0, none⟩) 0 0) 0 (i64s (flatC [])) ∧ Below w.heap.size w w' := by
  obtain ⟨i0, hi, hz0, hz1, hz2⟩ := info_parts infoC
  go_enter Tryz.func12, Tryz.ntmps12
  go_wp2_with (at_make; refine wpList_make_full _ rfl _ _ 48 rfl w.heap.size 69 i0 (.agg #[.int .i64 0, .int .i64 0]) 2 Tryz.underlying48 hi hz0 hz1 .i64 .i64 _ _ 0 rfl rfl rfl rfl (by omega) (by unfold maxLen; omega) (Nat.le_refl _) ?_; intro w0 hown hgrow)
  have HB0 := Lib.hid ((Below.refl w.heap.size w).grown hgrow (Nat.le_refl _) (fun k hk => by cases hk))
  rw [made_cuts] at hown
  have HO0 := Lib.hid hown
  clear hgrow hown
  go_wp2
  refine wp_loop_rounds 1 ?_
  rw [rounds_succ]
  go_wp2
  go_ret
  exact ⟨w.heap.size, rfl, Nat.le_refl _, (HO0.out.lt _ rfl).2, HO0.out, HB0.out⟩
def CopyCuts (w : World) (rs : List Ct) (e : Ending) (w' : World) : Prop := ∃ v, e = .returned v ∧ OwnCuts w' w.heap.size v rs ∧ Below w.heap.size w w'
theorem toCuts_any (rs : List Ct) (v : Value) (w : World) (h : CutsAt w v rs) : Calls Tryz.prog 12 #[v] w (CopyCuts w rs) := by
  obtain ⟨hl, ⟨a, c, rfl, rfl⟩ | ⟨b, off, cap, rfl, hlt, hc⟩⟩ := h
  · refine (toCuts_none a c w).mono ?_
    rintro e w' ⟨g, rfl, h1, h2, h3, h4⟩
    exact ⟨_, rfl, ⟨g, _, rfl, h1, h2, h3⟩, h4⟩
  · refine (toCuts_some rs b off cap w hl hlt (cuts_in hc) _ (Lib.hid rfl)).mono ?_
    rintro e w' ⟨g, rfl, h1, h2, h3, h4⟩
    exact ⟨_, rfl, ⟨g, _, rfl, h1, h2, h3⟩, h4⟩
set_option maxHeartbeats 1000000 in
theorem eqCuts_some (rs : List Ct) (b o c b2 o2 c2 : Nat) (w : World) (n : Nat) (hn1 : n ≤ 1048576) (hb : b < w.heap.size) (hb2 : b2 < w.heap.size)
    (h1 : ∀ i, i < n → CIn w b (o + i * 2) (rs.getD i zC)) (h2 : ∀ i, i < n → CIn w b2 (o2 + i * 2) (rs.getD i zC)) :
    Calls Tryz.prog 16 #[.slice (some ⟨b, o, none⟩) n c, .slice (some ⟨b2, o2, none⟩) n c2] w fun e w' => e = .returned (.bool true) ∧ Below w.heap.size w w' := by
  have H1 := Lib.hid h1
  have H2 := Lib.hid h2
  clear h1 h2
  have hne : ((n : Int) != n) = false := by simp
  go_enter Tryz.func16, Tryz.ntmps16
  go_wp2
  go_loopw [5] (fun i wr => ∃ k : Nat, k ≤ n ∧ i = .int .i64 k ∧ Below w.heap.size w wr) (fun i _ => n - (intOf i).toNat)
  case atStart => exact ⟨0, by omega, rfl, Below.refl _ _⟩
  case round =>
    obtain ⟨k, hk, rfl, hbw⟩ := hrel
    have HB := Lib.hid hbw
    clear hbw
    by_cases hlt : k < n
    · obtain ⟨c0, c1⟩ := H1.out k hlt
      obtain ⟨d0, d1⟩ := H2.out k hlt
      rw [← HB.out.cell (p := ⟨b, _, none⟩) hb] at c0 c1
      rw [← HB.out.cell (p := ⟨b2, _, none⟩) hb2] at d0 d1
      generalize rs.getD k zC = r at *
      obtain ⟨x, y⟩ := r
      have e0 : wr.cell? ⟨b, o + k * 2, none⟩ = some (.int .i64 x) := c0
      have g0 : wr.cell? ⟨b2, o2 + k * 2, none⟩ = some (.int .i64 x) := d0
      have e1 : wr.cell? ⟨b, o + k * 2 + 1, none⟩ = some (.int .i64 y) := c1
      have g1 : wr.cell? ⟨b2, o2 + k * 2 + 1, none⟩ = some (.int .i64 y) := d1
      clear c0 c1 d0 d1
      have hlt1 : (k : Int) < (n : Int) := by omega
      have hk0 : (0 : Int) ≤ (k : Int) := by omega
      go_wp2
      go_region_with (go_at_call 36; refine (eqCut_any x y _).mono ?_; rintro e w2 ⟨rfl, hb5⟩)
      all_goals
        have HB5 := Lib.hid (HB.out.trans ((show Below wr.heap.size wr w2 from ⟨hb5.os, hb5.tape, hb5.output, hb5.size, hb5.block⟩).mono HB.out.size))
        clear hb5
        go_wp2
        go_roundw
        case rel => exact ⟨k + 1, by omega, by go_num, HB5.out⟩
        case measure => simp [intOf]; omega
    · go_wp2
      go_ret
      exact ⟨rfl, HB.out⟩
theorem eqCuts_zero (a a2 : Option Addr) (c c2 : Nat) (w : World) :
    Calls Tryz.prog 16 #[.slice a 0 c, .slice a2 0 c2] w fun e w' => e = .returned (.bool true) ∧ Below w.heap.size w w' := by
  go_enter Tryz.func16, Tryz.ntmps16
  go_wp2
  refine wp_loop_rounds 1 ?_
  rw [rounds_succ]
  go_wp2
  go_ret
  exact ⟨rfl, Below.refl _ _⟩
theorem eqCuts_at (zs : List Ct) (v1 v2 : Value) (w : World) (h1 : CutsAt w v1 zs) (h2 : CutsAt w v2 zs) :
    Calls Tryz.prog 16 #[v1, v2] w fun e w' => e = .returned (.bool true) ∧ Below w.heap.size w w' := by
  obtain ⟨hl, ⟨a, c, rfl, rfl⟩ | ⟨b, off, cap, rfl, hb, hc⟩⟩ := h1
  · obtain ⟨a2, c2, rfl⟩ := cuts_form h2
    exact eqCuts_zero a a2 c c2 w
  · obtain ⟨_, ⟨a, c, rfl, rfl⟩ | ⟨b2, off2, cap2, rfl, hb2, hc2⟩⟩ := h2
    · exact eqCuts_zero _ _ _ _ w
    · exact eqCuts_some zs b off cap b2 off2 cap2 w _ hl hb hb2 (cuts_in hc) (cuts_in hc2)
theorem szCuts_any (a : Option Addr) (n c : Nat) (left : Int) (w : World) (hn : n ≤ 9223372036854775807) (h0 : 0 ≤ left) (h1 : left ≤ 1048576) :
    Calls Tryz.prog 7 #[.slice a n c, .int .i64 left] w fun e w' => e = .returned (.int .i64 (if left - n < 0 then -1 else left - n)) ∧ w = w' := by
  by_cases h : left - n < 0
  · rw [if_pos h]
    go_enter Tryz.func7, Tryz.ntmps7
    go_wp2
    go_ret
    exact ⟨rfl, rfl⟩
  · rw [if_neg h]
    go_enter Tryz.func7, Tryz.ntmps7
    go_wp2
    go_ret
    exact ⟨rfl, rfl⟩
/-- A row from B on, or none. -/
def Cv (w : World) (B : Nat) (v : Value) (zs : List Ct) : Prop :=
  (v = .slice none 0 0 ∧ zs = []) ∨ ∃ g cap, v = .slice (some ⟨g, 0, none⟩) zs.length cap ∧ B ≤ g ∧ w.ownsRow B 69 2 (.slice (some ⟨g, 0, none⟩) zs.length cap) zs.length (i64s (flatC zs))
theorem cv_kept {w w' : World} {B : Nat} {v : Value} {zs : List Ct} (hb : Below w.heap.size w w') (h : Cv w B v zs) : Cv w' B v zs := by
  rcases h with h | ⟨g, cap, h1, h2, h4⟩
  · exact .inl h
  · exact .inr ⟨g, cap, h1, h2, row_keepC hb h4⟩
theorem cv_base {w : World} {B B' : Nat} {v : Value} {zs : List Ct} (h : Cv w B v zs) (hB : B' ≤ B) : Cv w B' v zs := by
  rcases h with h | ⟨g, cap, h1, h2, h4⟩
  · exact .inl h
  · refine .inr ⟨g, cap, h1, by omega, h4.1, ?_⟩
    rcases h4.2 with h | ⟨g', cap', cur, e, hb, rest⟩
    · exact .inl h
    · exact .inr ⟨g', cap', cur, e, by omega, rest⟩
theorem cv_at {w : World} {B : Nat} {v : Value} {zs : List Ct} (hl : zs.length ≤ 1048576) (h : Cv w B v zs) : CutsAt w v zs := by
  rcases h with ⟨rfl, rfl⟩ | ⟨g, cap, rfl, h2, h4⟩
  · exact ⟨by simp, .inl ⟨_, _, rfl, rfl⟩⟩
  · refine ⟨hl, .inr ⟨g, 0, cap, rfl, (h4.lt g rfl).2, fun j hj => ?_⟩⟩
    rw [Nat.zero_add, h4.cellAt j (by omega)]
    exact i64s_get _ j (by rw [flatC_len]; omega)
theorem cv_form {w : World} {B : Nat} {v : Value} {zs : List Ct} (h : Cv w B v zs) : ∃ a c, v = .slice a zs.length c := by
  rcases h with ⟨rfl, rfl⟩ | ⟨g, cap, rfl, _⟩
  · exact ⟨_, _, rfl⟩
  · exact ⟨_, _, rfl⟩
theorem cv_own {w : World} {B : Nat} {v : Value} {zs : List Ct} (h : OwnCuts w B v zs) : Cv w B v zs := by
  obtain ⟨g, cap, rfl, h1, h2, h3⟩ := h
  exact .inr ⟨g, cap, rfl, h1, h3⟩
theorem cv_in {w : World} {B : Nat} {v : Value} {zs : List Ct} (h : Cv w B v zs) : ∀ k, v.ownBlock = some k → B ≤ k ∧ k < w.heap.size := by
  intro k hk
  rcases h with ⟨rfl, _⟩ | ⟨g, cap, rfl, h2, h4⟩
  · simp [Value.ownBlock] at hk
  · simp only [Value.ownBlock, Option.some.injEq] at hk
    subst hk
    exact ⟨h2, (h4.lt g rfl).2⟩
theorem cv_grown {w w' : World} {B : Nat} {v : Value} {zs : List Ct} {row : Option Nat} (hg : w.grownBy w' row) (h : Cv w B v zs) (hne : v.ownBlock = none ∨ v.ownBlock ≠ row) : Cv w' B v zs := by
  rcases h with h | ⟨g, cap, rfl, h2, h4⟩
  · exact .inl h
  · exact .inr ⟨g, cap, rfl, h2, h4.kept hg hne⟩
theorem cv_of_row {w : World} {B : Nat} {v : Value} {zs : List Ct} (h : w.ownsRow B 69 2 v zs.length (i64s (flatC zs))) : Cv w B v zs := by
  rcases h.2 with ⟨e, h0⟩ | ⟨g', cap', cur, e, hb, _⟩
  · exact .inl ⟨e, List.length_eq_zero_iff.1 h0⟩
  · subst e; exact .inr ⟨g', cap', rfl, hb, h⟩
/-- The answer: a row of the call's own and a code. -/
def CU (R : List Ct) (c : Int) (w : World) (e : Ending) (w' : World) : Prop := ∃ v, e = .returned (.tuple #[v, .int .i64 c]) ∧ Cv w' w.heap.size v R ∧ Below w.heap.size w w'
def markC (m : Int) (j : Nat) : Ct := (m + 2 * (j : Int), m + 2 * (j : Int) + 1)
def marksCTo (rs : List Ct) (m : Int) (k : Nat) : List Ct := (List.range k).map (markC m) ++ rs.drop k
def marksC (m : Int) (n : Nat) : List Ct := (List.range n).map (markC m)
theorem marksC_len (m : Int) (n : Nat) : (marksC m n).length = n := by simp [marksC]
theorem marksCTo_len (rs : List Ct) (m : Int) (k : Nat) (h : k ≤ rs.length) : (marksCTo rs m k).length = rs.length := by simp [marksCTo]; omega
theorem marksC_get (m : Int) (n j : Nat) (h : j < n) : (marksC m n).getD j zC = markC m j := by simp [marksC, List.getD, h]
theorem marksC_next (rs : List Ct) (m : Int) (k : Nat) (h : k < rs.length) : (marksCTo rs m k).set k (markC m k) = marksCTo rs m (k + 1) := by
  unfold marksCTo
  rw [List.drop_eq_getElem_cons h, List.range_succ, List.map_append, List.set_append_right _ _ (by simp), List.length_map, List.length_range, Nat.sub_self, List.set_cons_zero, List.append_assoc]
  rfl
set_option maxRecDepth 20000 in
theorem trodKC {H : Type} {enc : TypeId × Value → H} {W : World} {fuel : Nat} {cs : List Value} {x : DataW H × List MemPlace} (h : DataW.trod enc Tryz.prog W 0 (fun _ => true) true fuel 71 cs = some x) (hlen : cs.length = 2) :
    ∃ r : Ct, cs = [.int .i64 r.1, .int .i64 r.2] := by
  obtain ⟨xs, k, _, -, hl, hlen2, hf⟩ := DataW.trod_struct Tryz.underlying71 h
  match xs, hlen2, cs, hlen with
  | [y0, y1], _, [v0, v1], _ =>
    have c1 : Tryz.prog.cellsOf 2 = 1 := by kernel_rfl
    have g0 := hf 0 _ rfl
    have g1 := hf 1 _ rfl
    simp [c1] at g0 g1
    obtain ⟨x, hx, -, -⟩ := DataW.trod_int Tryz.underlying2 g0
    obtain ⟨y, hy, -, -⟩ := DataW.trod_int Tryz.underlying2 g1
    simp only [List.cons.injEq, and_true] at hx hy
    subst hx hy
    exact ⟨(x, y), rfl⟩
set_option maxRecDepth 20000 in
theorem cuts_arg {H : Type} {enc : TypeId × Value → H} {W : World} {fuel : Nat} {a : Option Addr} {len cap : Nat} {d : DataW H} {p : List MemPlace} (hf : DataW.trod enc Tryz.prog W 0 (fun _ => true) true fuel 33 (Value.slice a len cap).cells.toList = some (d, p))
    (hlt : ∀ x ∈ p, x.block < W.heap.size) : len ≤ 9223372036854775807 ∧ (len ≤ 1048576 → ∃ rs : List Ct, rs.length = len ∧ CutsAt W (.slice a len cap) rs) := by
  have ce : Tryz.prog.cellsOf 71 = 2 := by kernel_rfl
  rcases open_slice Tryz.underlying33 hf with ⟨hcs, hx⟩ | ⟨a', len', cap', m, n, D, Pl, hcs, hb, hl, hm, hmm, hx, hel⟩
  · simp [Value.cells] at hcs
    obtain ⟨rfl, rfl, rfl⟩ := hcs
    exact ⟨by omega, fun _ => ⟨[], rfl, by simp, .inl ⟨_, _, rfl, rfl⟩⟩⟩
  · simp [Value.cells] at hcs
    obtain ⟨rfl, rfl, rfl⟩ := hcs
    simp only [Prod.mk.injEq] at hx
    obtain ⟨rfl, rfl⟩ := hx
    simp only [if_true] at hmm
    subst hmm
    rw [ce] at hel hlt
    unfold maxLen at hm
    have each : ∀ i, i < len → ∃ r : Ct, W.cell? (a'.add (i * 2)) = some (.int .i64 r.1) ∧ W.cell? (a'.add (i * 2 + 1)) = some (.int .i64 r.2) := by
      intro i hi
      obtain ⟨cs', h1, h2⟩ := hel i (by omega)
      obtain ⟨_, hlen, hcell⟩ := World.cells?_some h1
      obtain ⟨r, rfl⟩ := trodKC h2 hlen
      have e0 := hcell 0 (by omega)
      have e1 := hcell 1 (by omega)
      rw [add_add] at e0 e1
      exact ⟨r, by simpa using e0, by simpa using e1⟩
    refine ⟨by omega, fun hs => ?_⟩
    obtain ⟨R, hR⟩ := choose_lt (α := Ct) each
    have hlR : ((List.range len).map R).length = len := by simp
    refine ⟨(List.range len).map R, hlR, by omega, ?_⟩
    by_cases hl0 : len = 0
    · subst hl0
      exact .inl ⟨_, _, rfl, by simp⟩
    · obtain ⟨b, off, spot⟩ := a'
      have hspot : spot = none := by simpa [Addr.add] using World.cell?_spot (hR 0 (by omega)).1
      subst hspot
      have hbW : b < W.heap.size := hlt (.cell b off) (List.mem_append.2 (.inl (MemPlace.mem_row.2 ⟨0, by omega, by simp⟩)))
      refine .inr ⟨b, off, _, by rw [hlR], hbW, fun j hj => ?_⟩
      rw [hlR] at hj
      obtain ⟨i, f, rfl, hf3⟩ : ∃ i f, j = i * 2 + f ∧ f < 2 := ⟨j / 2, j % 2, by omega, by omega⟩
      have hi : i < len := by omega
      obtain ⟨q0, q1⟩ := flatC_get ((List.range len).map R) i (by rw [hlR]; exact hi)
      have hg : ((List.range len).map R).getD i zC = R i := by simp [List.getD, hi]
      rw [hg] at q0 q1
      obtain ⟨r0, r1⟩ := hR i hi
      rcases (by omega : f = 0 ∨ f = 1) with rfl | rfl
      · rw [List.getD_eq_getElem?_getD, Nat.add_zero, q0, Option.getD_some, ← add_plain]; exact r0
      · rw [List.getD_eq_getElem?_getD, q1, Option.getD_some, ← add_plain]; exact r1
end Go.Proofs.YtpjopfhkgegahaaGreat


set_option linter.unusedVariables false
namespace Go.Proofs.YtpjopfhkgegahaaGreat
open Go.ChangeShapes Go.WideShapes Go.ChangeAt Go.RowKit

def cutB (c : Ct) : Bool := inB c.1 0 7 && inB c.2 1 20
theorem cut_iff {c : Ct} : cutB c = true ↔ (0 ≤ c.1 ∧ c.1 ≤ 7) ∧ 1 ≤ c.2 ∧ c.2 ≤ 20 := by simp [cutB, inB_iff]
def allC (cs : List Ct) : Bool := cs.all cutB
theorem allC_at {cs : List Ct} (h : allC cs = true) (i : Nat) (hi : i < cs.length) : cutB (cs.getD i zC) = true := by
  unfold allC at h
  rw [List.all_eq_true] at h
  rw [List.getD_eq_getElem?_getD, List.getElem?_eq_getElem hi]
  exact h _ (List.getElem_mem hi)
theorem allC_true {cs : List Ct} (h : ∀ i, i < cs.length → cutB (cs.getD i zC) = true) : allC cs = true := by
  unfold allC
  rw [List.all_eq_true]
  intro x hx
  obtain ⟨i, hi, rfl⟩ := List.mem_iff_getElem.1 hx
  have := h i hi
  rwa [List.getD_eq_getElem?_getD, List.getElem?_eq_getElem hi] at this
theorem allC_false {cs : List Ct} {i : Nat} (hi : i < cs.length) (h : cutB (cs.getD i zC) = false) : allC cs = false := by
  rcases Bool.eq_false_or_eq_true (allC cs) with h2 | h2
  · have := allC_at h2 i hi
    rw [h] at this; cases this
  · exact h2
def cutsB (cs : List Ct) : Bool := decide (cs.length ≤ 64) && allC cs
theorem cutsB_iff {cs : List Ct} : cutsB cs = true ↔ cs.length ≤ 64 ∧ allC cs = true := by unfold cutsB; rw [Bool.and_eq_true, decide_eq_true_eq]
theorem cutsB_no {cs : List Ct} (h : allC cs = false) : cutsB cs = false := by unfold cutsB; rw [h]; simp
theorem cutsB_end {cs : List Ct} (h : allC cs = true) : cutsB cs = decide (cs.length ≤ 64) := by unfold cutsB; rw [h]; simp
theorem below_dN {B : Nat} {w : World} (m : Nat) (hB : B ≤ w.heap.size) : Below B w (w.drewN m) := (below_drewN w m).mono hB
def IdxIs (b : Bool) (i : Int) : Prop := (b = true → 0 ≤ i) ∧ (b = false → i = -1)
/-- What IndexFunc answers: a number that is -1 exactly if there is none. -/
def IdxPost (b : Bool) (w : World) (e : Ending) (w' : World) : Prop := ∃ i : Int, e = .returned (.int .i64 i) ∧ IdxIs b i ∧ Below w.heap.size w w'
end Go.Proofs.YtpjopfhkgegahaaGreat


set_option linter.unusedVariables false
namespace Go.Proofs.YtpjopfhkgegahaaGreat
open Go.ChangeShapes Go.WideShapes Go.ChangeAt Go.RowKit

def sumAt (z : Int) : List Ct → Int
  | [] => 0
  | c :: cs => (if c.1 = z then c.2 else 0) + sumAt z cs
theorem sumAt_append (z : Int) (a b : List Ct) : sumAt z (a ++ b) = sumAt z a + sumAt z b := by
  induction a with
  | nil => simp [sumAt]
  | cons c a ih => simp only [List.cons_append, sumAt, ih]; omega
theorem sumAt_next (z : Int) (cs : List Ct) (k : Nat) (h : k < cs.length) : sumAt z (cs.take (k + 1)) = sumAt z (cs.take k) + (if (cs.getD k zC).1 = z then (cs.getD k zC).2 else 0) := by
  rw [List.take_succ_eq_append_getElem h, sumAt_append]
  simp [sumAt, List.getD, h]
theorem sumAt_nonneg (z : Int) {cs : List Ct} (h : allC cs = true) : 0 ≤ sumAt z cs := by
  unfold allC at h
  induction cs with
  | nil => simp [sumAt]
  | cons c cs ih =>
    rw [List.all_cons, Bool.and_eq_true] at h
    have h1 := (cut_iff.1 h.1).2
    have h2 := ih h.2
    simp only [sumAt]
    split <;> omega
theorem allC_take {cs : List Ct} (h : allC cs = true) (k : Nat) : allC (cs.take k) = true := by
  unfold allC at *
  rw [List.all_eq_true] at *
  exact fun x hx => h x (List.mem_of_mem_take hx)
theorem sumAt_take_le (z : Int) {cs : List Ct} (h : allC cs = true) (k : Nat) : sumAt z (cs.take k) ≤ sumAt z cs := by
  have e : sumAt z cs = sumAt z (cs.take k) + sumAt z (cs.drop k) := by rw [← sumAt_append, List.take_append_drop]
  have h2 : allC (cs.drop k) = true := by
    unfold allC at *
    rw [List.all_eq_true] at *
    exact fun x hx => h x (List.mem_of_mem_drop hx)
  have := sumAt_nonneg z h2
  omega
theorem sumAt_bd (z : Int) {cs : List Ct} (h : allC cs = true) (k : Nat) (hk : k ≤ cs.length) : 0 ≤ sumAt z (cs.take k) ∧ sumAt z (cs.take k) ≤ 20 * k := by
  induction k with
  | zero => simp [sumAt]
  | succ k ih =>
    have i1 := ih (by omega)
    have i2 := (cut_iff.1 (allC_at h k (by omega))).2
    rw [sumAt_next z cs k (by omega)]
    split <;> omega
/-- No zone has too many steps. -/
def fitsC (cs : List Ct) : Bool := (List.range 8).all fun z => decide (sumAt (z : Int) cs ≤ 20)
theorem fitsC_iff {cs : List Ct} : fitsC cs = true ↔ ∀ z : Nat, z < 8 → sumAt (z : Int) cs ≤ 20 := by simp [fitsC]
theorem fitsC_no {cs : List Ct} {z : Nat} (hz : z < 8) (h : 20 < sumAt (z : Int) cs) : fitsC cs = false := by
  rcases Bool.eq_false_or_eq_true (fitsC cs) with h2 | h2
  · have := fitsC_iff.1 h2 z hz; omega
  · exact h2
/-- The cuts of zones 0 .. n - 1 with steps f. -/
def listOf (f : Nat → Int) (n : Nat) : List Ct := ((List.range n).filter fun (z : Nat) => decide (0 < f z)).map fun (z : Nat) => (((z : Int), f z) : Ct)
theorem listOf_zero (f : Nat → Int) : listOf f 0 = [] := rfl
theorem listOf_yes {f : Nat → Int} {n : Nat} (h : 0 < f n) : listOf f (n + 1) = listOf f n ++ [((n : Int), f n)] := by
  unfold listOf
  rw [List.range_succ, List.filter_append, List.map_append]
  simp [h]
theorem listOf_no {f : Nat → Int} {n : Nat} (h : ¬ 0 < f n) : listOf f (n + 1) = listOf f n := by
  unfold listOf
  rw [List.range_succ, List.filter_append, List.map_append]
  simp [h]
theorem listOf_len (f : Nat → Int) (n : Nat) : (listOf f n).length ≤ n := by
  unfold listOf
  rw [List.length_map]
  have := List.length_filter_le (fun z => decide (0 < f z)) (List.range n)
  simpa using this
theorem listOf_mem {f : Nat → Int} {n : Nat} {c : Ct} : c ∈ listOf f n ↔ ∃ z : Nat, z < n ∧ 0 < f z ∧ c = ((z : Int), f z) := by
  unfold listOf
  simp only [List.mem_map, List.mem_filter, List.mem_range, decide_eq_true_eq]
  constructor
  · rintro ⟨z, ⟨h1, h2⟩, rfl⟩; exact ⟨z, h1, h2, rfl⟩
  · rintro ⟨z, h1, h2, rfl⟩; exact ⟨z, ⟨h1, h2⟩, rfl⟩
theorem listOf_pw (f : Nat → Int) (n : Nat) : (listOf f n).Pairwise fun a b => a.1 < b.1 := by
  induction n with
  | zero => simp [listOf]
  | succ n ih =>
    by_cases h : 0 < f n
    · rw [listOf_yes h, List.pairwise_append]
      refine ⟨ih, by simp, fun a ha b hb => ?_⟩
      obtain ⟨z, hz, _, rfl⟩ := listOf_mem.1 ha
      simp only [List.mem_singleton] at hb
      subst hb
      show (z : Int) < (n : Int)
      omega
    · rw [listOf_no h]; exact ih
/-- Two lists in order with the same members are one. -/
theorem eq_of_rising : ∀ {a b : List Ct}, a.Pairwise (fun x y => x.1 < y.1) → b.Pairwise (fun x y => x.1 < y.1) → (∀ c, c ∈ a ↔ c ∈ b) → a = b
  | [], [], _, _, _ => rfl
  | [], y :: b, _, _, h => by have := (h y).2 (by simp); simp at this
  | x :: a, [], _, _, h => by have := (h x).1 (by simp); simp at this
  | x :: a, y :: b, ha, hb, h => by
    rw [List.pairwise_cons] at ha hb
    have e : x = y := by
      have h1 := (h x).1 (by simp)
      have h2 := (h y).2 (by simp)
      rcases List.mem_cons.1 h1 with h1 | h1
      · exact h1
      · rcases List.mem_cons.1 h2 with h2 | h2
        · exact h2.symm
        · have := hb.1 x h1
          have := ha.1 y h2
          omega
    subst e
    rw [eq_of_rising ha.2 hb.2 fun c => ?_]
    constructor
    · intro hc
      rcases List.mem_cons.1 ((h c).1 (List.mem_cons_of_mem _ hc)) with e | h2
      · subst e; have := ha.1 c hc; omega
      · exact h2
    · intro hc
      rcases List.mem_cons.1 ((h c).2 (List.mem_cons_of_mem _ hc)) with e | h2
      · subst e; have := hb.1 c hc; omega
      · exact h2
def sortL (cs : List Ct) : List Ct := listOf (fun z => sumAt (z : Int) cs) 8
/-- SortCuts' two answers. -/
def srL (cs : List Ct) : List Ct := if cutsB cs = true ∧ fitsC cs = true then sortL cs else []
def srC (cs : List Ct) : Int := if cutsB cs = true then if fitsC cs = true then 0 else 5 else 1
theorem sr_0 {cs : List Ct} (h : cutsB cs = true) (h2 : fitsC cs = true) : srL cs = sortL cs ∧ srC cs = 0 := by unfold srL srC; rw [if_pos ⟨h, h2⟩, if_pos h, if_pos h2]; exact ⟨rfl, rfl⟩
theorem sr_5 {cs : List Ct} (h : cutsB cs = true) (h2 : fitsC cs = false) : srL cs = [] ∧ srC cs = 5 := by unfold srL srC; rw [if_neg (by rw [h2]; simp), if_pos h, if_neg (by rw [h2]; simp)]; exact ⟨rfl, rfl⟩
theorem sr_1 {cs : List Ct} (h : cutsB cs = false) : srL cs = [] ∧ srC cs = 1 := by unfold srL srC; rw [if_neg (by rw [h]; simp), if_neg (by rw [h]; simp)]; exact ⟨rfl, rfl⟩
theorem sr_len (cs : List Ct) : (srL cs).length ≤ 64 := by
  unfold srL
  split
  · have := listOf_len (fun z => sumAt (z : Int) cs) 8
    unfold sortL; omega
  · simp
end Go.Proofs.YtpjopfhkgegahaaGreat


set_option linter.unusedVariables false
namespace Go.Proofs.YtpjopfhkgegahaaGreat
open Go.ChangeShapes Go.WideShapes Go.ChangeAt Go.RowKit

set_option maxRecDepth 20000 in
set_option maxHeartbeats 2000000 in
theorem l09Cuts_some (cs : List Ct) (b off cap n : Nat) (w : World) (hn : Hid (cs.length = n)) (hn1 : n ≤ 1048576) (hc : ∀ i, i < n → CIn w b (off + i * 2) (cs.getD i zC)) :
    Calls Tryz.prog 46 #[.slice (some ⟨b, off, none⟩) n cap] w fun e w' => e = .returned (.bool (cutsB cs)) ∧ Below w.heap.size w w' := by
  have HC := Lib.hid hc
  clear hc
  go_enter Tryz.func46, Tryz.ntmps46
  go_wp2
  go_loopw [3] (fun i wr => ∃ k m : Nat, k ≤ n ∧ i = .int .i64 k ∧ wr = w.drewN m ∧ Hid (∀ j, j < k → cutB (cs.getD j zC) = true)) (fun i _ => n - (intOf i).toNat)
  case atStart => exact ⟨0, 0, by omega, rfl, rfl, Lib.hid (fun j hj => by omega)⟩
  case round =>
    obtain ⟨k, m, hk, rfl, rfl, HA⟩ := hrel
    by_cases hlt : k < n
    · obtain ⟨⟨x, y⟩, hxy⟩ : ∃ r, cs.getD k zC = r := ⟨_, rfl⟩
      have hr := HC.out k hlt
      rw [hxy] at hr
      have d0 : w.cell? ⟨b, off + k * 2, none⟩ = some (.int .i64 x) := hr.c0
      have d1 : w.cell? ⟨b, off + k * 2 + 1, none⟩ = some (.int .i64 y) := hr.c1
      have hlt1 : (k : Int) < (n : Int) := by omega
      have hk0 : (0 : Int) ≤ (k : Int) := by omega
      clear hr
      rcases Bool.eq_false_or_eq_true (inB x 0 7) with h1 | h1
      · have H1 := Lib.hid h1
        rcases Bool.eq_false_or_eq_true (inB y 1 20) with h2 | h2
        · have H2 := Lib.hid h2
          have HB := Lib.hid (show cutB (cs.getD k zC) = true by rw [hxy]; unfold cutB; rw [h1, h2]; rfl)
          clear h1 h2 hxy
          go_wp2_with fail
          refine (l00In_any x 0 7 _).mono ?_
          rintro e w2 ⟨rfl, rfl⟩
          rw [H1.out]
          go_wp2_with fail
          refine (l00In_any y 1 20 _).mono ?_
          rintro e w2 ⟨rfl, rfl⟩
          rw [H2.out]
          go_wp2
          go_roundw
          case rel => exact ⟨k + 1, _, by omega, by go_num, rfl, Lib.hid (fun j hj => by
            by_cases e : j = k
            · subst e; exact HB.out
            · exact HA.out j (by omega))⟩
          case measure => simp [intOf]; omega
        · have H2 := Lib.hid h2
          have HF := Lib.hid (cutsB_no (allC_false (cs := cs) (i := k) (by rw [hn.out]; exact hlt) (by rw [hxy]; unfold cutB; rw [h1, h2]; rfl)))
          clear h1 h2 hxy
          go_wp2_with fail
          refine (l00In_any x 0 7 _).mono ?_
          rintro e w2 ⟨rfl, rfl⟩
          rw [H1.out]
          go_wp2_with fail
          refine (l00In_any y 1 20 _).mono ?_
          rintro e w2 ⟨rfl, rfl⟩
          rw [H2.out]
          go_wp2
          go_ret
          exact ⟨ret_bool HF.out.symm, below_drewN _ _⟩
      · have HF := Lib.hid (cutsB_no (allC_false (cs := cs) (i := k) (by rw [hn.out]; exact hlt) (by rw [hxy]; unfold cutB; rw [h1]; rfl)))
        have H1 := Lib.hid h1
        clear h1 hxy
        go_wp2_with fail
        refine (l00In_any x 0 7 _).mono ?_
        rintro e w2 ⟨rfl, rfl⟩
        rw [H1.out]
        go_wp2
        go_ret
        exact ⟨ret_bool HF.out.symm, below_drewN _ _⟩
    · obtain rfl : k = n := by omega
      have HF := Lib.hid (show cutsB cs = decide ((k : Int) ≤ 64) by
        rw [cutsB_end (allC_true (fun j hj => HA.out j (by rw [hn.out] at hj; exact hj))), hn.out]
        rw [decide_eq_decide]; omega)
      go_wp2
      go_ret
      exact ⟨ret_bool HF.out.symm, below_drewN _ _⟩
theorem l09Cuts_none (a : Option Addr) (c : Nat) (w : World) :
    Calls Tryz.prog 46 #[.slice a 0 c] w fun e w' => e = .returned (.bool (cutsB [])) ∧ Below w.heap.size w w' := by
  go_enter Tryz.func46, Tryz.ntmps46
  go_wp2
  refine wp_loop_rounds 1 ?_
  rw [rounds_succ]
  go_wp2
  go_ret
  exact ⟨rfl, Below.refl _ _⟩
theorem l09Cuts_any (cs : List Ct) (v : Value) (w : World) (h : CutsAt w v cs) :
    Calls Tryz.prog 46 #[v] w fun e w' => e = .returned (.bool (cutsB cs)) ∧ Below w.heap.size w w' := by
  by_cases h0 : cs.length = 0
  · obtain rfl : cs = [] := List.length_eq_zero_iff.1 h0
    obtain ⟨a, c, rfl⟩ := cuts_form h
    exact l09Cuts_none a c w
  · have hl := h.1
    obtain ⟨b, off, cap, rfl, hb, hc⟩ := cuts_cells h (by omega)
    exact l09Cuts_some cs b off cap _ w (Lib.hid rfl) hl hc
--?-
end Go.Proofs.YtpjopfhkgegahaaGreat


set_option linter.unusedVariables false
namespace Go.Proofs.YtpjopfhkgegahaaGreat
open Go.ChangeShapes Go.WideShapes Go.ChangeAt Go.RowKit

theorem ints_cellsC {w : World} {v : Value} {zs : List Int} (h : IntsAt w v zs) (hp : 0 < zs.length) : ∃ b off cap, v = .slice (some ⟨b, off, none⟩) zs.length cap ∧ b < w.heap.size ∧ ∀ j, j < zs.length → w.cell? ⟨b, off + j, none⟩ = some (.int .i64 (zs.getD j 0)) := by
  obtain ⟨_, ⟨a, c, _, rfl⟩ | h⟩ := h
  · simp at hp
  · exact h
/-- The sums of the zones 0 to 7. -/
def sumsL (cs : List Ct) : List Int := (List.range 8).map fun (z : Nat) => sumAt (z : Int) cs
theorem sumsL_len (cs : List Ct) : (sumsL cs).length = 8 := by simp [sumsL]
theorem sumsL_get (cs : List Ct) (z : Nat) (h : z < 8) : (sumsL cs).getD z 0 = sumAt (z : Int) cs := by simp [sumsL, List.getD, h]
theorem sumsL_nil : sumsL [] = List.replicate 8 0 := rfl
theorem sumsL_next (cs : List Ct) (k : Nat) (h : k < cs.length) (x : Nat) (hx : (cs.getD k zC).1 = (x : Int)) (hx8 : x < 8) :
    (sumsL (cs.take k)).set x (sumAt (x : Int) (cs.take k) + (cs.getD k zC).2) = sumsL (cs.take (k + 1)) := by
  refine List.ext_getElem (by simp [sumsL]) fun j h1 h2 => ?_
  have hj : j < 8 := by simpa [sumsL] using h2
  rw [List.getElem_set]
  by_cases e : x = j
  · subst e
    rw [if_pos rfl]
    simp only [sumsL, List.getElem_map, List.getElem_range]
    rw [sumAt_next _ cs k h, if_pos hx]
  · rw [if_neg e]
    simp only [sumsL, List.getElem_map, List.getElem_range]
    rw [sumAt_next _ cs k h, if_neg (by rw [hx]; omega)]; omega
set_option maxRecDepth 20000 in
set_option maxHeartbeats 4000000 in
theorem l09Sums_some (cs : List Ct) (b off cap n : Nat) (w : World) (hn : Hid (cs.length = n)) (hn1 : n ≤ 64) (hb : b < w.heap.size) (hall : allC cs = true) (hc : ∀ i, i < n → CIn w b (off + i * 2) (cs.getD i zC)) :
    Calls Tryz.prog 24 #[.slice (some ⟨b, off, none⟩) n cap] w (CopyPost w (sumsL cs)) := by
  obtain ⟨i0, hi, hz0, hz1, hz2⟩ := info_parts infoI64
  have HC := Lib.hid (fun W (hW : Below w.heap.size w W) i (hi : i < n) => cuts_keep hW hb (hc i hi))
  have HV := Lib.hid (fun i (hi : i < n) => cut_iff.1 (allC_at hall i (by rw [hn.out]; exact hi)))
  have HBD := Lib.hid (fun z k (hk : k ≤ n) => sumAt_bd z hall k (by rw [hn.out]; exact hk))
  have HTT := Lib.hid (show sumsL (cs.take n) = sumsL cs by rw [← hn.out, List.take_length])
  clear hc hall
  go_enter Tryz.func24, Tryz.ntmps24
  go_wp2_with (at_make; refine wpList_make_full _ rfl _ _ 22 rfl w.heap.size 2 i0 (.int .i64 0) 1 Tryz.underlying22 hi hz0 hz1 .i64 .i64 _ _ 8 rfl rfl rfl rfl (by rw [hz2]; omega) (by unfold maxLen; omega) (Nat.le_refl _) ?_; intro w0 hown hgrow)
  have HB0 := Lib.hid ((Below.refl w.heap.size w).grown hgrow (Nat.le_refl _) (fun k hk => by cases hk))
  rw [made_ints] at hown
  have HO0 := Lib.hid (show w0.ownsRow w.heap.size 2 1 (.slice (some ⟨w.heap.size, 0, none⟩) 8 8) 8 (i64s (sumsL (cs.take 0))) by rw [List.take_zero, sumsL_nil]; exact hown)
  clear hgrow hown
  go_wp2
  go_loopw [4] (fun i wr => ∃ k : Nat, k ≤ n ∧ i = .int .i64 k ∧ wr.ownsRow w.heap.size 2 1 (.slice (some ⟨w.heap.size, 0, none⟩) 8 8) 8 (i64s (sumsL (cs.take k))) ∧ Below w.heap.size w wr) (fun i _ => n - (intOf i).toNat)
  case atStart => exact ⟨0, by omega, rfl, HO0.out, HB0.out⟩
  case round =>
    obtain ⟨k, hk, rfl, hown, hbw⟩ := hrel
    by_cases hlt : k < n
    · obtain ⟨⟨x, y⟩, hxy⟩ : ∃ r, cs.getD k zC = r := ⟨_, rfl⟩
      have hr := HC.out wr hbw k hlt
      have hv := HV.out k hlt
      rw [hxy] at hr hv
      simp only at hv
      obtain ⟨q, hq⟩ : ∃ q : Nat, x = (q : Int) := ⟨x.toNat, by omega⟩
      subst hq
      have d0 : wr.cell? ⟨b, off + k * 2, none⟩ = some (.int .i64 (q : Int)) := hr.c0
      have d1 : wr.cell? ⟨b, off + k * 2 + 1, none⟩ = some (.int .i64 y) := hr.c1
      have hq8 : q < 8 := by omega
      have HN := Lib.hid (sumsL_next cs k (by rw [hn.out]; exact hlt) q (by rw [hxy]) hq8)
      rw [hxy] at HN
      have r2 : wr.cell? ⟨w.heap.size, q, none⟩ = some (.int .i64 (sumAt (q : Int) (cs.take k))) := by
        rw [hown.cellAt q (by omega), i64s_get _ q (by rw [sumsL_len]; exact hq8), sumsL_get _ q hq8]
      have r3 := hown.frozenAt q
      have hbd := HBD.out (q : Int) k (by omega)
      have HO := Lib.hid hown
      have HB := Lib.hid hbw
      clear hr hxy hown hbw
      generalize sumAt (q : Int) (cs.take k) = t at *
      have hw2 : IntKind.i64.wrap (t + y) = t + y := IntWalk.i64_in _ (by omega)
      have hlt1 : (k : Int) < (n : Int) := by omega
      have hk0 : (0 : Int) ≤ (k : Int) := by omega
      have hq0 : (0 : Int) ≤ (q : Int) := by omega
      have hq1 : (q : Int) < 8 := by omega
      clear hbd hv
      go_wp2
      go_region
      go_wp2
      go_roundw
      case rel =>
        refine ⟨k + 1, by omega, by go_num, ?_, (HB.out.setCell (p := ⟨w.heap.size, q, none⟩) (Nat.le_refl _) _).trans ⟨rfl, rfl, rfl, Nat.le_refl _, fun _ _ => rfl⟩⟩
        rw [← HN.out, ← i64s_setC]
        exact World.ownsRow.drew ((HO.out.stored q (.int .i64 (t + y))).1)
      case measure => simp [intOf]; omega
    · obtain rfl : k = n := by omega
      have HO := Lib.hid hown
      have HB := Lib.hid hbw
      clear hown hbw
      rw [HTT.out] at HO
      go_wp2
      go_ret
      exact ⟨.slice (some ⟨w.heap.size, 0, none⟩) 8 8, rfl, ⟨w.heap.size, 8, by rw [sumsL_len], Nat.le_refl _, (HO.out.lt _ rfl).2, by rw [sumsL_len]; exact HO.out⟩, HB.out⟩
set_option maxHeartbeats 1000000 in
theorem l09Sums_none (a : Option Addr) (c : Nat) (w : World) : Calls Tryz.prog 24 #[.slice a 0 c] w (CopyPost w (sumsL [])) := by
  obtain ⟨i0, hi, hz0, hz1, hz2⟩ := info_parts infoI64
  go_enter Tryz.func24, Tryz.ntmps24
  go_wp2_with (at_make; refine wpList_make_full _ rfl _ _ 22 rfl w.heap.size 2 i0 (.int .i64 0) 1 Tryz.underlying22 hi hz0 hz1 .i64 .i64 _ _ 8 rfl rfl rfl rfl (by rw [hz2]; omega) (by unfold maxLen; omega) (Nat.le_refl _) ?_; intro w0 hown hgrow)
  have HB0 := Lib.hid ((Below.refl w.heap.size w).grown hgrow (Nat.le_refl _) (fun k hk => by cases hk))
  rw [made_ints] at hown
  have HO0 := Lib.hid hown
  clear hgrow hown
  go_wp2
  refine wp_loop_rounds 1 ?_
  rw [rounds_succ]
  go_wp2
  go_ret
  exact ⟨.slice (some ⟨w.heap.size, 0, none⟩) 8 8, rfl, ⟨w.heap.size, 8, by rw [sumsL_len], Nat.le_refl _, (HO0.out.lt _ rfl).2, by rw [sumsL_len, sumsL_nil]; exact HO0.out⟩, HB0.out⟩
theorem l09Sums_any (cs : List Ct) (v : Value) (w : World) (h : CutsAt w v cs) (h1 : cutsB cs = true) : Calls Tryz.prog 24 #[v] w (CopyPost w (sumsL cs)) := by
  obtain ⟨h64, hall⟩ := cutsB_iff.1 h1
  by_cases h0 : cs.length = 0
  · obtain rfl : cs = [] := List.length_eq_zero_iff.1 h0
    obtain ⟨a, c, rfl⟩ := cuts_form h
    exact l09Sums_none a c w
  · obtain ⟨b, off, cap, rfl, hb, hc⟩ := cuts_cells h (by omega)
    exact l09Sums_some cs b off cap _ w (Lib.hid rfl) h64 hb hall hc
theorem fits_take (cs : List Ct) (h : ∀ j, j < 8 → (sumsL cs).getD j 0 ≤ 20) : fitsC cs = true := fitsC_iff.2 fun z hz => by have := h z hz; rwa [sumsL_get cs z hz] at this
set_option maxHeartbeats 1000000 in
theorem l09Fits_any (cs : List Ct) (v : Value) (w : World) (h : IntsAt w v (sumsL cs)) :
    Calls Tryz.prog 106 #[v] w fun e w' => e = .returned (.bool (fitsC cs)) ∧ w = w' := by
  obtain ⟨b, off, cap, rfl, hb, hc⟩ := ints_cellsC h (by rw [sumsL_len]; omega)
  have HC := Lib.hid hc
  rw [sumsL_len] at HC ⊢
  clear h hc
  go_enter Tryz.func106, Tryz.ntmps106
  go_wp2
  go_loop [3] (fun i => ∃ k : Nat, k ≤ 8 ∧ i = .int .i64 k ∧ ∀ j, j < k → (sumsL cs).getD j 0 ≤ 20) (fun i => 8 - (intOf i).toNat)
  case atStart => exact ⟨0, by omega, rfl, fun j hj => by omega⟩
  case round =>
    obtain ⟨k, hk, rfl, hall⟩ := hrel
    have HA := Lib.hid hall
    clear hall
    by_cases hlt : k < 8
    · have hcell := HC.out k hlt
      have hlt1 : (k : Int) < 8 := by omega
      have hk0 : (0 : Int) ≤ (k : Int) := by omega
      by_cases hz : (sumsL cs).getD k 0 ≤ 20
      · have HT := Lib.hid (show ∀ j, j < k + 1 → (sumsL cs).getD j 0 ≤ 20 from fun j hj => by
          by_cases e : j = k
          · subst e; exact hz
          · exact HA.out j (by omega))
        generalize (sumsL cs).getD k 0 = t at *
        have hz2 : ¬ 20 < t := by omega
        clear hz
        go_wp2
        go_round
        case rel => exact ⟨k + 1, by omega, by go_num, HT.out⟩
        case measure => simp [intOf]; omega
      · have HF := Lib.hid (fitsC_no (cs := cs) hlt (by rw [sumsL_get cs k hlt] at hz; omega))
        generalize (sumsL cs).getD k 0 = t at *
        have hz2 : 20 < t := by omega
        clear hz
        go_wp2
        go_ret
        exact ⟨ret_bool HF.out.symm, rfl⟩
    · obtain rfl : k = 8 := by omega
      have HF := Lib.hid (fits_take cs HA.out)
      go_wp2
      go_ret
      exact ⟨ret_bool HF.out.symm, rfl⟩
end Go.Proofs.YtpjopfhkgegahaaGreat


set_option linter.unusedVariables false
namespace Go.Proofs.YtpjopfhkgegahaaGreat
open Go.ChangeShapes Go.WideShapes Go.ChangeAt Go.RowKit

set_option maxRecDepth 20000 in
set_option maxHeartbeats 1000000 in
theorem cutValid_any (x y : Int) (w : World) : Calls Tryz.prog 86 #[.agg #[.int .i64 x, .int .i64 y]] w fun e w' => e = .returned (.bool (cutB (x, y))) ∧ Below w.heap.size w w' := by
  rcases Bool.eq_false_or_eq_true (inB x 0 7) with h1 | h1
  · have H1 := Lib.hid (show allIn 0 7 [x] = true by simp [allIn, h1])
    have HR := Lib.hid (show cutB (x, y) = allIn 1 20 [y] by unfold cutB; rw [h1]; simp [allIn])
    clear h1
    go_enter Tryz.func86, Tryz.ntmps86
    go_wp2_with fail
    refine (within_i64 _ _ [x] _ 0 1 1 _ rfl (by omega) (cell_int _ _ _ _ (by simp))).mono ?_
    rintro e w2 ⟨rfl, rfl⟩
    rw [H1.out]
    go_wp2_with fail
    refine (within_i64 _ _ [y] _ 0 1 1 _ rfl (by omega) (cell_int _ _ _ _ (by simp))).mono ?_
    rintro e w2 ⟨rfl, rfl⟩
    generalize allIn 1 20 [y] = r at *
    go_wp2
    go_ret
    exact ⟨ret_bool HR.out.symm, ((below_al _ _).alloc (by simp) _).alloc (by simp <;> omega) _⟩
  · have H1 := Lib.hid (show allIn 0 7 [x] = false by simp [allIn, h1])
    have HR := Lib.hid (show cutB (x, y) = false by unfold cutB; rw [h1]; rfl)
    clear h1
    go_enter Tryz.func86, Tryz.ntmps86
    go_wp2_with fail
    refine (within_i64 _ _ [x] _ 0 1 1 _ rfl (by omega) (cell_int _ _ _ _ (by simp))).mono ?_
    rintro e w2 ⟨rfl, rfl⟩
    rw [H1.out]
    go_wp2
    go_ret
    exact ⟨ret_bool HR.out.symm, (below_al _ _).alloc (by simp) _⟩
theorem notValid_any (x y : Int) (w : World) : Calls Tryz.prog 85 #[.agg #[.int .i64 x, .int .i64 y]] w fun e w' => e = .returned (.bool (!cutB (x, y))) ∧ Below w.heap.size w w' := by
  have HC := Lib.hid (cutValid_any x y (w.alloc (.cells #[.int .i64 x, .int .i64 y] 69)))
  generalize cutB (x, y) = r at *
  go_enter Tryz.func85, Tryz.ntmps85
  go_wp2_with fail
  refine HC.out.mono ?_
  rintro e w1 ⟨rfl, hb⟩
  have HB := Lib.hid (below_of (below_al _ _) hb (by simp))
  clear hb
  go_wp2
  go_ret
  exact ⟨rfl, HB.out⟩

set_option maxRecDepth 20000 in
set_option maxHeartbeats 2000000 in
theorem indexF_vc (p : Ct → Bool) (cs : List Ct) (b off cap n : Nat) (w : World) (hn : Hid (cs.length = n)) (hn1 : n ≤ 1048576) (hb : b < w.heap.size) (hc : ∀ i, i < n → CIn w b (off + i * 2) (cs.getD i zC))
    (hp : ∀ (x y : Int) (W : World), Below w.heap.size w W → Calls Tryz.prog 85 #[.agg #[.int .i64 x, .int .i64 y]] W fun e W' => e = .returned (.bool (p (x, y))) ∧ Below W.heap.size W W') :
    Calls Tryz.prog 108 #[.slice (some ⟨b, off, none⟩) n cap, .func (.func 85) #[] #[]] w (IdxPost (cs.any p) w) := by
  have HC := Lib.hid (fun W (hW : Below w.heap.size w W) i (hi : i < n) => cuts_keep hW hb (hc i hi))
  have HP := Lib.hid hp
  clear hc hp
  go_enter Tryz.func108, Tryz.ntmps108
  go_wp2
  go_loopw [8] (fun i wr => ∃ k : Nat, k ≤ n ∧ i = .int .i64 k ∧ Hid (∀ j, j < k → p (cs.getD j zC) = false) ∧ Below w.heap.size w wr) (fun i _ => n - (intOf i).toNat)
  case atStart => exact ⟨0, by omega, rfl, Lib.hid (fun j hj => by omega), Below.refl _ _⟩
  case round =>
    obtain ⟨k, hk, rfl, HA, hbw⟩ := hrel
    have HB := Lib.hid hbw
    by_cases hlt : k < n
    · obtain ⟨⟨x, y⟩, hxy⟩ : ∃ r, cs.getD k zC = r := ⟨_, rfl⟩
      have hr := HC.out wr hbw k hlt
      rw [hxy] at hr
      have d0 : wr.cell? ⟨b, off + k * 2, none⟩ = some (.int .i64 x) := hr.c0
      have d1 : wr.cell? ⟨b, off + k * 2 + 1, none⟩ = some (.int .i64 y) := hr.c1
      have HXY := Lib.hid hxy
      have hlt1 : (k : Int) < (n : Int) := by omega
      have hk0 : (0 : Int) ≤ (k : Int) := by omega
      clear hr hxy hbw
      have HPX := Lib.hid (HP.out x y)
      rcases Bool.eq_false_or_eq_true (p (x, y)) with h1 | h1
      · have HT := Lib.hid (show cs.any p = true by
          rw [List.any_eq_true]
          have hkl : k < cs.length := by rw [hn.out]; exact hlt
          refine ⟨cs.getD k zC, by rw [List.getD_eq_getElem?_getD, List.getElem?_eq_getElem hkl]; exact List.getElem_mem hkl, by rw [HXY.out, h1]⟩)
        rw [h1] at HPX
        clear h1
        go_wp2_with fail
        refine (HPX.out _ HB.out).mono ?_
        rintro e w2 ⟨rfl, hb2⟩
        have HB2 := Lib.hid (below_of HB.out hb2 HB.out.size)
        clear hb2
        go_wp2
        go_ret
        exact ⟨_, rfl, ⟨fun _ => by omega, (fun h => by rw [HT.out] at h; cases h)⟩, HB2.out⟩
      · have HT := Lib.hid (show ∀ j, j < k + 1 → p (cs.getD j zC) = false from fun j hj => by
          by_cases e : j = k
          · subst e; rw [HXY.out, h1]
          · exact HA.out j (by omega))
        rw [h1] at HPX
        clear h1
        go_wp2_with fail
        refine (HPX.out _ HB.out).mono ?_
        rintro e w2 ⟨rfl, hb2⟩
        have HB2 := Lib.hid (below_of HB.out hb2 HB.out.size)
        clear hb2
        go_wp2
        go_roundw
        case rel => exact ⟨k + 1, by omega, by go_num, HT, HB2.out⟩
        case measure => simp [intOf]; omega
    · obtain rfl : k = n := by omega
      have HT := Lib.hid (show cs.any p = false by
        rw [List.any_eq_false]
        intro q hq
        obtain ⟨i, hi, rfl⟩ := List.mem_iff_getElem.1 hq
        have := HA.out i (by rw [hn.out] at hi; exact hi)
        rw [List.getD_eq_getElem?_getD, List.getElem?_eq_getElem hi] at this
        simp only [Option.getD_some] at this
        rw [this]; simp)
      clear hbw
      go_wp2
      go_ret
      exact ⟨_, rfl, ⟨(fun h => by rw [HT.out] at h; cases h), fun _ => rfl⟩, HB.out⟩
theorem indexF0_vc (a : Option Addr) (c : Nat) (w : World) :
    Calls Tryz.prog 108 #[.slice a 0 c, .func (.func 85) #[] #[]] w fun e w' => e = .returned (.int .i64 (-1)) ∧ w = w' := by
  go_enter Tryz.func108, Tryz.ntmps108
  go_wp2
  refine wp_loop_rounds 1 ?_
  rw [rounds_succ]
  go_wp2
  go_ret
  exact ⟨rfl, rfl⟩
set_option maxHeartbeats 1000000 in
theorem containsF_vc (p : Ct → Bool) (cs : List Ct) (v : Value) (w : World) (h : CutsAt w v cs)
    (hp : ∀ (x y : Int) (W : World), Below w.heap.size w W → Calls Tryz.prog 85 #[.agg #[.int .i64 x, .int .i64 y]] W fun e W' => e = .returned (.bool (p (x, y))) ∧ Below W.heap.size W W') :
    Calls Tryz.prog 84 #[v, .func (.func 85) #[] #[]] w fun e w' => e = .returned (.bool (cs.any p)) ∧ Below w.heap.size w w' := by
  by_cases h0 : cs.length = 0
  · obtain rfl : cs = [] := List.length_eq_zero_iff.1 h0
    obtain ⟨a, c, rfl⟩ := cuts_form h
    clear h hp h0
    go_enter Tryz.func84, Tryz.ntmps84
    go_wp2_with fail
    refine (indexF0_vc a c _).mono ?_
    rintro e w1 ⟨rfl, rfl⟩
    go_wp2
    go_ret
    exact ⟨rfl, Below.refl _ _⟩
  · have hl := h.1
    obtain ⟨b, off, cap, rfl, hb, hc⟩ := cuts_cells h (by omega)
    have HI := Lib.hid (indexF_vc p cs b off cap _ w (Lib.hid rfl) hl hb hc hp)
    clear h hp h0 hc hl
    generalize cs.length = n at *
    go_enter Tryz.func84, Tryz.ntmps84
    go_wp2_with fail
    refine HI.out.mono ?_
    rintro e w1 ⟨i, rfl, ⟨h1, h2⟩, hb1⟩
    have HB := Lib.hid hb1
    rcases Bool.eq_false_or_eq_true (cs.any p) with h3 | h3
    · have hi := h1 h3
      have H3 := Lib.hid h3
      clear h1 h2 h3 hb1
      go_wp2
      go_ret
      exact ⟨ret_bool H3.out.symm, HB.out⟩
    · have hi := h2 h3
      have H3 := Lib.hid h3
      subst hi
      clear h1 h2 h3 hb1
      go_wp2
      go_ret
      exact ⟨ret_bool H3.out.symm, HB.out⟩

theorem any_not (cs : List Ct) : cs.any (fun c => !cutB c) = !allC cs := by
  unfold allC
  induction cs with
  | nil => rfl
  | cons c cs ih => simp [ih, Bool.not_and]
set_option maxHeartbeats 1000000 in
theorem implVC_any (cs : List Ct) (v : Value) (w : World) (h : CutsAt w v cs) :
    Calls Tryz.prog 53 #[v] w fun e w' => e = .returned (.bool (cutsB cs)) ∧ Below w.heap.size w w' := by
  have HI := Lib.hid (containsF_vc (fun c => !cutB c) cs v w h (fun x y W _ => notValid_any x y W))
  have HA := Lib.hid (any_not cs)
  obtain ⟨a, c, rfl⟩ := cuts_form h
  clear h
  by_cases hl : cs.length ≤ 64
  · have HR := Lib.hid (show cutsB cs = allC cs by unfold cutsB; rw [decide_eq_true hl]; rfl)
    rw [HA.out] at HI
    generalize allC cs = r at *
    generalize cs.length = n at *
    have hl1 : (n : Int) ≤ 64 := by omega
    clear hl
    go_enter Tryz.func53, Tryz.ntmps53
    go_wp2_with fail
    refine HI.out.mono ?_
    rintro e w1 ⟨rfl, hb⟩
    have HB := Lib.hid hb
    clear hb
    go_wp2
    go_ret
    exact ⟨ret_bool (by first | exact HR.out.symm | (rw [HR.out]; simp)), HB.out⟩
  · have HR := Lib.hid (show cutsB cs = false by unfold cutsB; rw [decide_eq_false hl]; rfl)
    generalize cs.length = n at *
    have hl1 : ¬ (n : Int) ≤ 64 := by omega
    clear hl HI
    go_enter Tryz.func53, Tryz.ntmps53
    go_wp2
    go_ret
    exact ⟨ret_bool HR.out.symm, Below.refl _ _⟩
end Go.Proofs.YtpjopfhkgegahaaGreat


set_option linter.unusedVariables false
namespace Go.Proofs.YtpjopfhkgegahaaGreat
open Go.ChangeShapes Go.WideShapes Go.ChangeAt Go.RowKit Go.Maps

theorem lawZ : Keyed Tryz.prog 2 := int_keyed Tryz.underlying2
theorem zeroZ (w : World) : (zeroValue 2).run Tryz.prog w = .ok (.int .i64 0) w := by kernel_rfl
/-- The map's datum holds f z at z, and nothing where f is 0. -/
structure SumsMap (D : DataW Unit) (f : Int → Int) : Prop where
  map : IsMap D
  at' : ∀ z : Int, D.atKey (.int .i64 z) (.lit (.int .i64 0)) = .lit (.int .i64 (f z))
  key : ∀ kl, has D kl = true → ∃ z : Int, kl = .int .i64 z ∧ 0 ≤ z ∧ z ≤ 7 ∧ 0 ≤ f z
  has' : ∀ z : Int, 0 < f z → has D (.int .i64 z) = true
theorem sumsMap_empty : SumsMap (.map []) fun _ => 0 :=
  ⟨isMap_empty, fun z => rfl, fun kl h => by simp [has] at h, fun z h => by omega⟩
theorem sumsMap_put {D : DataW Unit} {f g : Int → Int} (h : SumsMap D f) (x y : Int) (hx : 0 ≤ x ∧ x ≤ 7) (hy : 0 ≤ f x + y) (hg : ∀ z, g z = f z + if x = z then y else 0) :
    SumsMap (D.put (.int .i64 x) (.lit (.int .i64 (f x + y)))) g := by
  have ne : ∀ z, x ≠ z → (Lit.int .i64 z) ≠ (Lit.int .i64 x) := fun z hz e => by simp at e; exact hz e.symm
  refine ⟨h.map.put _ _, fun z => ?_, fun kl hk => ?_, fun z hz => ?_⟩
  · by_cases e : x = z
    · subst e; rw [atKey_put_same h.map (show WideAt.IsKeyLit (.int .i64 x) from trivial), hg, if_pos rfl]
    · rw [atKey_put_other (ne z e), h.at', hg, if_neg e, Int.add_zero]
  · by_cases e : kl = .int .i64 x
    · exact ⟨x, e, hx.1, hx.2, by rw [hg, if_pos rfl]; exact hy⟩
    · rw [has_put_other e] at hk
      obtain ⟨z, rfl, h1, h2, h3⟩ := h.key kl hk
      refine ⟨z, rfl, h1, h2, ?_⟩
      rw [hg, if_neg (fun e2 => e (by rw [e2]))]; omega
  · by_cases e : x = z
    · subst e; exact has_put_same h.map (show WideAt.IsKeyLit (.int .i64 x) from trivial) _
    · rw [has_put_other (ne z e)]
      refine h.has' z ?_
      rw [hg, if_neg e] at hz; omega
/-- Block b is a map that holds f. -/
def MapF (w : World) (b n : Nat) (f : Int → Int) : Prop := ∃ D : DataW Unit, w.ownsMap Tryz.prog 2 (plainElem Tryz.prog 2) b n D ∧ SumsMap D f
theorem mapF_kept {w w' : World} {b n : Nat} {f : Int → Int} (hb : Below w.heap.size w w') (h : MapF w b n f) : MapF w' b n f := by
  obtain ⟨D, h1, h2⟩ := h
  exact ⟨D, h1.kept (row := none) ⟨hb.os, hb.tape, hb.output, hb.size, fun k hk _ => hb.block k hk⟩ (by simp), h2⟩
theorem mapF_lt {w : World} {b n : Nat} {f : Int → Int} (h : MapF w b n f) : b < w.heap.size := by
  obtain ⟨D, h1, -⟩ := h
  exact h1.lt
theorem mapF_mono {w : World} {b n m : Nat} {f : Int → Int} (h : MapF w b n f) (hm : n ≤ m) : MapF w b m f := by
  obtain ⟨D, h1, h2⟩ := h
  exact ⟨D, h1.mono hm, h2⟩
theorem mapF_start (w : World) : MapF (w.alloc (.map #[] 0)) w.heap.size 0 (fun _ => 0) := ⟨.map [], World.ownsMap_made _ _ _ _, sumsMap_empty⟩
theorem mapF_ext {w : World} {b n : Nat} {f g : Int → Int} (h : MapF w b n f) (e : ∀ z, g z = f z) : MapF w b n g := by
  obtain rfl : g = f := funext e
  exact h
theorem gb_cellC {w w' : World} {row : Option Nat} (hg : w.grownBy w' row) (b o : Nat) (hb : b < w.heap.size) (hne : some b ≠ row) : w'.cell? ⟨b, o, none⟩ = w.cell? ⟨b, o, none⟩ := World.cell?_of_block (hg.block b hb hne)
theorem lit_of_some {a b : Int} (h : (DataW.lit (.int .i64 a) : DataW Unit) = .lit (.int .i64 b)) : a = b := by simpa using h
/-- What stepsOf answers. -/
def StepsPost (cs : List Ct) (w : World) (e : Ending) (w' : World) : Prop :=
  ((fitsC cs = true ∧ ∃ b, e = .returned (.tuple #[.map (some b), .int .i64 0]) ∧ MapF w' b 64 (fun z => sumAt z cs) ∧ w.heap.size ≤ b) ∨ (fitsC cs = false ∧ e = .returned (.tuple #[.map none, .int .i64 5]))) ∧ Below w.heap.size w w'
set_option maxRecDepth 20000 in
set_option maxHeartbeats 4000000 in
theorem stepsOf_any (cs : List Ct) (v : Value) (w : World) (h : CutsAt w v cs) (h1 : cutsB cs = true) :
    Calls Tryz.prog 32 #[v] w (StepsPost cs w) := by
  obtain ⟨h64, hall⟩ := cutsB_iff.1 h1
  obtain ⟨A, b, off, cap, hv, hA, hc⟩ : ∃ A b off cap, v = .slice A cs.length cap ∧ (0 < cs.length → A = some ⟨b, off, none⟩) ∧ ∀ W, Below w.heap.size w W → ∀ i, i < cs.length → CIn W b (off + i * 2) (cs.getD i zC) := by
    by_cases h0 : cs.length = 0
    · obtain ⟨a, c, rfl⟩ := cuts_form h
      exact ⟨a, 0, 0, c, rfl, fun h => by omega, fun W _ i hi => by omega⟩
    · obtain ⟨b, off, cap, rfl, hb, hc⟩ := cuts_cells h (by omega)
      exact ⟨_, b, off, cap, rfl, fun _ => rfl, fun W hW i hi => cuts_keep hW hb (hc i hi)⟩
  subst hv
  have HA := Lib.hid hA
  have HC := Lib.hid hc
  have HV := Lib.hid (fun i (hi : i < cs.length) => cut_iff.1 (allC_at hall i hi))
  have HNX := Lib.hid (fun z k (hk : k < cs.length) => sumAt_next z cs k hk)
  have HLE := Lib.hid (fun z k => sumAt_take_le z hall k)
  have HNN := Lib.hid (fun z k => sumAt_nonneg z (allC_take hall k))
  have HTT := Lib.hid (show cs.take cs.length = cs from List.take_length)
  have HFY := Lib.hid (fun (h : ∀ z : Nat, z < 8 → sumAt (z : Int) cs ≤ 20) => fitsC_iff.2 h)
  have HFN := Lib.hid (fun (z : Nat) (hz : z < 8) (h : 20 < sumAt (z : Int) cs) => fitsC_no hz h)
  have hmm := @run_makeMap Tryz.prog
  clear h h1 hall hA hc
  obtain ⟨n, hn⟩ : ∃ n, cs.length = n := ⟨_, rfl⟩
  rw [hn] at HA HC HV HNX HTT h64 ⊢
  clear hn
  have hba := below_al w (.map #[] 0)
  have HM0 := Lib.hid (mapF_ext (g := fun z => sumAt z (cs.take 0)) (mapF_start w) (fun z => rfl))
  have HBA := Lib.hid hba
  have hsz : w.heap.size < (w.alloc (.map #[] 0)).heap.size := alloc_lt2 _ _
  clear hba
  go_enter Tryz.func32, Tryz.ntmps32
  go_wp2
  clear hmm
  go_loopw [10] (fun i wr => ∃ k : Nat, k ≤ n ∧ i = .int .i64 k ∧ Hid (MapF wr w.heap.size k (fun z => sumAt z (cs.take k))) ∧ Hid (∀ z : Nat, z < 8 → sumAt (z : Int) (cs.take k) ≤ 20) ∧ Hid (Below w.heap.size w wr)) (fun i _ => n - (intOf i).toNat)
  case atStart => exact ⟨0, by omega, rfl, HM0, Lib.hid (fun z _ => by simp [sumAt]), HBA⟩
  case round =>
    obtain ⟨k, hk, rfl, HM, HL, HB⟩ := hrel
    by_cases hlt : k < n
    · have hAe := HA.out (by omega)
      subst hAe
      obtain ⟨⟨x, y⟩, hxy⟩ : ∃ r, cs.getD k zC = r := ⟨_, rfl⟩
      have hr := HC.out wr HB.out k hlt
      have hv := HV.out k hlt
      have HSN := Lib.hid (fun z => HNX.out z k hlt)
      rw [hxy] at hr hv HSN
      simp only at hv
      have hx0 := hv.1.1
      have hx7 := hv.1.2
      have hy1 := hv.2.1
      have hy20 := hv.2.2
      obtain ⟨q, hq⟩ : ∃ q : Nat, x = (q : Int) := ⟨x.toNat, by omega⟩
      have d0 : wr.cell? ⟨b, off + k * 2, none⟩ = some (.int .i64 x) := hr.c0
      have d1 : wr.cell? ⟨b, off + k * 2 + 1, none⟩ = some (.int .i64 y) := hr.c1
      obtain ⟨D, hown, hsm⟩ := HM.out
      have HSM := Lib.hid hsm
      have hown0 := hown.alloc (.cells #[.int .i64 x, .int .i64 y] 69)
      have hnn := HNN.out x k
      have hl20 : sumAt x (cs.take k) ≤ 20 := by rw [hq]; exact HL.out q (by omega)
      have hwx : (Lit.int .i64 x).wf = true := WalkArith.wf_i64 (by omega)
      have hlt1 : (k : Int) < (n : Int) := by omega
      have hk0 : (0 : Int) ≤ (k : Int) := by omega
      have HQ := Lib.hid hq
      have hsb : w.heap.size ≤ wr.heap.size := HB.out.size
      have HBa := Lib.hid (HB.out.alloc hsb (.cells #[.int .i64 x, .int .i64 y] 69))
      have hk64 : k < 64 := by omega
      clear hr hv hxy hsm hown hq
      have hml := mapF_lt HM.out
      have hal : wr.heap.size < (wr.alloc (.cells #[.int .i64 x, .int .i64 y] 69)).heap.size := alloc_lt2 _ _
      have hcx : (wr.alloc (.cells #[.int .i64 x, .int .i64 y] 69)).cell? ⟨wr.heap.size, 0, none⟩ = some (.int .i64 x) := by go_simp
      have hne : some wr.heap.size ≠ some w.heap.size := by simp; omega
      obtain ⟨t, ht⟩ : ∃ t, sumAt x (cs.take k) = t := ⟨_, rfl⟩
      have HAT := Lib.hid (fun (c : Int) hat => show c = t from ((lit_of_some ((HSM.out.at' x).symm.trans hat)).symm.trans ht))
      have HSM1 := Lib.hid (show SumsMap (D.put (.int .i64 x) (.lit (.int .i64 (t + y)))) (fun z => sumAt z (cs.take (k + 1))) by rw [← ht]; exact sumsMap_put HSM.out x y ⟨hx0, hx7⟩ (by omega) (fun z => HSN.out z))
      have HT := Lib.hid (show sumAt x (cs.take (k + 1)) = t + y by rw [HSN.out x, if_pos rfl, ht])
      have HAT2 := Lib.hid (fun (c : Int) hat => show c = t + y from ((lit_of_some ((HSM1.out.at' x).symm.trans hat)).symm.trans HT.out))
      rw [ht] at hnn hl20
      by_cases hbig : 20 < t + y
      · have HF := Lib.hid (show fitsC cs = false from HFN.out q (by have := HQ.out; omega) (by
          have h1 := HLE.out x (k + 1)
          have h2 := HT.out
          have h3 := HQ.out
          rw [← h3]; omega))
        clear ht
        have tok1 : True := trivial
        go_wp2_with (first
          | (at_lookup; have _t := tok1; refine wpList_lookup_own_int _ rfl _ _ 74 rfl 2 2 .i64 lawZ Tryz.underlying74 Tryz.underlying2 (zeroZ _) w.heap.size k _ rfl hown0 _ _ rfl (keyOf_int_mk Tryz.underlying2 hwx) ?_; intro c hat hwc; have hc : t = c := (HAT.out c hat).symm; subst hc; clear hat hwc tok1)
          | (at_mapUpdate; refine wpList_mapUpdate_own _ rfl _ _ _ 74 rfl 2 2 lawZ Tryz.underlying74 _ w.heap.size k _ rfl hown0 (by unfold maxLen; omega) _ _ _ rfl rfl (keyOf_int_mk Tryz.underlying2 hwx) (.lit (.int .i64 (t + y))) [] (plainElem_int Tryz.underlying2 (WalkArith.wf_i64 (by omega))) ?_; intro w1 hown1 hgrow1; have hbx : w1.cell? ⟨wr.heap.size, 0, none⟩ = some (.int .i64 x) := (gb_cellC hgrow1 _ _ hal hne).trans hcx; obtain ⟨c2, hrun2, hat2, -⟩ := hown1.lookup_int lawZ Tryz.underlying74 Tryz.underlying2 (zeroZ _) (keyOf_int_mk Tryz.underlying2 hwx); have hc2 : c2 = t + y := HAT2.out c2 hat2; subst hc2; clear hat2))
        have HB1 := Lib.hid (HBa.out.grown hgrow1 HBa.out.size (fun j hj => by cases hj; exact Nat.le_refl _))
        go_ret2
        exact ⟨.inr ⟨HF.out, rfl⟩, HB1.out⟩
      · have HL2 := Lib.hid (show ∀ z : Nat, z < 8 → sumAt (z : Int) (cs.take (k + 1)) ≤ 20 from fun z hz => by
          have h1 := HSN.out (z : Int)
          have h2 := HL.out z hz
          by_cases e : x = (z : Int)
          · rw [if_pos e] at h1; rw [h1, ← e, ht]; omega
          · rw [if_neg e] at h1; omega)
        have hbig2 : t + y ≤ 20 := by omega
        clear ht hbig
        have tok1 : True := trivial
        go_wp2_with (first
          | (at_lookup; have _t := tok1; refine wpList_lookup_own_int _ rfl _ _ 74 rfl 2 2 .i64 lawZ Tryz.underlying74 Tryz.underlying2 (zeroZ _) w.heap.size k _ rfl hown0 _ _ rfl (keyOf_int_mk Tryz.underlying2 hwx) ?_; intro c hat hwc; have hc : t = c := (HAT.out c hat).symm; subst hc; clear hat hwc tok1)
          | (at_mapUpdate; refine wpList_mapUpdate_own _ rfl _ _ _ 74 rfl 2 2 lawZ Tryz.underlying74 _ w.heap.size k _ rfl hown0 (by unfold maxLen; omega) _ _ _ rfl rfl (keyOf_int_mk Tryz.underlying2 hwx) (.lit (.int .i64 (t + y))) [] (plainElem_int Tryz.underlying2 (WalkArith.wf_i64 (by omega))) ?_; intro w1 hown1 hgrow1; have hbx : w1.cell? ⟨wr.heap.size, 0, none⟩ = some (.int .i64 x) := (gb_cellC hgrow1 _ _ hal hne).trans hcx; obtain ⟨c2, hrun2, hat2, -⟩ := hown1.lookup_int lawZ Tryz.underlying74 Tryz.underlying2 (zeroZ _) (keyOf_int_mk Tryz.underlying2 hwx); have hc2 : c2 = t + y := HAT2.out c2 hat2; subst hc2; clear hat2))
        have HB1 := Lib.hid (HBa.out.grown hgrow1 HBa.out.size (fun j hj => by cases hj; exact Nat.le_refl _))
        go_roundw
        case rel => exact ⟨k + 1, by omega, by go_num, Lib.hid ⟨_, hown1, HSM1.out⟩, HL2, HB1⟩
        case measure => simp [intOf]; omega
    · obtain rfl : k = n := by omega
      have HF := Lib.hid (HFY.out (fun z hz => by have := HL.out z hz; rwa [HTT.out] at this))
      have HMF := Lib.hid (show MapF wr w.heap.size 64 (fun z => sumAt z cs) by
        have := HM.out
        rw [HTT.out] at this
        exact mapF_mono this h64)
      go_wp2
      go_ret2
      exact ⟨.inl ⟨HF.out, _, rfl, HMF.out, Nat.le_refl _⟩, HB.out⟩
end Go.Proofs.YtpjopfhkgegahaaGreat
