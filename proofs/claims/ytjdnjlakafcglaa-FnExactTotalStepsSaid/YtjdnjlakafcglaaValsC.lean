/- The rings of a slice, one after the other: the library's iterator, for every loop body. -/
import Derived.Test.YtjdnjlakafcglaaCutsV
import Derived.Test.YtjdnjlakafcglaaLip
import Derived.Test.YtjdnjlakafcglaaProf
import Derived.Deep.QuietTactic
set_option linter.unusedVariables false
namespace Go.Proofs.Ytjdnjlakafcglaa
open Go.ChangeShapes Go.WideShapes Go.ChangeAt Go.RowKit Go.Shelf
attribute [local go_sem] Oper.semAt_some

theorem cellNewVC (W : World) (v : Value) (t : TypeId) : (W.alloc (.cells #[v] t)).cell? ⟨W.heap.size, 0, none⟩ = some v ∧ (W.alloc (.cells #[v] t)).frozen? ⟨W.heap.size, 0, none⟩ = false := ⟨by go_simp, by go_simp⟩
theorem cellAlVC {W : World} {a : Addr} {v : Value} (o : Obj) (h : W.cell? a = some v) : (W.alloc o).cell? a = some v := cell_kept h (World.grownBy_alloc W o none) (fun r e => by cases e)
theorem frozenAlVC {W : World} {a : Addr} {v : Value} (o : Obj) (h : W.cell? a = some v) (hf : W.frozen? a = false) : (W.alloc o).frozen? a = false := (frozen_kept h (World.grownBy_alloc W o none) (fun r e => by cases e)).trans hf
theorem below_dr6VC {B : Nat} {w W : World} (h : Below B w W) : Below B w W.drew := h.trans ⟨rfl, rfl, rfl, Nat.le_refl _, fun _ _ => rfl⟩
theorem keeps_belowVC {W W' : World} (h : Below W.heap.size W W') : KeepsOthers W W' := ⟨h.size, fun k o hk _ => (h.block k (Array.getElem?_eq_some_iff.1 hk).1).trans hk⟩
/-- A valid ring. -/
abbrev Pc := { x : Ct // cutB x = true }
def encPc (x : Pc) : Array Value := #[.agg #[.int .i64 x.1.1, .int .i64 x.1.2]]
def uptoVC (f : Nat → Pc) (k : Nat) : List Pc := (List.range k).map f
theorem uptoV_succC (f : Nat → Pc) (k : Nat) : uptoVC f (k + 1) = uptoVC f k ++ [f k] := by simp [uptoVC, List.range_succ]
theorem uptoV_lengthC (f : Nat → Pc) (k : Nat) : (uptoVC f k).length = k := by simp [uptoVC]
theorem pr_exC (rs : List Ct) (h : ∀ j, j < rs.length → cutB (rs.getD j zC) = true) : ∃ f : Nat → Pc, ∀ j, j < rs.length → (f j).1 = rs.getD j zC := by
  refine ⟨fun j => if hj : j < rs.length then ⟨rs.getD j zC, h j hj⟩ else ⟨(0, 1), by decide⟩, fun j hj => ?_⟩
  simp [hj]
set_option maxRecDepth 100000 in
set_option maxHeartbeats 2000000 in
theorem vals1_inC (F : Fence) (n : Nat) (hF : F.fn 117) (hro : F.round = none) (hn : 1 ≤ n) (l Bs b off len cap : Nat) (A : Option Addr) (hA : 0 < len → A = some ⟨b, off, none⟩) (X : Nat → Prop) (rs : List Ct) (f : Nat → Pc) (hf : ∀ j, j < len → (f j).1 = rs.getD j zC) (h64 : len ≤ 64) (hb : ¬ X b) (J Jx : List Pc → World → Prop)
    (hY : ∀ pre x W, J pre W → pre.length < len → YieldAt F (n - 1) Try.prog l (encPc x) W fun e W' =>
      (e = .returned (.bool true) ∧ J (pre ++ [x]) W' ∧ KeepCells X W W') ∨ (e = .returned (.bool false) ∧ Jx (pre ++ [x]) W'))
    (W : World) (hJ : AbidesFrom W.heap.size J) (hX : ∀ k, X k → k < W.heap.size) (hB1 : W.cell? ⟨Bs, 0, none⟩ = some (.slice A len cap)) (hc : ∀ i, i < len → CIn W b (off + i * 2) (rs.getD i zC)) (h0 : J [] W) :
    CallsIn F n Try.prog 117 #[.func (.yield l) #[] #[], .pointer (some ⟨Bs, 0, none⟩)] W fun e W' => (∃ v, e = .returned v) ∧
      ((∃ ys, ys = uptoVC f len ∧ J ys W') ∨ (∃ pre, (∃ k, k ≤ len ∧ pre = uptoVC f k) ∧ Jx pre W')) := by
  refine callsIn_of_wp Try.func117 rfl hF ?_ hro
  simp only [Try.ntmps117, List.size_toArray, List.length_cons, List.length_nil, Nat.reduceAdd, Nat.reduceSub, Array.replicate_succ, Array.replicate_zero, List.push_toArray, List.append_toArray, List.nil_append, List.cons_append]
  gi_wp2
  gi_loopw [7] (fun i wr => ∃ k : Nat, k ≤ len ∧ i = .int .i64 k ∧ J (uptoVC f k) wr ∧ KeepCells X W wr)
    (fun i _ => len - (intOf i).toNat)
  case atStart => exact ⟨0, Nat.zero_le _, rfl, h0, kc_refl _ _⟩
  case round =>
    obtain ⟨k, hk, rfl, hJs, hnx⟩ := hrel
    by_cases hlt : k < len
    · obtain rfl := hA (by omega)
      obtain ⟨e0, e1⟩ := hc k hlt
      have hfk := hf k hlt
      obtain ⟨⟨⟨x, y⟩, hv⟩, hq⟩ : ∃ q, f k = q := ⟨_, rfl⟩
      rw [hq] at hfk
      simp only at hfk
      rw [← hfk] at e0 e1
      simp only at e0 e1
      have HU := Lib.hid (show uptoVC f (k + 1) = uptoVC f k ++ [⟨(x, y), hv⟩] by rw [uptoV_succC, hq])
      have q0 : wr.cell? ⟨b, off + k * 2, none⟩ = some (.int .i64 x) := kc_cell hnx hb e0
      have q1 : wr.cell? ⟨b, off + k * 2 + 1, none⟩ = some (.int .i64 y) := kc_cell hnx hb e1
      have hJa : J (uptoVC f k) (wr.alloc (.cells #[.int .i64 x, .int .i64 y] 95)) := hJ _ _ _ none hJs (World.grownBy_alloc wr _ none) (fun r e => by cases e)
      obtain ⟨fn, tmps, assign, body, hy, hR⟩ := hY _ ⟨(x, y), hv⟩ (wr.alloc (.cells #[.int .i64 x, .int .i64 y] 95)) hJa (by rw [uptoV_lengthC]; exact hlt)
      dsimp only [encPc] at hy
      clear hfk hq e0 e1
      have hkm : (k : Int) < (len : Int) := by omega
      have hk0 : (0 : Int) ≤ (k : Int) := by omega
      gi_wp2
      refine hR.mono ?_
      rintro e W3 (⟨rfl, hJ3, hk3⟩ | ⟨rfl, hJx3⟩)
      · gi_wp2
        go_roundw
        case rel => exact ⟨k + 1, by omega, by go_num, by rw [HU.out]; exact hJ3, kc_trans (kc_trans hnx (kc_below (below_al _ _))) hk3⟩
        case measure => simp [intOf]; omega
      · gi_wp2
        refine bodyPost_ret (results_none rfl _ _ _) rfl ?_
        exact ⟨⟨_, rfl⟩, .inr ⟨_, ⟨k + 1, by omega, HU.out.symm⟩, hJx3⟩⟩
    · obtain rfl : k = len := by omega
      gi_wp2
      go_end0
      exact ⟨⟨_, rfl⟩, .inl ⟨_, rfl, hJs⟩⟩
theorem vals_stopsC (F : Fence) (n : Nat) (hF : F.fn 117) (hro : F.round = none) (hn : 1 ≤ n) (Bs b off len cap : Nat) (A : Option Addr) (hA : 0 < len → A = some ⟨b, off, none⟩) (X : Nat → Prop) (rs : List Ct) (f : Nat → Pc) (hf : ∀ j, j < len → (f j).1 = rs.getD j zC) (h64 : len ≤ 64) (hb : ¬ X b) (w : World) (hBs : Bs < w.heap.size) (hbw : b < w.heap.size) (hX : ∀ k, X k → k < w.heap.size)
    (hB1 : w.cell? ⟨Bs, 0, none⟩ = some (.slice A len cap)) (hc : ∀ i, i < len → CIn w b (off + i * 2) (rs.getD i zC)) :
    SeqStopsK F n Try.prog 117 #[.pointer (some ⟨Bs, 0, none⟩)] encPc (KeepCells X) (fun ys => ys = uptoVC f len) (fun _ => True) len w := fun l J Jx W hW hJ _ hY h0 => by
  have d1 := (hW.cell (p := ⟨Bs, 0, none⟩) hBs).trans hB1
  refine (vals1_inC F n hF hro hn l Bs b off len cap A hA X rs f hf h64 hb J Jx hY W hJ (fun k hk => Nat.lt_of_lt_of_le (hX k hk) hW.size) d1 (fun i hi => ?_) h0).mono ?_
  · obtain ⟨c0, c1⟩ := hc i hi
    exact ⟨(hW.cell (p := ⟨b, _, none⟩) hbw).trans c0, (hW.cell (p := ⟨b, _, none⟩) hbw).trans c1⟩
  · rintro e W' ⟨he, ⟨ys, hys, hj⟩ | ⟨pre, _, hj⟩⟩
    · exact ⟨he, .inl ⟨ys, hys, hj⟩⟩
    · exact ⟨he, .inr ⟨pre, trivial, hj⟩⟩
set_option maxHeartbeats 400000 in
theorem values_anyC (a : Option Addr) (n c : Nat) (w : World) :
    Calls Try.prog 81 #[.slice a n c] w fun e w' => e = .returned (.func (.func 117) #[] #[.pointer (some ⟨w.heap.size, 0, none⟩)]) ∧ w' = w.alloc (.cells #[.slice a n c] 42) := by
  go_enter Try.func81, Try.ntmps81
  go_wp2
  go_ret
  exact ⟨rfl, rfl⟩
end Go.Proofs.Ytjdnjlakafcglaa
