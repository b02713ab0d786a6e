/- The rings of a slice, one after the other: the library's iterator, for every loop body. -/
import Derived.Test.YtpjopfhkgegahaaGreatLip
import Derived.Test.YtpjopfhkgegahaaGreatG2
import Derived.Deep.QuietTactic
set_option linter.unusedVariables false
namespace Go.Proofs.YtpjopfhkgegahaaGreat
open Go.ChangeShapes Go.WideShapes Go.ChangeAt Go.RowKit Go.Shelf
attribute [local go_sem] Oper.semAt_some

theorem cellNewV (W : World) (v : Value) (t : TypeId) : (W.alloc (.cells #[v] t)).cell? ⟨W.heap.size, 0, none⟩ = some v ∧ (W.alloc (.cells #[v] t)).frozen? ⟨W.heap.size, 0, none⟩ = false := ⟨by go_simp, by go_simp⟩
theorem cellAlV {W : World} {a : Addr} {v : Value} (o : Obj) (h : W.cell? a = some v) : (W.alloc o).cell? a = some v := cell_kept h (World.grownBy_alloc W o none) (fun r e => by cases e)
theorem frozenAlV {W : World} {a : Addr} {v : Value} (o : Obj) (h : W.cell? a = some v) (hf : W.frozen? a = false) : (W.alloc o).frozen? a = false := (frozen_kept h (World.grownBy_alloc W o none) (fun r e => by cases e)).trans hf
theorem below_dr6V {B : Nat} {w W : World} (h : Below B w W) : Below B w W.drew := h.trans ⟨rfl, rfl, rfl, Nat.le_refl _, fun _ _ => rfl⟩
theorem keeps_belowV {W W' : World} (h : Below W.heap.size W W') : KeepsOthers W W' := ⟨h.size, fun k o hk _ => (h.block k (Array.getElem?_eq_some_iff.1 hk).1).trans hk⟩
/-- A valid ring. -/
abbrev Pr := { x : Rg // ringB x = true }
def encPr (x : Pr) : Array Value := #[.agg #[.int .i64 x.1.1, .int .i64 x.1.2.1, .int .i64 x.1.2.2]]
def uptoV (f : Nat → Pr) (k : Nat) : List Pr := (List.range k).map f
theorem uptoV_succ (f : Nat → Pr) (k : Nat) : uptoV f (k + 1) = uptoV f k ++ [f k] := by simp [uptoV, List.range_succ]
theorem uptoV_length (f : Nat → Pr) (k : Nat) : (uptoV f k).length = k := by simp [uptoV]
theorem pr_ex (rs : List Rg) (h : ∀ j, j < rs.length → ringB (rs.getD j zR) = true) : ∃ f : Nat → Pr, ∀ j, j < rs.length → (f j).1 = rs.getD j zR := by
  refine ⟨fun j => if hj : j < rs.length then ⟨rs.getD j zR, h j hj⟩ else ⟨(500, 0, 10), by decide⟩, fun j hj => ?_⟩
  simp [hj]
set_option maxRecDepth 100000 in
set_option maxHeartbeats 2000000 in
theorem vals1_in (F : Fence) (n : Nat) (hF : F.fn 136) (hro : F.round = none) (hn : 1 ≤ n) (l Bs b off len cap : Nat) (X : Nat → Prop) (rs : List Rg) (f : Nat → Pr) (hf : ∀ j, j < len → (f j).1 = rs.getD j zR) (h32 : len ≤ 32) (hb : ¬ X b) (J Jx : List Pr → World → Prop)
    (hY : ∀ pre x W, J pre W → pre.length < len → YieldAt F (n - 1) Tryz.prog l (encPr x) W fun e W' =>
      (e = .returned (.bool true) ∧ J (pre ++ [x]) W' ∧ KeepCells X W W') ∨ (e = .returned (.bool false) ∧ Jx (pre ++ [x]) W'))
    (W : World) (hJ : AbidesFrom W.heap.size J) (hX : ∀ k, X k → k < W.heap.size) (hB1 : W.cell? ⟨Bs, 0, none⟩ = some (.slice (some ⟨b, off, none⟩) len cap)) (hc : ∀ i, i < len → RingIn W b (off + i * 3) (rs.getD i zR)) (h0 : J [] W) :
    CallsIn F n Tryz.prog 136 #[.func (.yield l) #[] #[], .pointer (some ⟨Bs, 0, none⟩)] W fun e W' => (∃ v, e = .returned v) ∧
      ((∃ ys, ys = uptoV f len ∧ J ys W') ∨ (∃ pre, (∃ k, k ≤ len ∧ pre = uptoV f k) ∧ Jx pre W')) := by
  refine callsIn_of_wp Tryz.func136 rfl hF ?_ hro
  simp only [Tryz.ntmps136, List.size_toArray, List.length_cons, List.length_nil, Nat.reduceAdd, Nat.reduceSub, Array.replicate_succ, Array.replicate_zero, List.push_toArray, List.append_toArray, List.nil_append, List.cons_append]
  gi_wp2
  gi_loopw [7] (fun i wr => ∃ k : Nat, k ≤ len ∧ i = .int .i64 k ∧ J (uptoV f k) wr ∧ KeepCells X W wr)
    (fun i _ => len - (intOf i).toNat)
  case atStart => exact ⟨0, Nat.zero_le _, rfl, h0, kc_refl _ _⟩
  case round =>
    obtain ⟨k, hk, rfl, hJs, hnx⟩ := hrel
    by_cases hlt : k < len
    · obtain ⟨e0, e1, e2⟩ := hc k hlt
      have hfk := hf k hlt
      obtain ⟨⟨⟨x, y, z⟩, hv⟩, hq⟩ : ∃ q, f k = q := ⟨_, rfl⟩
      rw [hq] at hfk
      simp only at hfk
      rw [← hfk] at e0 e1 e2
      simp only at e0 e1 e2
      have HU := Lib.hid (show uptoV f (k + 1) = uptoV f k ++ [⟨(x, y, z), hv⟩] by rw [uptoV_succ, hq])
      have q0 : wr.cell? ⟨b, off + k * 3, none⟩ = some (.int .i64 x) := kc_cell hnx hb e0
      have q1 : wr.cell? ⟨b, off + k * 3 + 1, none⟩ = some (.int .i64 y) := kc_cell hnx hb e1
      have q2 : wr.cell? ⟨b, off + k * 3 + 2, none⟩ = some (.int .i64 z) := kc_cell hnx hb e2
      have hJa : J (uptoV f k) (wr.alloc (.cells #[.int .i64 x, .int .i64 y, .int .i64 z] 113)) := hJ _ _ _ none hJs (World.grownBy_alloc wr _ none) (fun r e => by cases e)
      obtain ⟨fn, tmps, assign, body, hy, hR⟩ := hY _ ⟨(x, y, z), hv⟩ (wr.alloc (.cells #[.int .i64 x, .int .i64 y, .int .i64 z] 113)) hJa (by rw [uptoV_length]; exact hlt)
      dsimp only [encPr] at hy
      clear hfk hq e0 e1 e2
      have hkm : (k : Int) < (len : Int) := by omega
      have hk0 : (0 : Int) ≤ (k : Int) := by omega
      gi_wp2
      refine hR.mono ?_
      rintro e W3 (⟨rfl, hJ3, hk3⟩ | ⟨rfl, hJx3⟩)
      · gi_wp2
        go_roundw
        case rel => exact ⟨k + 1, by omega, by go_num, by rw [HU.out]; exact hJ3, kc_trans (kc_trans hnx (kc_below (below_al _ _))) hk3⟩
        case measure => simp [intOf]; omega
      · gi_wp2
        refine bodyPost_ret (results_none rfl _ _ _) rfl ?_
        exact ⟨⟨_, rfl⟩, .inr ⟨_, ⟨k + 1, by omega, HU.out.symm⟩, hJx3⟩⟩
    · obtain rfl : k = len := by omega
      gi_wp2
      go_end0
      exact ⟨⟨_, rfl⟩, .inl ⟨_, rfl, hJs⟩⟩
theorem vals_stops (F : Fence) (n : Nat) (hF : F.fn 136) (hro : F.round = none) (hn : 1 ≤ n) (Bs b off len cap : Nat) (X : Nat → Prop) (rs : List Rg) (f : Nat → Pr) (hf : ∀ j, j < len → (f j).1 = rs.getD j zR) (h32 : len ≤ 32) (hb : ¬ X b) (w : World) (hBs : Bs < w.heap.size) (hbw : b < w.heap.size) (hX : ∀ k, X k → k < w.heap.size)
    (hB1 : w.cell? ⟨Bs, 0, none⟩ = some (.slice (some ⟨b, off, none⟩) len cap)) (hc : ∀ i, i < len → RingIn w b (off + i * 3) (rs.getD i zR)) :
    SeqStopsK F n Tryz.prog 136 #[.pointer (some ⟨Bs, 0, none⟩)] encPr (KeepCells X) (fun ys => ys = uptoV f len) (fun _ => True) len w := fun l J Jx W hW hJ _ hY h0 => by
  have d1 := (hW.cell (p := ⟨Bs, 0, none⟩) hBs).trans hB1
  refine (vals1_in F n hF hro hn l Bs b off len cap X rs f hf h32 hb J Jx hY W hJ (fun k hk => Nat.lt_of_lt_of_le (hX k hk) hW.size) d1 (fun i hi => ?_) h0).mono ?_
  · obtain ⟨c0, c1, c2⟩ := hc i hi
    exact ⟨(hW.cell (p := ⟨b, _, none⟩) hbw).trans c0, (hW.cell (p := ⟨b, _, none⟩) hbw).trans c1, (hW.cell (p := ⟨b, _, none⟩) hbw).trans c2⟩
  · rintro e W' ⟨he, ⟨ys, hys, hj⟩ | ⟨pre, _, hj⟩⟩
    · exact ⟨he, .inl ⟨ys, hys, hj⟩⟩
    · exact ⟨he, .inr ⟨pre, trivial, hj⟩⟩
set_option maxHeartbeats 400000 in
theorem values_any (a : Option Addr) (n c : Nat) (w : World) :
    Calls Tryz.prog 126 #[.slice a n c] w fun e w' => e = .returned (.func (.func 136) #[] #[.pointer (some ⟨w.heap.size, 0, none⟩)]) ∧ w' = w.alloc (.cells #[.slice a n c] 40) := by
  go_enter Tryz.func126, Tryz.ntmps126
  go_wp2
  go_ret
  exact ⟨rfl, rfl⟩
end Go.Proofs.YtpjopfhkgegahaaGreat
