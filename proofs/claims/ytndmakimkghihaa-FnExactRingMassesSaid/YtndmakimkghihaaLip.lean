/- The rings from the lip upwards: the program's iterator, for every loop body. -/
import Derived.RangeFuncFrom
import Derived.RangeFuncCalls
import Derived.RangeFuncLeaves
import Derived.RangeFuncNested
import Derived.Shelf.Abstract
import Derived.Shelf.RegionOpen
import Derived.WalkKit
import Derived.OwnWalkIn
import Derived.TacticsInMore
import Derived.LoopNIn
import Derived.LoopIn
import Derived.Test.YtndmakimkghihaaProfVal
import Derived.Test.YtndmakimkghihaaMassMath
set_option linter.unusedVariables false
namespace Go.Proofs.Ytndmakimkghihaa
open Go.ChangeShapes Go.WideShapes Go.ChangeAt Go.RowKit Go.Shelf
attribute [local go_sem] Oper.semAt_some

/-- A valid ring, and where it begins. -/
abbrev Pl := { x : Int × Rg // (0 ≤ x.1 ∧ x.1 ≤ 300000) ∧ ringB x.2 = true }
def encPl (x : Pl) : Array Value := #[.agg #[.int .i64 x.1.2.1, .int .i64 x.1.2.2.1, .int .i64 x.1.2.2.2, .int .i64 x.1.1]]
/-- What has come when k rounds are over. -/
def upto (f : Nat → Pl) (k : Nat) : List Pl := (List.range k).map f
theorem upto_succ (f : Nat → Pl) (k : Nat) : upto f (k + 1) = upto f k ++ [f k] := by simp [upto, List.range_succ]
theorem upto_length (f : Nat → Pl) (k : Nat) : (upto f k).length = k := by simp [upto]
theorem heights_up {rs : List Rg} (h : ∀ i, i < rs.length → ringB (rs.getD i zR) = true) (j d : Nat) (hj : j + d ≤ rs.length) : heights (rs.take j) ≤ heights (rs.take (j + d)) := by
  induction d with
  | zero => simp
  | succ d ih =>
    have h1 := ih (by omega)
    have h2 := heights_next rs (j + d) (by omega)
    have h3 := (ring_iff.1 (h (j + d) (by omega))).2.2.1
    rw [show j + (d + 1) = j + d + 1 by omega, h2]
    omega
theorem heights_le {s : ByteArray} {rs : List Rg} (h : profB s rs = true) (j : Nat) (hj : j ≤ rs.length) : 0 ≤ heights (rs.take j) ∧ heights (rs.take j) ≤ 300000 := by
  obtain ⟨-, ⟨-, n2⟩, -, n3⟩ := prof_iff.1 h
  have hb := heights_bd (fun i hi => prof_ring h i hi) j hj
  have hu := heights_up (fun i hi => prof_ring h i hi) j (rs.length - j) (by omega)
  rw [show j + (rs.length - j) = rs.length by omega, List.take_length] at hu
  omega
theorem pl_ex (s : ByteArray) (rs : List Rg) (h : profB s rs = true) : ∃ f : Nat → Pl, ∀ j, j < rs.length → (f j).1 = (heights (rs.take j), rs.getD j zR) := by
  have hz : ∀ j, j < rs.length → (0 ≤ heights (rs.take j) ∧ heights (rs.take j) ≤ 300000) ∧ ringB (rs.getD j zR) = true := fun j hj => ⟨heights_le h j (by omega), prof_ring h j hj⟩
  refine ⟨fun j => if hj : j < rs.length then ⟨(heights (rs.take j), rs.getD j zR), hz j hj⟩ else ⟨(0, (500, 0, 10)), by decide⟩, fun j hj => ?_⟩
  simp [hj]
/-- All cells lie as they lay, but those of the blocks in X. -/
def KeepCells (X : Nat → Prop) (W W' : World) : Prop := W.heap.size ≤ W'.heap.size ∧ ∀ k o, W.heap[k]? = some o → o.isCells = true → ¬ X k → W'.heap[k]? = some o
theorem kc_refl (X : Nat → Prop) (W : World) : KeepCells X W W := ⟨Nat.le_refl _, fun _ _ h _ _ => h⟩
theorem kc_trans {X : Nat → Prop} {A B C : World} (h : KeepCells X A B) (k : KeepCells X B C) : KeepCells X A C := ⟨Nat.le_trans h.1 k.1, fun b o hb ho hx => k.2 b o (h.2 b o hb ho hx) ho hx⟩
theorem kc_below {X : Nat → Prop} {W W' : World} (h : Below W.heap.size W W') : KeepCells X W W' := ⟨h.size, fun k o hk _ _ => (h.block k (Array.getElem?_eq_some_iff.1 hk).1).trans hk⟩
theorem kc_put {X : Nat → Prop} (W : World) (l : Nat) (o o' : Obj) (hl : W.heap[l]? = some o) (ho : o.isCells = false) : KeepCells X W (W.putObj l o') := by
  refine ⟨by simp, fun k o2 hk hc _ => ?_⟩
  by_cases e : l = k
  · subst e; rw [hl] at hk; cases hk; rw [ho] at hc; cases hc
  · exact (World.putObj_heap_other (Ne.symm e)).trans hk
theorem kc_cell {X : Nat → Prop} {W W' : World} (h : KeepCells X W W') {b o : Nat} {v : Value} (hb : ¬ X b) (hc : W.cell? ⟨b, o, none⟩ = some v) : W'.cell? ⟨b, o, none⟩ = some v := by
  unfold World.cell? at hc ⊢
  cases hh : W.heap[b]? with
  | none => rw [hh] at hc; simp at hc
  | some ob =>
    have hoc : ob.isCells = true := by
      rw [hh] at hc
      cases ob <;> simp_all [Obj.isCells]
    rw [h.2 b ob hh hoc hb]
    rw [hh] at hc
    exact hc
theorem kc_set {X : Nat → Prop} (W : World) (b o : Nat) (v : Value) (hb : X b) : KeepCells X W (W.setCell ⟨b, o, none⟩ v) := by
  refine ⟨by simp, fun k ob hk _ hx => ?_⟩
  rw [Below.heap_setCell _ _ _ _ (by intro e; exact hx (by simp only at e; rw [e]; exact hb))]
  exact hk
set_option maxRecDepth 100000 in
set_option maxHeartbeats 2000000 in
theorem lip1_in (F : Fence) (n : Nat) (hF : F.fn 150) (hro : F.round = none) (hn : 1 ≤ n) (l Bs b off len cap : Nat) (X : Nat → Prop) (s : ByteArray) (rs : List Rg) (f : Nat → Pl) (hf : ∀ j, j < len → (f j).1 = (heights (rs.take j), rs.getD j zR)) (hlen : rs.length = len) (h32 : len ≤ 32) (hb : ¬ X b) (J Jx : List Pl → World → Prop)
    (hY : ∀ pre x W, J pre W → pre.length < len → YieldAt F (n - 1) Try.prog l (encPl x) W fun e W' =>
      (e = .returned (.bool true) ∧ J (pre ++ [x]) W' ∧ KeepCells X W W') ∨ (e = .returned (.bool false) ∧ Jx (pre ++ [x]) W'))
    (W : World) (hJ : AbidesFrom W.heap.size J) (hX : ∀ k, X k → k < W.heap.size) (hB0 : W.cell? ⟨Bs, 0, none⟩ = some (.string s)) (hB1 : W.cell? ⟨Bs, 1, none⟩ = some (.slice (some ⟨b, off, none⟩) len cap)) (hc : ∀ i, i < len → RingIn W b (off + i * 3) (rs.getD i zR)) (h0 : J [] W) :
    CallsIn F n Try.prog 150 #[.func (.yield l) #[] #[], .pointer (some ⟨Bs, 0, none⟩)] W fun e W' => (∃ v, e = .returned v) ∧
      ((∃ ys, ys = upto f len ∧ J ys W') ∨ (∃ pre, (∃ k, k ≤ len ∧ pre = upto f k) ∧ Jx pre W')) := by
  refine callsIn_of_wp Try.func150 rfl hF ?_ hro
  simp only [Try.ntmps150, List.size_toArray, List.length_cons, List.length_nil, Nat.reduceAdd, Nat.reduceSub, Array.replicate_succ, Array.replicate_zero, List.push_toArray, List.append_toArray, List.nil_append, List.cons_append]
  gi_wp2
  gi_loopw [3, 9] (fun a i wr => ∃ k : Nat, k ≤ len ∧ i = .int .i64 k ∧ a = .int .i64 (heights (rs.take k)) ∧ J (upto f k) wr ∧ KeepCells X W wr)
    (fun _ i _ => len - (intOf i).toNat)
  case atStart => exact ⟨0, Nat.zero_le _, rfl, rfl, h0, kc_refl _ _⟩
  case round =>
    obtain ⟨k, hk, rfl, rfl, hJs, hnx⟩ := hrel
    by_cases hlt : k < len
    · obtain ⟨e0, e1, e2⟩ := hc k hlt
      have hfk := hf k hlt
      have hx := heights_next rs k (by omega)
      obtain ⟨⟨⟨bg, x, y, z⟩, hv⟩, hq⟩ : ∃ q, f k = q := ⟨_, rfl⟩
      rw [hq] at hfk
      simp only at hfk
      rw [← (Prod.mk.inj hfk).2] at e0 e1 e2 hx
      rw [← (Prod.mk.inj hfk).1] at hx ⊢
      simp only at e0 e1 e2 hx
      have HX := Lib.hid hx
      have HU := Lib.hid (show upto f (k + 1) = upto f k ++ [⟨(bg, x, y, z), hv⟩] by rw [upto_succ, hq])
      have q0 : wr.cell? ⟨b, off + k * 3, none⟩ = some (.int .i64 x) := kc_cell hnx hb e0
      have q1 : wr.cell? ⟨b, off + k * 3 + 1, none⟩ = some (.int .i64 y) := kc_cell hnx hb e1
      have q2 : wr.cell? ⟨b, off + k * 3 + 2, none⟩ = some (.int .i64 z) := kc_cell hnx hb e2
      have z2 : (wr.alloc (.cells #[.int .i64 x, .int .i64 y, .int .i64 z] 135)).cell? ⟨wr.heap.size, 2, none⟩ = some (.int .i64 z) := by go_simp
      have hxr : ¬ X wr.heap.size := fun h => by have := hX _ h; have := hnx.1; omega
      have hJa : J (upto f k) (wr.alloc (.cells #[.int .i64 x, .int .i64 y, .int .i64 z] 135)) := hJ _ _ _ none hJs (World.grownBy_alloc wr _ none) (fun r e => by cases e)
      obtain ⟨⟨g0, g1⟩, hrb⟩ := hv
      have hz := (ring_iff.1 hrb).2.2
      simp only at g0 g1 hz
      have hw : IntKind.i64.wrap (bg + z) = bg + z := IntWalk.i64_in _ (by omega)
      obtain ⟨fn, tmps, assign, body, hy, hR⟩ := hY _ ⟨(bg, x, y, z), ⟨⟨g0, g1⟩, hrb⟩⟩ (wr.alloc (.cells #[.int .i64 x, .int .i64 y, .int .i64 z] 135)) hJa (by rw [upto_length]; exact hlt)
      dsimp only [encPl] at hy
      clear hx hfk hq e0 e1 e2 hz
      have hkm : (k : Int) < (len : Int) := by omega
      have hk0 : (0 : Int) ≤ (k : Int) := by omega
      gi_wp2
      refine hR.mono ?_
      rintro e W3 (⟨rfl, hJ3, hk3⟩ | ⟨rfl, hJx3⟩)
      · have y2 := kc_cell hk3 hxr z2
        gi_wp2
        go_roundw
        case rel => exact ⟨k + 1, by omega, by go_num, by rw [HX.out], by rw [HU.out]; exact hJ3, kc_trans (kc_trans hnx (kc_below (below_al _ _))) hk3⟩
        case measure => simp [intOf]; omega
      · gi_wp2
        refine bodyPost_ret (results_none rfl _ _ _) rfl ?_
        exact ⟨⟨_, rfl⟩, .inr ⟨_, ⟨k + 1, by omega, HU.out.symm⟩, hJx3⟩⟩
    · obtain rfl : k = len := by omega
      gi_wp2
      go_end0
      exact ⟨⟨_, rfl⟩, .inl ⟨_, rfl, hJs⟩⟩
theorem lip_stops (F : Fence) (n : Nat) (hF : F.fn 150) (hro : F.round = none) (hn : 1 ≤ n) (Bs b off len cap : Nat) (X : Nat → Prop) (s : ByteArray) (rs : List Rg) (f : Nat → Pl) (hf : ∀ j, j < len → (f j).1 = (heights (rs.take j), rs.getD j zR)) (hlen : rs.length = len) (h32 : len ≤ 32) (hb : ¬ X b) (w : World) (hBs : Bs < w.heap.size) (hbw : b < w.heap.size) (hX : ∀ k, X k → k < w.heap.size)
    (hB0 : w.cell? ⟨Bs, 0, none⟩ = some (.string s)) (hB1 : w.cell? ⟨Bs, 1, none⟩ = some (.slice (some ⟨b, off, none⟩) len cap)) (hc : ∀ i, i < len → RingIn w b (off + i * 3) (rs.getD i zR)) :
    SeqStopsK F n Try.prog 150 #[.pointer (some ⟨Bs, 0, none⟩)] encPl (KeepCells X) (fun ys => ys = upto f len) (fun _ => True) len w := fun l J Jx W hW hJ _ hY h0 => by
  have d0 := (hW.cell (p := ⟨Bs, 0, none⟩) hBs).trans hB0
  have d1 := (hW.cell (p := ⟨Bs, 1, none⟩) hBs).trans hB1
  refine (lip1_in F n hF hro hn l Bs b off len cap X s rs f hf hlen h32 hb J Jx hY W hJ (fun k hk => Nat.lt_of_lt_of_le (hX k hk) hW.size) d0 d1 (fun i hi => ?_) h0).mono ?_
  · obtain ⟨c0, c1, c2⟩ := hc i hi
    exact ⟨(hW.cell (p := ⟨b, _, none⟩) hbw).trans c0, (hW.cell (p := ⟨b, _, none⟩) hbw).trans c1, (hW.cell (p := ⟨b, _, none⟩) hbw).trans c2⟩
  · rintro e W' ⟨he, ⟨ys, hys, hj⟩ | ⟨pre, _, hj⟩⟩
    · exact ⟨he, .inl ⟨ys, hys, hj⟩⟩
    · exact ⟨he, .inr ⟨pre, trivial, hj⟩⟩
set_option maxHeartbeats 400000 in
theorem fromLip_any (s : ByteArray) (a : Option Addr) (n c : Nat) (w : World) :
    Calls Try.prog 104 #[.agg #[.string s, .slice a n c]] w fun e w' => e = .returned (.func (.func 150) #[] #[.pointer (some ⟨w.heap.size, 0, none⟩)]) ∧ w' = w.alloc (.cells #[.string s, .slice a n c] 48) := by
  go_enter Try.func104, Try.ntmps104
  go_wp2
  go_ret
  exact ⟨rfl, rfl⟩
end Go.Proofs.Ytndmakimkghihaa
