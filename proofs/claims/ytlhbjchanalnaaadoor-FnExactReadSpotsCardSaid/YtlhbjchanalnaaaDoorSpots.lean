/- Slices of Spot: an argument opened; measured, copied, compared; marks laid into them and looked for again. -/
import Derived.Test.YtlhbjchanalnaaaDoorInts
import Derived.Test.YtlhbjchanalnaaaDoorBase
import Derived.Deep.Slices
import Derived.Deep.Strs
import Derived.Lib.SmallJoins
import Derived.Deep.RegionWith
import Derived.BigRegion
namespace Go.Proofs.YtlhbjchanalnaaaDoor
open Go.ChangeShapes Go.WideShapes Go.ChangeAt Go.RowKit Go.Deep

abbrev Qt := Int × Int
def zQ : Qt := (0, 0)
/-- The cells, one element after the other. -/
def flatQ : List Qt → List Int
  | [] => []
  | r :: rs => r.1 :: r.2 :: flatQ rs
theorem flatQ_len (rs : List Qt) : (flatQ rs).length = rs.length * 2 := by
  induction rs with
  | nil => rfl
  | cons r rs ih => simp [flatQ, ih]; omega
theorem flatQ_get (rs : List Qt) (j : Nat) (h : j < rs.length) : (flatQ rs)[j * 2]? = some (rs.getD j zQ).1 ∧ (flatQ rs)[j * 2 + 1]? = some (rs.getD j zQ).2 := by
  induction rs generalizing j with
  | nil => simp at h
  | cons r rs ih =>
    match j with
    | 0 => simp [flatQ]
    | j + 1 =>
      have := ih j (by simpa using h)
      have e : (j + 1) * 2 = j * 2 + 2 := by omega
      rw [e]
      simpa [flatQ] using this
/-- Block b holds the element r from o on. -/
structure QIn (w : World) (b o : Nat) (r : Qt) : Prop where
  c0 : w.cell? ⟨b, o, none⟩ = some (.int .i64 r.1)
  c1 : w.cell? ⟨b, o + 1, none⟩ = some (.int .i64 r.2)
/-- The slice v reads as rs. -/
def SpotsAt (w : World) (v : Value) (rs : List Qt) : Prop :=
  rs.length ≤ 1048576 ∧ ((∃ a c, v = .slice a 0 c ∧ rs = []) ∨ ∃ b off cap, v = .slice (some ⟨b, off, none⟩) rs.length cap ∧ b < w.heap.size ∧ ∀ j, j < rs.length * 2 → w.cell? ⟨b, off + j, none⟩ = some (.int .i64 ((flatQ rs).getD j 0)))
/-- .. in a block of its own, from B on, that may be written. -/
def OwnSpots (w : World) (B : Nat) (v : Value) (rs : List Qt) : Prop := ∃ g cap, v = .slice (some ⟨g, 0, none⟩) rs.length cap ∧ B ≤ g ∧ g < w.heap.size ∧ w.ownsRow B 33 2 v rs.length (i64s (flatQ rs))
theorem spots_kept {w w' : World} {v : Value} {rs : List Qt} (hb : Below w.heap.size w w') (h : SpotsAt w v rs) : SpotsAt w' v rs := by
  obtain ⟨hl, h | ⟨b, off, cap, rfl, hlt, hc⟩⟩ := h
  · exact ⟨hl, .inl h⟩
  · exact ⟨hl, .inr ⟨b, off, cap, rfl, by have := hb.size; omega, fun j hj => by rw [hb.cell (p := ⟨b, off + j, none⟩) hlt]; exact hc j hj⟩⟩
theorem own_spots {w : World} {B : Nat} {v : Value} {rs : List Qt} (hl : rs.length ≤ 1048576) (h : OwnSpots w B v rs) : SpotsAt w v rs := by
  obtain ⟨g, cap, rfl, _, hg, hown⟩ := h
  refine ⟨hl, .inr ⟨g, 0, cap, rfl, hg, fun j hj => ?_⟩⟩
  rw [Nat.zero_add, hown.cellAt j (by omega)]
  exact i64s_get _ j (by rw [flatQ_len]; omega)
theorem spots_form {w : World} {v : Value} {zs : List Qt} (h : SpotsAt w v zs) : ∃ a c, v = .slice a zs.length c := by
  obtain ⟨_, ⟨a, c, rfl, rfl⟩ | ⟨b, off, cap, rfl, _⟩⟩ := h
  · exact ⟨_, _, rfl⟩
  · exact ⟨_, _, rfl⟩
theorem spots_in {w : World} {b off : Nat} {rs : List Qt} (hc : ∀ j, j < rs.length * 2 → w.cell? ⟨b, off + j, none⟩ = some (.int .i64 ((flatQ rs).getD j 0))) (i : Nat) (hi : i < rs.length) : QIn w b (off + i * 2) (rs.getD i zQ) := by
  obtain ⟨g0, g1⟩ := flatQ_get rs i hi
  exact ⟨by rw [show off + i * 2 = off + (i * 2) from by omega, hc _ (by omega), List.getD_eq_getElem?_getD, g0, Option.getD_some], by rw [show off + i * 2 + 1 = off + (i * 2 + 1) from by omega, hc _ (by omega), List.getD_eq_getElem?_getD, g1, Option.getD_some]⟩
theorem spots_cells {w : World} {v : Value} {rs : List Qt} (h : SpotsAt w v rs) (h0 : 0 < rs.length) : ∃ b off cap, v = .slice (some ⟨b, off, none⟩) rs.length cap ∧ b < w.heap.size ∧ ∀ i, i < rs.length → QIn w b (off + i * 2) (rs.getD i zQ) := by
  obtain ⟨_, ⟨a, c, _, rfl⟩ | ⟨b, off, cap, rfl, hb, hc⟩⟩ := h
  · simp at h0
  · exact ⟨b, off, cap, rfl, hb, spots_in hc⟩
theorem spots_keep {w w' : World} {b o : Nat} {r : Qt} (hb : Below w.heap.size w w') (hl : b < w.heap.size) (h : QIn w b o r) : QIn w' b o r := ⟨(below_cell hb _ _ hl).trans h.c0, (below_cell hb _ _ hl).trans h.c1⟩
theorem infoQ : (Tryd.prog.info? 33).map (fun i => (i.zero, i.size, i.bytes)) = some (some (.agg #[.int .i64 0, .int .i64 0]), 2, 16) := by kernel_rfl
theorem flatQ_append (a b : List Qt) : flatQ (a ++ b) = flatQ a ++ flatQ b := by
  induction a with
  | nil => rfl
  | cons r a ih => simp [flatQ, ih]
theorem flatQ_set (rs : List Qt) (j : Nat) (r : Qt) : ((flatQ rs).set (j * 2) r.1).set (j * 2 + 1) r.2 = flatQ (rs.set j r) := by
  induction rs generalizing j with
  | nil => rfl
  | cons q rs ih =>
    match j with
    | 0 => simp [flatQ]
    | j + 1 =>
      have e : (j + 1) * 2 = j * 2 + 2 := by omega
      have := ih j
      rw [e]
      simpa [flatQ] using this
theorem i64s_setQ (zs : List Int) (j : Nat) (z : Int) : (i64s zs).set j (.int .i64 z) = i64s (zs.set j z) := by simp [i64s, List.map_set]
def copiedQ (rs : List Qt) (k : Nat) : List Qt := rs.take k ++ List.replicate (rs.length - k) zQ
theorem copiedQ_len (rs : List Qt) (k : Nat) (h : k ≤ rs.length) : (copiedQ rs k).length = rs.length := by simp [copiedQ]; omega
theorem copiedQ_next (rs : List Qt) (k : Nat) (h : k < rs.length) : (copiedQ rs k).set k (rs.getD k zQ) = copiedQ rs (k + 1) := by
  unfold copiedQ
  rw [show rs.length - k = rs.length - (k + 1) + 1 from by omega, List.replicate_succ, List.set_append_right _ _ (by simp; omega), List.length_take,
    Nat.min_eq_left (by omega), Nat.sub_self, List.set_cons_zero, List.take_succ_eq_append_getElem h]
  simp only [List.append_assoc, List.singleton_append, List.getD_eq_getElem?_getD, List.getElem?_eq_getElem h, Option.getD_some]
theorem copiedQ_all (rs : List Qt) : copiedQ rs rs.length = rs := by simp [copiedQ]
theorem flatQ_zeros (n : Nat) : flatQ (List.replicate n zQ) = List.replicate (n * 2) 0 := by
  induction n with
  | zero => rfl
  | succ n ih => rw [List.replicate_succ, flatQ, ih, show (n + 1) * 2 = n * 2 + 1 + 1 from by omega, List.replicate_succ, List.replicate_succ]; rfl
theorem made_spots (n : Nat) : (madeCells (Value.agg #[.int .i64 0, .int .i64 0]).cells (n * 2)).toList = i64s (flatQ (List.replicate n zQ)) := by
  rw [flatQ_zeros]
  unfold madeCells i64s
  rw [List.map_replicate]
  apply List.ext_getElem?
  intro j
  have h3 : j % 2 = 0 ∨ j % 2 = 1 := by omega
  by_cases h : j < n * 2
  · rcases h3 with h3 | h3 <;> simp [h, Value.cells, h3]
  · simp [h]
theorem results_cellQ {P : Program} {fn : Func} {p : Tmp} {ty : TypeId} (h : fn.results = #[.cell p ty]) (tmps : Array Value) (w : World) :
    (results fn tmps).run P w = ((asAddr (tmps.getD p undef)).run P w).andThen fun a w1 => (loadVar ty a).run P w1 := by
  simp only [results, h]
  simp [Sem.run_bind, Result.andThen]
set_option maxHeartbeats 1000000 in
theorem eqSpot_any (x y : Int) (w : World) : Calls Tryd.prog 15 #[.agg #[.int .i64 x, .int .i64 y], .agg #[.int .i64 x, .int .i64 y]] w fun e w' => e = .returned (.bool true) ∧ Below w.heap.size w w' := by
  have hx : (x != x) = false := by simp
  have hy : (y != y) = false := by simp
  go_enter Tryd.func15, Tryd.ntmps15
  go_wp2
  go_ret
  exact ⟨rfl, ((Below.refl _ _).alloc (Nat.le_refl _) _).alloc (by simp) _⟩
theorem row_keepQ {w w' : World} {B sz : Nat} {e : TypeId} {v : Value} {n : Nat} {xs : List Value} (hb : Below w.heap.size w w') (h : w.ownsRow B e sz v n xs) : w'.ownsRow B e sz v n xs :=
  h.kept (row := none) ⟨hb.os, hb.tape, hb.output, hb.size, fun k hk _ => hb.block k hk⟩ (by cases hv : v.ownBlock <;> simp)
theorem storeQ {w : World} {B g n cap : Nat} {rs : List Qt} (h : w.ownsRow B 33 2 (.slice (some ⟨g, 0, none⟩) n cap) n (i64s (flatQ rs))) (j : Nat) (r : Qt) :
    ((w.setCell ⟨g, j * 2, none⟩ (.int .i64 r.1)).setCell ⟨g, j * 2 + 1, none⟩ (.int .i64 r.2)).ownsRow B 33 2 (.slice (some ⟨g, 0, none⟩) n cap) n (i64s (flatQ (rs.set j r))) := by
  have h1 := (h.stored (j * 2) (.int .i64 r.1)).1
  have h2 := (h1.stored (j * 2 + 1) (.int .i64 r.2)).1
  rw [i64s_setQ, i64s_setQ, flatQ_set] at h2
  exact h2
theorem own_inQ {w : World} {B g n cap : Nat} {T : TypeId} {rs : List Qt} (hn : rs.length = n) (h : w.ownsRow B T 2 (.slice (some ⟨g, 0, none⟩) n cap) n (i64s (flatQ rs))) (i : Nat) (hi : i < n) : QIn w g (i * 2) (rs.getD i zQ) := by
  have hr := spots_in (w := w) (b := g) (off := 0) (rs := rs) (fun j hj => by
    rw [Nat.zero_add, h.cellAt j (by omega)]
    exact i64s_get _ j (by rw [flatQ_len]; omega)) i (by omega)
  rw [Nat.zero_add] at hr
  exact hr
theorem gb_reflQ (w : World) (row : Option Nat) : w.grownBy w row := ⟨rfl, rfl, rfl, Nat.le_refl _, fun _ _ _ => rfl⟩
theorem gb_setQ {w wr : World} {g : Nat} (k : Nat) (u : Value) (h : w.grownBy wr (some g)) : w.grownBy (wr.setCell ⟨g, k, none⟩ u) (some g) :=
  ⟨h.os, h.tape, h.output, by simpa using h.size, fun b hb hne => (Below.heap_setCell _ _ _ _ (by intro e; exact hne (by simp only at e; rw [e]))).trans (h.block b hb hne)⟩
set_option maxHeartbeats 1000000 in
theorem eqSpots_some (rs : List Qt) (b o c b2 o2 c2 : Nat) (w : World) (n : Nat) (hn1 : n ≤ 1048576) (hb : b < w.heap.size) (hb2 : b2 < w.heap.size)
    (h1 : ∀ i, i < n → QIn w b (o + i * 2) (rs.getD i zQ)) (h2 : ∀ i, i < n → QIn w b2 (o2 + i * 2) (rs.getD i zQ)) :
    Calls Tryd.prog 6 #[.slice (some ⟨b, o, none⟩) n c, .slice (some ⟨b2, o2, none⟩) n c2] w fun e w' => e = .returned (.bool true) ∧ Below w.heap.size w w' := by
  have H1 := Lib.hid h1
  have H2 := Lib.hid h2
  clear h1 h2
  have hne : ((n : Int) != n) = false := by simp
  go_enter Tryd.func6, Tryd.ntmps6
  go_wp2
  go_loopw [5] (fun i wr => ∃ k : Nat, k ≤ n ∧ i = .int .i64 k ∧ Below w.heap.size w wr) (fun i _ => n - (intOf i).toNat)
  case atStart => exact ⟨0, by omega, rfl, Below.refl _ _⟩
  case round =>
    obtain ⟨k, hk, rfl, hbw⟩ := hrel
    have HB := Lib.hid hbw
    clear hbw
    by_cases hlt : k < n
    · obtain ⟨c0, c1⟩ := H1.out k hlt
      obtain ⟨d0, d1⟩ := H2.out k hlt
      rw [← HB.out.cell (p := ⟨b, _, none⟩) hb] at c0 c1
      rw [← HB.out.cell (p := ⟨b2, _, none⟩) hb2] at d0 d1
      generalize rs.getD k zQ = r at *
      obtain ⟨x, y⟩ := r
      have e0 : wr.cell? ⟨b, o + k * 2, none⟩ = some (.int .i64 x) := c0
      have g0 : wr.cell? ⟨b2, o2 + k * 2, none⟩ = some (.int .i64 x) := d0
      have e1 : wr.cell? ⟨b, o + k * 2 + 1, none⟩ = some (.int .i64 y) := c1
      have g1 : wr.cell? ⟨b2, o2 + k * 2 + 1, none⟩ = some (.int .i64 y) := d1
      clear c0 c1 d0 d1
      have hlt1 : (k : Int) < (n : Int) := by omega
      have hk0 : (0 : Int) ≤ (k : Int) := by omega
      go_wp2
      go_region_with (go_at_call 15; refine (eqSpot_any x y _).mono ?_; rintro e w2 ⟨rfl, hb5⟩)
      all_goals
        have HB5 := Lib.hid (HB.out.trans ((show Below wr.heap.size wr w2 from ⟨hb5.os, hb5.tape, hb5.output, hb5.size, hb5.block⟩).mono HB.out.size))
        clear hb5
        go_wp2
        go_roundw
        case rel => exact ⟨k + 1, by omega, by go_num, HB5.out⟩
        case measure => simp [intOf]; omega
    · go_wp2
      go_ret
      exact ⟨rfl, HB.out⟩
theorem eqSpots_zero (a a2 : Option Addr) (c c2 : Nat) (w : World) :
    Calls Tryd.prog 6 #[.slice a 0 c, .slice a2 0 c2] w fun e w' => e = .returned (.bool true) ∧ Below w.heap.size w w' := by
  go_enter Tryd.func6, Tryd.ntmps6
  go_wp2
  refine wp_loop_rounds 1 ?_
  rw [rounds_succ]
  go_wp2
  go_ret
  exact ⟨rfl, Below.refl _ _⟩
theorem eqSpots_at (zs : List Qt) (v1 v2 : Value) (w : World) (h1 : SpotsAt w v1 zs) (h2 : SpotsAt w v2 zs) :
    Calls Tryd.prog 6 #[v1, v2] w fun e w' => e = .returned (.bool true) ∧ Below w.heap.size w w' := by
  obtain ⟨hl, ⟨a, c, rfl, rfl⟩ | ⟨b, off, cap, rfl, hb, hc⟩⟩ := h1
  · obtain ⟨a2, c2, rfl⟩ := spots_form h2
    exact eqSpots_zero a a2 c c2 w
  · obtain ⟨_, ⟨a, c, rfl, rfl⟩ | ⟨b2, off2, cap2, rfl, hb2, hc2⟩⟩ := h2
    · exact eqSpots_zero _ _ _ _ w
    · exact eqSpots_some zs b off cap b2 off2 cap2 w _ hl hb hb2 (spots_in hc) (spots_in hc2)
/-- A row from B on, or none. -/
def Qv (w : World) (B : Nat) (v : Value) (zs : List Qt) : Prop :=
  (v = .slice none 0 0 ∧ zs = []) ∨ ∃ g cap, v = .slice (some ⟨g, 0, none⟩) zs.length cap ∧ B ≤ g ∧ w.ownsRow B 33 2 (.slice (some ⟨g, 0, none⟩) zs.length cap) zs.length (i64s (flatQ zs))
theorem qv_kept {w w' : World} {B : Nat} {v : Value} {zs : List Qt} (hb : Below w.heap.size w w') (h : Qv w B v zs) : Qv w' B v zs := by
  rcases h with h | ⟨g, cap, h1, h2, h4⟩
  · exact .inl h
  · exact .inr ⟨g, cap, h1, h2, row_keepQ hb h4⟩
theorem qv_base {w : World} {B B' : Nat} {v : Value} {zs : List Qt} (h : Qv w B v zs) (hB : B' ≤ B) : Qv w B' v zs := by
  rcases h with h | ⟨g, cap, h1, h2, h4⟩
  · exact .inl h
  · refine .inr ⟨g, cap, h1, by omega, h4.1, ?_⟩
    rcases h4.2 with h | ⟨g', cap', cur, e, hb, rest⟩
    · exact .inl h
    · exact .inr ⟨g', cap', cur, e, by omega, rest⟩
theorem qv_at {w : World} {B : Nat} {v : Value} {zs : List Qt} (hl : zs.length ≤ 1048576) (h : Qv w B v zs) : SpotsAt w v zs := by
  rcases h with ⟨rfl, rfl⟩ | ⟨g, cap, rfl, h2, h4⟩
  · exact ⟨by simp, .inl ⟨_, _, rfl, rfl⟩⟩
  · refine ⟨hl, .inr ⟨g, 0, cap, rfl, (h4.lt g rfl).2, fun j hj => ?_⟩⟩
    rw [Nat.zero_add, h4.cellAt j (by omega)]
    exact i64s_get _ j (by rw [flatQ_len]; omega)
theorem qv_form {w : World} {B : Nat} {v : Value} {zs : List Qt} (h : Qv w B v zs) : ∃ a c, v = .slice a zs.length c := by
  rcases h with ⟨rfl, rfl⟩ | ⟨g, cap, rfl, _⟩
  · exact ⟨_, _, rfl⟩
  · exact ⟨_, _, rfl⟩
theorem qv_own {w : World} {B : Nat} {v : Value} {zs : List Qt} (h : OwnSpots w B v zs) : Qv w B v zs := by
  obtain ⟨g, cap, rfl, h1, h2, h3⟩ := h
  exact .inr ⟨g, cap, rfl, h1, h3⟩
theorem qv_in {w : World} {B : Nat} {v : Value} {zs : List Qt} (h : Qv w B v zs) : ∀ k, v.ownBlock = some k → B ≤ k ∧ k < w.heap.size := by
  intro k hk
  rcases h with ⟨rfl, _⟩ | ⟨g, cap, rfl, h2, h4⟩
  · simp [Value.ownBlock] at hk
  · simp only [Value.ownBlock, Option.some.injEq] at hk
    subst hk
    exact ⟨h2, (h4.lt g rfl).2⟩
theorem qv_grown {w w' : World} {B : Nat} {v : Value} {zs : List Qt} {row : Option Nat} (hg : w.grownBy w' row) (h : Qv w B v zs) (hne : v.ownBlock = none ∨ v.ownBlock ≠ row) : Qv w' B v zs := by
  rcases h with h | ⟨g, cap, rfl, h2, h4⟩
  · exact .inl h
  · exact .inr ⟨g, cap, rfl, h2, h4.kept hg hne⟩
theorem qv_of_row {w : World} {B : Nat} {v : Value} {zs : List Qt} (h : w.ownsRow B 33 2 v zs.length (i64s (flatQ zs))) : Qv w B v zs := by
  rcases h.2 with ⟨e, h0⟩ | ⟨g', cap', cur, e, hb, _⟩
  · exact .inl ⟨e, List.length_eq_zero_iff.1 h0⟩
  · subst e; exact .inr ⟨g', cap', rfl, hb, h⟩
/-- The answer: a row of the call's own and a code. -/
def QU (R : List Qt) (c : Int) (w : World) (e : Ending) (w' : World) : Prop := ∃ v, e = .returned (.tuple #[v, .int .i64 c]) ∧ Qv w' w.heap.size v R ∧ Below w.heap.size w w'
def markQ (m : Int) (j : Nat) : Qt := (m + 2 * (j : Int), m + 2 * (j : Int) + 1)
def marksQTo (rs : List Qt) (m : Int) (k : Nat) : List Qt := (List.range k).map (markQ m) ++ rs.drop k
def marksQ (m : Int) (n : Nat) : List Qt := (List.range n).map (markQ m)
theorem marksQ_len (m : Int) (n : Nat) : (marksQ m n).length = n := by simp [marksQ]
theorem marksQTo_len (rs : List Qt) (m : Int) (k : Nat) (h : k ≤ rs.length) : (marksQTo rs m k).length = rs.length := by simp [marksQTo]; omega
theorem marksQ_get (m : Int) (n j : Nat) (h : j < n) : (marksQ m n).getD j zQ = markQ m j := by simp [marksQ, List.getD, h]
theorem marksQ_next (rs : List Qt) (m : Int) (k : Nat) (h : k < rs.length) : (marksQTo rs m k).set k (markQ m k) = marksQTo rs m (k + 1) := by
  unfold marksQTo
  rw [List.drop_eq_getElem_cons h, List.range_succ, List.map_append, List.set_append_right _ _ (by simp), List.length_map, List.length_range, Nat.sub_self, List.set_cons_zero, List.append_assoc]
  rfl
set_option maxHeartbeats 1000000 in
theorem markQ_some (rs : List Qt) (m : Int) (B g cap n : Nat) (w : World) (hm : 0 ≤ m ∧ m ≤ 1000000000000) (hn : Hid (rs.length = n)) (hn1 : n ≤ 1048576) (hown : w.ownsRow B 33 2 (.slice (some ⟨g, 0, none⟩) n cap) n (i64s (flatQ rs))) :
    Calls Tryd.prog 7 #[.slice (some ⟨g, 0, none⟩) n cap, .int .i64 m] w fun e w' => e = .returned (.int .i64 (m + 2 * n)) ∧ w'.ownsRow B 33 2 (.slice (some ⟨g, 0, none⟩) n cap) n (i64s (flatQ (marksQ m n))) ∧ w.grownBy w' (some g) := by
  have HO0 := Lib.hid hown
  clear hown
  go_enter Tryd.func7, Tryd.ntmps7
  go_wp2
  go_loopw [1, 5] (fun v i wr => ∃ k : Nat, k ≤ n ∧ i = .int .i64 k ∧ v = .int .i64 (m + 2 * k) ∧ wr.ownsRow B 33 2 (.slice (some ⟨g, 0, none⟩) n cap) n (i64s (flatQ (marksQTo rs m k))) ∧ w.grownBy wr (some g)) (fun _ i _ => n - (intOf i).toNat)
  case atStart => exact ⟨0, by omega, rfl, by congr 1; omega, HO0.out, gb_reflQ _ _⟩
  case round =>
    obtain ⟨k, hk, rfl, rfl, hown, hbw⟩ := hrel
    have HO := Lib.hid hown
    have HB := Lib.hid hbw
    by_cases hlt : k < n
    · have HN := Lib.hid (marksQ_next rs m k (by rw [hn.out]; exact hlt))
      have HL := Lib.hid (show (marksQTo rs m k).length = n by rw [marksQTo_len _ _ _ (by rw [hn.out]; omega), hn.out])
      generalize marksQTo rs m k = cs at *
      obtain ⟨d0, d1⟩ := own_inQ HL.out HO.out k hlt
      generalize cs.getD k zQ = old at *
      have f0 := HO.out.frozenAt (k * 2)
      have f1 := HO.out.frozenAt (k * 2 + 1)
      have HS := Lib.hid (storeQ HO.out k (markQ m k))
      have hkn : (k : Int) < (n : Int) := by omega
      have hk0 : (0 : Int) ≤ (k : Int) := by omega
      clear hown hbw
      go_wp2
      go_roundw
      case rel => exact ⟨k + 1, by omega, by go_num, by congr 1; omega, by rw [← HN.out]; exact HS.out, gb_setQ _ _ (gb_setQ _ _ (HB.out))⟩
      case measure => simp [intOf]; omega
    · obtain rfl : k = n := by omega
      clear hown hbw
      have he : marksQTo rs m k = marksQ m k := by unfold marksQTo marksQ; rw [List.drop_of_length_le (by rw [hn.out]; exact Nat.le_refl _)]; simp
      rw [he] at HO
      clear he
      go_wp2
      go_ret
      exact ⟨rfl, HO.out, HB.out⟩
theorem markQ_none (m : Int) (w : World) (a : Option Addr) (c : Nat) :
    Calls Tryd.prog 7 #[.slice a 0 c, .int .i64 m] w fun e w' => e = .returned (.int .i64 m) ∧ w = w' := by
  go_enter Tryd.func7, Tryd.ntmps7
  go_wp2
  refine wp_loop_rounds 1 ?_
  rw [rounds_succ]
  go_wp2
  go_ret
  exact ⟨rfl, rfl⟩
theorem markQv_any (m : Int) (hm : 0 ≤ m ∧ m ≤ 1000000000000) (v : Value) (zs : List Qt) (B : Nat) (w : World) (hl : zs.length ≤ 1048576) (h : Qv w B v zs) :
    Calls Tryd.prog 7 #[v, .int .i64 m] w fun e w' => e = .returned (.int .i64 (m + 2 * zs.length)) ∧ Qv w' B v (marksQ m zs.length) ∧ w.grownBy w' v.ownBlock := by
  rcases h with ⟨rfl, rfl⟩ | ⟨g, cap, rfl, h2, h4⟩
  · refine (markQ_none m w none 0).mono ?_
    rintro e w' ⟨rfl, rfl⟩
    exact ⟨by simp, .inl ⟨rfl, rfl⟩, gb_reflQ _ _⟩
  · obtain ⟨n, hn⟩ : ∃ n, zs.length = n := ⟨_, rfl⟩
    rw [hn] at h4 hl ⊢
    refine (markQ_some zs m B g cap n w hm (Lib.hid hn) (by omega) h4).mono ?_
    rintro e w' ⟨rfl, h5, h6⟩
    exact ⟨rfl, .inr ⟨g, cap, by rw [marksQ_len], h2, by rw [marksQ_len]; exact h5⟩, h6⟩
set_option maxHeartbeats 1000000 in
theorem heldQ_some (m : Int) (B g cap n : Nat) (w : World) (hm : 0 ≤ m ∧ m ≤ 1000000000000) (hn1 : n ≤ 1048576) (hown : w.ownsRow B 33 2 (.slice (some ⟨g, 0, none⟩) n cap) n (i64s (flatQ (marksQ m n)))) :
    Calls Tryd.prog 8 #[.slice (some ⟨g, 0, none⟩) n cap, .int .i64 m] w fun e w' => e = .returned (.int .i64 (m + 2 * n)) ∧ w = w' := by
  have HO := Lib.hid hown
  clear hown
  go_enter Tryd.func8, Tryd.ntmps8
  go_wp2
  go_loop [1, 5] (fun v i => ∃ k : Nat, k ≤ n ∧ i = .int .i64 k ∧ v = .int .i64 (m + 2 * k)) (fun _ i => n - (intOf i).toNat)
  case atStart => exact ⟨0, by omega, rfl, by congr 1; omega⟩
  case round =>
    obtain ⟨k, hk, rfl, rfl⟩ := hrel
    by_cases hlt : k < n
    · obtain ⟨d0, d1⟩ := own_inQ (marksQ_len m n) HO.out k hlt
      rw [marksQ_get m n k hlt] at d0 d1
      have e0 : w.cell? ⟨g, k * 2, none⟩ = some (.int .i64 (m + 2 * k)) := d0
      have hz0 : ((m + 2 * (k : Int)) != (m + 2 * (k : Int))) = false := by simp
      have e1 : w.cell? ⟨g, k * 2 + 1, none⟩ = some (.int .i64 (m + 2 * k + 1)) := d1
      have hz1 : ((m + 2 * (k : Int) + 1) != (m + 2 * (k : Int) + 1)) = false := by simp
      have hkn : (k : Int) < (n : Int) := by omega
      have hk0 : (0 : Int) ≤ (k : Int) := by omega
      clear d0 d1
      go_wp2
      go_round
      case rel => exact ⟨k + 1, by omega, by go_num, by congr 1; omega⟩
      case measure => simp [intOf]; omega
    · obtain rfl : k = n := by omega
      go_wp2
      go_ret
      exact ⟨rfl, rfl⟩
theorem heldQ_none (m : Int) (w : World) (a : Option Addr) (c : Nat) :
    Calls Tryd.prog 8 #[.slice a 0 c, .int .i64 m] w fun e w' => e = .returned (.int .i64 m) ∧ w = w' := by
  go_enter Tryd.func8, Tryd.ntmps8
  go_wp2
  refine wp_loop_rounds 1 ?_
  rw [rounds_succ]
  go_wp2
  go_ret
  exact ⟨rfl, rfl⟩
theorem heldQv_any (m : Int) (hm : 0 ≤ m ∧ m ≤ 1000000000000) (v : Value) (n : Nat) (B : Nat) (w : World) (hl : n ≤ 1048576) (h : Qv w B v (marksQ m n)) :
    Calls Tryd.prog 8 #[v, .int .i64 m] w fun e w' => e = .returned (.int .i64 (m + 2 * n)) ∧ w = w' := by
  rcases h with ⟨rfl, h1⟩ | ⟨g, cap, rfl, h2, h4⟩
  · have hn : n = 0 := by have := marksQ_len m n; rw [h1] at this; simpa using this.symm
    subst hn
    refine (heldQ_none m w none 0).mono ?_
    rintro e w' ⟨rfl, rfl⟩
    exact ⟨by simp, rfl⟩
  · rw [marksQ_len] at h4 ⊢
    exact heldQ_some m B g cap n w hm (by omega) h4
end Go.Proofs.YtlhbjchanalnaaaDoor
