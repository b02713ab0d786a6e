/- Slices of Cut: an argument opened; measured, copied, compared; marks laid into them and looked for again. -/
import Derived.Test.YtikoehjalcljnaaDoorInts
import Derived.Test.YtikoehjalcljnaaDoorBase
import Derived.Deep.Slices
import Derived.Deep.Strs
import Derived.Lib.SmallJoins
import Derived.Deep.RegionWith
import Derived.BigRegion
namespace Go.Proofs.YtikoehjalcljnaaDoor
open Go.ChangeShapes Go.WideShapes Go.ChangeAt Go.RowKit Go.Deep

abbrev Ct := Int × Int
def zC : Ct := (0, 0)
/-- The cells, one element after the other. -/
def flatC : List Ct → List Int
  | [] => []
  | r :: rs => r.1 :: r.2 :: flatC rs
theorem flatC_len (rs : List Ct) : (flatC rs).length = rs.length * 2 := by
  induction rs with
  | nil => rfl
  | cons r rs ih => simp [flatC, ih]; omega
theorem flatC_get (rs : List Ct) (j : Nat) (h : j < rs.length) : (flatC rs)[j * 2]? = some (rs.getD j zC).1 ∧ (flatC rs)[j * 2 + 1]? = some (rs.getD j zC).2 := by
  induction rs generalizing j with
  | nil => simp at h
  | cons r rs ih =>
    match j with
    | 0 => simp [flatC]
    | j + 1 =>
      have := ih j (by simpa using h)
      have e : (j + 1) * 2 = j * 2 + 2 := by omega
      rw [e]
      simpa [flatC] using this
/-- Block b holds the element r from o on. -/
structure CIn (w : World) (b o : Nat) (r : Ct) : Prop where
  c0 : w.cell? ⟨b, o, none⟩ = some (.int .i64 r.1)
  c1 : w.cell? ⟨b, o + 1, none⟩ = some (.int .i64 r.2)
/-- The slice v reads as rs. -/
def CutsAt (w : World) (v : Value) (rs : List Ct) : Prop :=
  rs.length ≤ 1048576 ∧ ((∃ a c, v = .slice a 0 c ∧ rs = []) ∨ ∃ b off cap, v = .slice (some ⟨b, off, none⟩) rs.length cap ∧ b < w.heap.size ∧ ∀ j, j < rs.length * 2 → w.cell? ⟨b, off + j, none⟩ = some (.int .i64 ((flatC rs).getD j 0)))
/-- .. in a block of its own, from B on, that may be written. -/
def OwnCuts (w : World) (B : Nat) (v : Value) (rs : List Ct) : Prop := ∃ g cap, v = .slice (some ⟨g, 0, none⟩) rs.length cap ∧ B ≤ g ∧ g < w.heap.size ∧ w.ownsRow B 47 2 v rs.length (i64s (flatC rs))
theorem cuts_kept {w w' : World} {v : Value} {rs : List Ct} (hb : Below w.heap.size w w') (h : CutsAt w v rs) : CutsAt w' v rs := by
  obtain ⟨hl, h | ⟨b, off, cap, rfl, hlt, hc⟩⟩ := h
  · exact ⟨hl, .inl h⟩
  · exact ⟨hl, .inr ⟨b, off, cap, rfl, by have := hb.size; omega, fun j hj => by rw [hb.cell (p := ⟨b, off + j, none⟩) hlt]; exact hc j hj⟩⟩
theorem own_cuts {w : World} {B : Nat} {v : Value} {rs : List Ct} (hl : rs.length ≤ 1048576) (h : OwnCuts w B v rs) : CutsAt w v rs := by
  obtain ⟨g, cap, rfl, _, hg, hown⟩ := h
  refine ⟨hl, .inr ⟨g, 0, cap, rfl, hg, fun j hj => ?_⟩⟩
  rw [Nat.zero_add, hown.cellAt j (by omega)]
  exact i64s_get _ j (by rw [flatC_len]; omega)
theorem cuts_form {w : World} {v : Value} {zs : List Ct} (h : CutsAt w v zs) : ∃ a c, v = .slice a zs.length c := by
  obtain ⟨_, ⟨a, c, rfl, rfl⟩ | ⟨b, off, cap, rfl, _⟩⟩ := h
  · exact ⟨_, _, rfl⟩
  · exact ⟨_, _, rfl⟩
theorem cuts_in {w : World} {b off : Nat} {rs : List Ct} (hc : ∀ j, j < rs.length * 2 → w.cell? ⟨b, off + j, none⟩ = some (.int .i64 ((flatC rs).getD j 0))) (i : Nat) (hi : i < rs.length) : CIn w b (off + i * 2) (rs.getD i zC) := by
  obtain ⟨g0, g1⟩ := flatC_get rs i hi
  exact ⟨by rw [show off + i * 2 = off + (i * 2) from by omega, hc _ (by omega), List.getD_eq_getElem?_getD, g0, Option.getD_some], by rw [show off + i * 2 + 1 = off + (i * 2 + 1) from by omega, hc _ (by omega), List.getD_eq_getElem?_getD, g1, Option.getD_some]⟩
theorem cuts_cells {w : World} {v : Value} {rs : List Ct} (h : CutsAt w v rs) (h0 : 0 < rs.length) : ∃ b off cap, v = .slice (some ⟨b, off, none⟩) rs.length cap ∧ b < w.heap.size ∧ ∀ i, i < rs.length → CIn w b (off + i * 2) (rs.getD i zC) := by
  obtain ⟨_, ⟨a, c, _, rfl⟩ | ⟨b, off, cap, rfl, hb, hc⟩⟩ := h
  · simp at h0
  · exact ⟨b, off, cap, rfl, hb, cuts_in hc⟩
theorem cuts_keep {w w' : World} {b o : Nat} {r : Ct} (hb : Below w.heap.size w w') (hl : b < w.heap.size) (h : CIn w b o r) : CIn w' b o r := ⟨(below_cell hb _ _ hl).trans h.c0, (below_cell hb _ _ hl).trans h.c1⟩
theorem infoC : (Tryd.prog.info? 47).map (fun i => (i.zero, i.size, i.bytes)) = some (some (.agg #[.int .i64 0, .int .i64 0]), 2, 16) := by kernel_rfl
theorem flatC_append (a b : List Ct) : flatC (a ++ b) = flatC a ++ flatC b := by
  induction a with
  | nil => rfl
  | cons r a ih => simp [flatC, ih]
theorem flatC_set (rs : List Ct) (j : Nat) (r : Ct) : ((flatC rs).set (j * 2) r.1).set (j * 2 + 1) r.2 = flatC (rs.set j r) := by
  induction rs generalizing j with
  | nil => rfl
  | cons q rs ih =>
    match j with
    | 0 => simp [flatC]
    | j + 1 =>
      have e : (j + 1) * 2 = j * 2 + 2 := by omega
      have := ih j
      rw [e]
      simpa [flatC] using this
theorem i64s_setC (zs : List Int) (j : Nat) (z : Int) : (i64s zs).set j (.int .i64 z) = i64s (zs.set j z) := by simp [i64s, List.map_set]
def copiedC (rs : List Ct) (k : Nat) : List Ct := rs.take k ++ List.replicate (rs.length - k) zC
theorem copiedC_len (rs : List Ct) (k : Nat) (h : k ≤ rs.length) : (copiedC rs k).length = rs.length := by simp [copiedC]; omega
theorem copiedC_next (rs : List Ct) (k : Nat) (h : k < rs.length) : (copiedC rs k).set k (rs.getD k zC) = copiedC rs (k + 1) := by
  unfold copiedC
  rw [show rs.length - k = rs.length - (k + 1) + 1 from by omega, List.replicate_succ, List.set_append_right _ _ (by simp; omega), List.length_take,
    Nat.min_eq_left (by omega), Nat.sub_self, List.set_cons_zero, List.take_succ_eq_append_getElem h]
  simp only [List.append_assoc, List.singleton_append, List.getD_eq_getElem?_getD, List.getElem?_eq_getElem h, Option.getD_some]
theorem copiedC_all (rs : List Ct) : copiedC rs rs.length = rs := by simp [copiedC]
theorem flatC_zeros (n : Nat) : flatC (List.replicate n zC) = List.replicate (n * 2) 0 := by
  induction n with
  | zero => rfl
  | succ n ih => rw [List.replicate_succ, flatC, ih, show (n + 1) * 2 = n * 2 + 1 + 1 from by omega, List.replicate_succ, List.replicate_succ]; rfl
theorem made_cuts (n : Nat) : (madeCells (Value.agg #[.int .i64 0, .int .i64 0]).cells (n * 2)).toList = i64s (flatC (List.replicate n zC)) := by
  rw [flatC_zeros]
  unfold madeCells i64s
  rw [List.map_replicate]
  apply List.ext_getElem?
  intro j
  have h3 : j % 2 = 0 ∨ j % 2 = 1 := by omega
  by_cases h : j < n * 2
  · rcases h3 with h3 | h3 <;> simp [h, Value.cells, h3]
  · simp [h]
theorem results_cellC {P : Program} {fn : Func} {p : Tmp} {ty : TypeId} (h : fn.results = #[.cell p ty]) (tmps : Array Value) (w : World) :
    (results fn tmps).run P w = ((asAddr (tmps.getD p undef)).run P w).andThen fun a w1 => (loadVar ty a).run P w1 := by
  simp only [results, h]
  simp [Sem.run_bind, Result.andThen]
set_option maxHeartbeats 1000000 in
theorem eqCut_any (x y : Int) (w : World) : Calls Tryd.prog 23 #[.agg #[.int .i64 x, .int .i64 y], .agg #[.int .i64 x, .int .i64 y]] w fun e w' => e = .returned (.bool true) ∧ Below w.heap.size w w' := by
  have hx : (x != x) = false := by simp
  have hy : (y != y) = false := by simp
  go_enter Tryd.func23, Tryd.ntmps23
  go_wp2
  go_ret
  exact ⟨rfl, ((Below.refl _ _).alloc (Nat.le_refl _) _).alloc (by simp) _⟩
theorem row_keepC {w w' : World} {B sz : Nat} {e : TypeId} {v : Value} {n : Nat} {xs : List Value} (hb : Below w.heap.size w w') (h : w.ownsRow B e sz v n xs) : w'.ownsRow B e sz v n xs :=
  h.kept (row := none) ⟨hb.os, hb.tape, hb.output, hb.size, fun k hk _ => hb.block k hk⟩ (by cases hv : v.ownBlock <;> simp)
theorem storeC {w : World} {B g n cap : Nat} {rs : List Ct} (h : w.ownsRow B 47 2 (.slice (some ⟨g, 0, none⟩) n cap) n (i64s (flatC rs))) (j : Nat) (r : Ct) :
    ((w.setCell ⟨g, j * 2, none⟩ (.int .i64 r.1)).setCell ⟨g, j * 2 + 1, none⟩ (.int .i64 r.2)).ownsRow B 47 2 (.slice (some ⟨g, 0, none⟩) n cap) n (i64s (flatC (rs.set j r))) := by
  have h1 := (h.stored (j * 2) (.int .i64 r.1)).1
  have h2 := (h1.stored (j * 2 + 1) (.int .i64 r.2)).1
  rw [i64s_setC, i64s_setC, flatC_set] at h2
  exact h2
theorem own_inC {w : World} {B g n cap : Nat} {T : TypeId} {rs : List Ct} (hn : rs.length = n) (h : w.ownsRow B T 2 (.slice (some ⟨g, 0, none⟩) n cap) n (i64s (flatC rs))) (i : Nat) (hi : i < n) : CIn w g (i * 2) (rs.getD i zC) := by
  have hr := cuts_in (w := w) (b := g) (off := 0) (rs := rs) (fun j hj => by
    rw [Nat.zero_add, h.cellAt j (by omega)]
    exact i64s_get _ j (by rw [flatC_len]; omega)) i (by omega)
  rw [Nat.zero_add] at hr
  exact hr
theorem gb_reflC (w : World) (row : Option Nat) : w.grownBy w row := ⟨rfl, rfl, rfl, Nat.le_refl _, fun _ _ _ => rfl⟩
theorem gb_setC {w wr : World} {g : Nat} (k : Nat) (u : Value) (h : w.grownBy wr (some g)) : w.grownBy (wr.setCell ⟨g, k, none⟩ u) (some g) :=
  ⟨h.os, h.tape, h.output, by simpa using h.size, fun b hb hne => (Below.heap_setCell _ _ _ _ (by intro e; exact hne (by simp only at e; rw [e]))).trans (h.block b hb hne)⟩
set_option maxHeartbeats 1000000 in
theorem eqCuts_some (rs : List Ct) (b o c b2 o2 c2 : Nat) (w : World) (n : Nat) (hn1 : n ≤ 1048576) (hb : b < w.heap.size) (hb2 : b2 < w.heap.size)
    (h1 : ∀ i, i < n → CIn w b (o + i * 2) (rs.getD i zC)) (h2 : ∀ i, i < n → CIn w b2 (o2 + i * 2) (rs.getD i zC)) :
    Calls Tryd.prog 8 #[.slice (some ⟨b, o, none⟩) n c, .slice (some ⟨b2, o2, none⟩) n c2] w fun e w' => e = .returned (.bool true) ∧ Below w.heap.size w w' := by
  have H1 := Lib.hid h1
  have H2 := Lib.hid h2
  clear h1 h2
  have hne : ((n : Int) != n) = false := by simp
  go_enter Tryd.func8, Tryd.ntmps8
  go_wp2
  go_loopw [5] (fun i wr => ∃ k : Nat, k ≤ n ∧ i = .int .i64 k ∧ Below w.heap.size w wr) (fun i _ => n - (intOf i).toNat)
  case atStart => exact ⟨0, by omega, rfl, Below.refl _ _⟩
  case round =>
    obtain ⟨k, hk, rfl, hbw⟩ := hrel
    have HB := Lib.hid hbw
    clear hbw
    by_cases hlt : k < n
    · obtain ⟨c0, c1⟩ := H1.out k hlt
      obtain ⟨d0, d1⟩ := H2.out k hlt
      rw [← HB.out.cell (p := ⟨b, _, none⟩) hb] at c0 c1
      rw [← HB.out.cell (p := ⟨b2, _, none⟩) hb2] at d0 d1
      generalize rs.getD k zC = r at *
      obtain ⟨x, y⟩ := r
      have e0 : wr.cell? ⟨b, o + k * 2, none⟩ = some (.int .i64 x) := c0
      have g0 : wr.cell? ⟨b2, o2 + k * 2, none⟩ = some (.int .i64 x) := d0
      have e1 : wr.cell? ⟨b, o + k * 2 + 1, none⟩ = some (.int .i64 y) := c1
      have g1 : wr.cell? ⟨b2, o2 + k * 2 + 1, none⟩ = some (.int .i64 y) := d1
      clear c0 c1 d0 d1
      have hlt1 : (k : Int) < (n : Int) := by omega
      have hk0 : (0 : Int) ≤ (k : Int) := by omega
      go_wp2
      go_region_with (go_at_call 23; refine (eqCut_any x y _).mono ?_; rintro e w2 ⟨rfl, hb5⟩)
      all_goals
        have HB5 := Lib.hid (HB.out.trans ((show Below wr.heap.size wr w2 from ⟨hb5.os, hb5.tape, hb5.output, hb5.size, hb5.block⟩).mono HB.out.size))
        clear hb5
        go_wp2
        go_roundw
        case rel => exact ⟨k + 1, by omega, by go_num, HB5.out⟩
        case measure => simp [intOf]; omega
    · go_wp2
      go_ret
      exact ⟨rfl, HB.out⟩
theorem eqCuts_zero (a a2 : Option Addr) (c c2 : Nat) (w : World) :
    Calls Tryd.prog 8 #[.slice a 0 c, .slice a2 0 c2] w fun e w' => e = .returned (.bool true) ∧ Below w.heap.size w w' := by
  go_enter Tryd.func8, Tryd.ntmps8
  go_wp2
  refine wp_loop_rounds 1 ?_
  rw [rounds_succ]
  go_wp2
  go_ret
  exact ⟨rfl, Below.refl _ _⟩
theorem eqCuts_at (zs : List Ct) (v1 v2 : Value) (w : World) (h1 : CutsAt w v1 zs) (h2 : CutsAt w v2 zs) :
    Calls Tryd.prog 8 #[v1, v2] w fun e w' => e = .returned (.bool true) ∧ Below w.heap.size w w' := by
  obtain ⟨hl, ⟨a, c, rfl, rfl⟩ | ⟨b, off, cap, rfl, hb, hc⟩⟩ := h1
  · obtain ⟨a2, c2, rfl⟩ := cuts_form h2
    exact eqCuts_zero a a2 c c2 w
  · obtain ⟨_, ⟨a, c, rfl, rfl⟩ | ⟨b2, off2, cap2, rfl, hb2, hc2⟩⟩ := h2
    · exact eqCuts_zero _ _ _ _ w
    · exact eqCuts_some zs b off cap b2 off2 cap2 w _ hl hb hb2 (cuts_in hc) (cuts_in hc2)
/-- A row from B on, or none. -/
def Cv (w : World) (B : Nat) (v : Value) (zs : List Ct) : Prop :=
  (v = .slice none 0 0 ∧ zs = []) ∨ ∃ g cap, v = .slice (some ⟨g, 0, none⟩) zs.length cap ∧ B ≤ g ∧ w.ownsRow B 47 2 (.slice (some ⟨g, 0, none⟩) zs.length cap) zs.length (i64s (flatC zs))
theorem cv_kept {w w' : World} {B : Nat} {v : Value} {zs : List Ct} (hb : Below w.heap.size w w') (h : Cv w B v zs) : Cv w' B v zs := by
  rcases h with h | ⟨g, cap, h1, h2, h4⟩
  · exact .inl h
  · exact .inr ⟨g, cap, h1, h2, row_keepC hb h4⟩
theorem cv_base {w : World} {B B' : Nat} {v : Value} {zs : List Ct} (h : Cv w B v zs) (hB : B' ≤ B) : Cv w B' v zs := by
  rcases h with h | ⟨g, cap, h1, h2, h4⟩
  · exact .inl h
  · refine .inr ⟨g, cap, h1, by omega, h4.1, ?_⟩
    rcases h4.2 with h | ⟨g', cap', cur, e, hb, rest⟩
    · exact .inl h
    · exact .inr ⟨g', cap', cur, e, by omega, rest⟩
theorem cv_at {w : World} {B : Nat} {v : Value} {zs : List Ct} (hl : zs.length ≤ 1048576) (h : Cv w B v zs) : CutsAt w v zs := by
  rcases h with ⟨rfl, rfl⟩ | ⟨g, cap, rfl, h2, h4⟩
  · exact ⟨by simp, .inl ⟨_, _, rfl, rfl⟩⟩
  · refine ⟨hl, .inr ⟨g, 0, cap, rfl, (h4.lt g rfl).2, fun j hj => ?_⟩⟩
    rw [Nat.zero_add, h4.cellAt j (by omega)]
    exact i64s_get _ j (by rw [flatC_len]; omega)
theorem cv_form {w : World} {B : Nat} {v : Value} {zs : List Ct} (h : Cv w B v zs) : ∃ a c, v = .slice a zs.length c := by
  rcases h with ⟨rfl, rfl⟩ | ⟨g, cap, rfl, _⟩
  · exact ⟨_, _, rfl⟩
  · exact ⟨_, _, rfl⟩
theorem cv_own {w : World} {B : Nat} {v : Value} {zs : List Ct} (h : OwnCuts w B v zs) : Cv w B v zs := by
  obtain ⟨g, cap, rfl, h1, h2, h3⟩ := h
  exact .inr ⟨g, cap, rfl, h1, h3⟩
theorem cv_in {w : World} {B : Nat} {v : Value} {zs : List Ct} (h : Cv w B v zs) : ∀ k, v.ownBlock = some k → B ≤ k ∧ k < w.heap.size := by
  intro k hk
  rcases h with ⟨rfl, _⟩ | ⟨g, cap, rfl, h2, h4⟩
  · simp [Value.ownBlock] at hk
  · simp only [Value.ownBlock, Option.some.injEq] at hk
    subst hk
    exact ⟨h2, (h4.lt g rfl).2⟩
theorem cv_grown {w w' : World} {B : Nat} {v : Value} {zs : List Ct} {row : Option Nat} (hg : w.grownBy w' row) (h : Cv w B v zs) (hne : v.ownBlock = none ∨ v.ownBlock ≠ row) : Cv w' B v zs := by
  rcases h with h | ⟨g, cap, rfl, h2, h4⟩
  · exact .inl h
  · exact .inr ⟨g, cap, rfl, h2, h4.kept hg hne⟩
theorem cv_of_row {w : World} {B : Nat} {v : Value} {zs : List Ct} (h : w.ownsRow B 47 2 v zs.length (i64s (flatC zs))) : Cv w B v zs := by
  rcases h.2 with ⟨e, h0⟩ | ⟨g', cap', cur, e, hb, _⟩
  · exact .inl ⟨e, List.length_eq_zero_iff.1 h0⟩
  · subst e; exact .inr ⟨g', cap', rfl, hb, h⟩
/-- The answer: a row of the call's own and a code. -/
def CU (R : List Ct) (c : Int) (w : World) (e : Ending) (w' : World) : Prop := ∃ v, e = .returned (.tuple #[v, .int .i64 c]) ∧ Cv w' w.heap.size v R ∧ Below w.heap.size w w'
def markC (m : Int) (j : Nat) : Ct := (m + 2 * (j : Int), m + 2 * (j : Int) + 1)
def marksCTo (rs : List Ct) (m : Int) (k : Nat) : List Ct := (List.range k).map (markC m) ++ rs.drop k
def marksC (m : Int) (n : Nat) : List Ct := (List.range n).map (markC m)
theorem marksC_len (m : Int) (n : Nat) : (marksC m n).length = n := by simp [marksC]
theorem marksCTo_len (rs : List Ct) (m : Int) (k : Nat) (h : k ≤ rs.length) : (marksCTo rs m k).length = rs.length := by simp [marksCTo]; omega
theorem marksC_get (m : Int) (n j : Nat) (h : j < n) : (marksC m n).getD j zC = markC m j := by simp [marksC, List.getD, h]
theorem marksC_next (rs : List Ct) (m : Int) (k : Nat) (h : k < rs.length) : (marksCTo rs m k).set k (markC m k) = marksCTo rs m (k + 1) := by
  unfold marksCTo
  rw [List.drop_eq_getElem_cons h, List.range_succ, List.map_append, List.set_append_right _ _ (by simp), List.length_map, List.length_range, Nat.sub_self, List.set_cons_zero, List.append_assoc]
  rfl
set_option maxHeartbeats 1000000 in
theorem markC_some (rs : List Ct) (m : Int) (B g cap n : Nat) (w : World) (hm : 0 ≤ m ∧ m ≤ 1000000000000) (hn : Hid (rs.length = n)) (hn1 : n ≤ 1048576) (hown : w.ownsRow B 47 2 (.slice (some ⟨g, 0, none⟩) n cap) n (i64s (flatC rs))) :
    Calls Tryd.prog 9 #[.slice (some ⟨g, 0, none⟩) n cap, .int .i64 m] w fun e w' => e = .returned (.int .i64 (m + 2 * n)) ∧ w'.ownsRow B 47 2 (.slice (some ⟨g, 0, none⟩) n cap) n (i64s (flatC (marksC m n))) ∧ w.grownBy w' (some g) := by
  have HO0 := Lib.hid hown
  clear hown
  go_enter Tryd.func9, Tryd.ntmps9
  go_wp2
  go_loopw [1, 5] (fun v i wr => ∃ k : Nat, k ≤ n ∧ i = .int .i64 k ∧ v = .int .i64 (m + 2 * k) ∧ wr.ownsRow B 47 2 (.slice (some ⟨g, 0, none⟩) n cap) n (i64s (flatC (marksCTo rs m k))) ∧ w.grownBy wr (some g)) (fun _ i _ => n - (intOf i).toNat)
  case atStart => exact ⟨0, by omega, rfl, by congr 1; omega, HO0.out, gb_reflC _ _⟩
  case round =>
    obtain ⟨k, hk, rfl, rfl, hown, hbw⟩ := hrel
    have HO := Lib.hid hown
    have HB := Lib.hid hbw
    by_cases hlt : k < n
    · have HN := Lib.hid (marksC_next rs m k (by rw [hn.out]; exact hlt))
      have HL := Lib.hid (show (marksCTo rs m k).length = n by rw [marksCTo_len _ _ _ (by rw [hn.out]; omega), hn.out])
      generalize marksCTo rs m k = cs at *
      obtain ⟨d0, d1⟩ := own_inC HL.out HO.out k hlt
      generalize cs.getD k zC = old at *
      have f0 := HO.out.frozenAt (k * 2)
      have f1 := HO.out.frozenAt (k * 2 + 1)
      have HS := Lib.hid (storeC HO.out k (markC m k))
      have hkn : (k : Int) < (n : Int) := by omega
      have hk0 : (0 : Int) ≤ (k : Int) := by omega
      clear hown hbw
      go_wp2
      go_roundw
      case rel => exact ⟨k + 1, by omega, by go_num, by congr 1; omega, by rw [← HN.out]; exact HS.out, gb_setC _ _ (gb_setC _ _ (HB.out))⟩
      case measure => simp [intOf]; omega
    · obtain rfl : k = n := by omega
      clear hown hbw
      have he : marksCTo rs m k = marksC m k := by unfold marksCTo marksC; rw [List.drop_of_length_le (by rw [hn.out]; exact Nat.le_refl _)]; simp
      rw [he] at HO
      clear he
      go_wp2
      go_ret
      exact ⟨rfl, HO.out, HB.out⟩
theorem markC_none (m : Int) (w : World) (a : Option Addr) (c : Nat) :
    Calls Tryd.prog 9 #[.slice a 0 c, .int .i64 m] w fun e w' => e = .returned (.int .i64 m) ∧ w = w' := by
  go_enter Tryd.func9, Tryd.ntmps9
  go_wp2
  refine wp_loop_rounds 1 ?_
  rw [rounds_succ]
  go_wp2
  go_ret
  exact ⟨rfl, rfl⟩
theorem markCv_any (m : Int) (hm : 0 ≤ m ∧ m ≤ 1000000000000) (v : Value) (zs : List Ct) (B : Nat) (w : World) (hl : zs.length ≤ 1048576) (h : Cv w B v zs) :
    Calls Tryd.prog 9 #[v, .int .i64 m] w fun e w' => e = .returned (.int .i64 (m + 2 * zs.length)) ∧ Cv w' B v (marksC m zs.length) ∧ w.grownBy w' v.ownBlock := by
  rcases h with ⟨rfl, rfl⟩ | ⟨g, cap, rfl, h2, h4⟩
  · refine (markC_none m w none 0).mono ?_
    rintro e w' ⟨rfl, rfl⟩
    exact ⟨by simp, .inl ⟨rfl, rfl⟩, gb_reflC _ _⟩
  · obtain ⟨n, hn⟩ : ∃ n, zs.length = n := ⟨_, rfl⟩
    rw [hn] at h4 hl ⊢
    refine (markC_some zs m B g cap n w hm (Lib.hid hn) (by omega) h4).mono ?_
    rintro e w' ⟨rfl, h5, h6⟩
    exact ⟨rfl, .inr ⟨g, cap, by rw [marksC_len], h2, by rw [marksC_len]; exact h5⟩, h6⟩
set_option maxHeartbeats 1000000 in
theorem heldC_some (m : Int) (B g cap n : Nat) (w : World) (hm : 0 ≤ m ∧ m ≤ 1000000000000) (hn1 : n ≤ 1048576) (hown : w.ownsRow B 47 2 (.slice (some ⟨g, 0, none⟩) n cap) n (i64s (flatC (marksC m n)))) :
    Calls Tryd.prog 10 #[.slice (some ⟨g, 0, none⟩) n cap, .int .i64 m] w fun e w' => e = .returned (.int .i64 (m + 2 * n)) ∧ w = w' := by
  have HO := Lib.hid hown
  clear hown
  go_enter Tryd.func10, Tryd.ntmps10
  go_wp2
  go_loop [1, 5] (fun v i => ∃ k : Nat, k ≤ n ∧ i = .int .i64 k ∧ v = .int .i64 (m + 2 * k)) (fun _ i => n - (intOf i).toNat)
  case atStart => exact ⟨0, by omega, rfl, by congr 1; omega⟩
  case round =>
    obtain ⟨k, hk, rfl, rfl⟩ := hrel
    by_cases hlt : k < n
    · obtain ⟨d0, d1⟩ := own_inC (marksC_len m n) HO.out k hlt
      rw [marksC_get m n k hlt] at d0 d1
      have e0 : w.cell? ⟨g, k * 2, none⟩ = some (.int .i64 (m + 2 * k)) := d0
      have hz0 : ((m + 2 * (k : Int)) != (m + 2 * (k : Int))) = false := by simp
      have e1 : w.cell? ⟨g, k * 2 + 1, none⟩ = some (.int .i64 (m + 2 * k + 1)) := d1
      have hz1 : ((m + 2 * (k : Int) + 1) != (m + 2 * (k : Int) + 1)) = false := by simp
      have hkn : (k : Int) < (n : Int) := by omega
      have hk0 : (0 : Int) ≤ (k : Int) := by omega
      clear d0 d1
      go_wp2
      go_round
      case rel => exact ⟨k + 1, by omega, by go_num, by congr 1; omega⟩
      case measure => simp [intOf]; omega
    · obtain rfl : k = n := by omega
      go_wp2
      go_ret
      exact ⟨rfl, rfl⟩
theorem heldC_none (m : Int) (w : World) (a : Option Addr) (c : Nat) :
    Calls Tryd.prog 10 #[.slice a 0 c, .int .i64 m] w fun e w' => e = .returned (.int .i64 m) ∧ w = w' := by
  go_enter Tryd.func10, Tryd.ntmps10
  go_wp2
  refine wp_loop_rounds 1 ?_
  rw [rounds_succ]
  go_wp2
  go_ret
  exact ⟨rfl, rfl⟩
theorem heldCv_any (m : Int) (hm : 0 ≤ m ∧ m ≤ 1000000000000) (v : Value) (n : Nat) (B : Nat) (w : World) (hl : n ≤ 1048576) (h : Cv w B v (marksC m n)) :
    Calls Tryd.prog 10 #[v, .int .i64 m] w fun e w' => e = .returned (.int .i64 (m + 2 * n)) ∧ w = w' := by
  rcases h with ⟨rfl, h1⟩ | ⟨g, cap, rfl, h2, h4⟩
  · have hn : n = 0 := by have := marksC_len m n; rw [h1] at this; simpa using this.symm
    subst hn
    refine (heldC_none m w none 0).mono ?_
    rintro e w' ⟨rfl, rfl⟩
    exact ⟨by simp, rfl⟩
  · rw [marksC_len] at h4 ⊢
    exact heldC_some m B g cap n w hm (by omega) h4
end Go.Proofs.YtikoehjalcljnaaDoor
