/- What the laws do with slices of slices of numbers: measured, copied, compared. -/
import Derived.Test.YtpjopfhkgegahaaIRows
import Derived.BigRegion
import Derived.Deep.QuietTactic
import Derived.BigQuiet
import Derived.Deep.RegionWith
namespace Go.Proofs.Ytpjopfhkgegahaa
open Go.ChangeShapes Go.WideShapes Go.ChangeAt Go.RowKit

theorem infoSl : (Try.prog.info? 22).map (fun i => (i.zero, i.size, i.bytes)) = some (some (.slice none 0 0), 1, 24) := by kernel_rfl
theorem made_sl (n : Nat) : (madeCells (Value.slice none 0 0).cells (n * 1)).toList = List.replicate n (.slice none 0 0) := by
  unfold madeCells
  rw [Nat.mul_one]
  apply List.ext_getElem?
  intro j
  by_cases h : j < n
  · simp [h, Value.cells, Nat.mod_one]
  · simp [h]
theorem ownInts_base {w : World} {B B' : Nat} {v : Value} {zs : List Int} (h : OwnInts w B v zs) (hB : B' ≤ B) : OwnInts w B' v zs := by
  obtain ⟨g, cap, rfl, h1, h2, h3, h4⟩ := h
  refine ⟨g, cap, rfl, by omega, h2, h3, ?_⟩
  rcases h4 with h | ⟨g', cap', cur, e, hb, rest⟩
  · exact .inl h
  · exact .inr ⟨g', cap', cur, e, by omega, rest⟩
theorem ownInts_set {w : World} {B : Nat} {v : Value} {zs : List Int} (h : OwnInts w B v zs) (b o : Nat) (x : Value) (hb : b < B) : OwnInts (w.setCell ⟨b, o, none⟩ x) B v zs := by
  obtain ⟨g, cap, rfl, h1, h2, hown⟩ := h
  refine ⟨g, cap, rfl, h1, by simpa using h2, hown.kept (row := some b) ⟨rfl, rfl, rfl, by simp, fun k _ hk => Below.heap_setCell _ _ _ _ (by intro e; exact hk (by simp only at e; rw [e]))⟩ (.inr (by simp [Value.ownBlock]; omega))⟩
theorem getD_snoc_old {α : Type} (us : List α) (u d : α) (j : Nat) (h : j < us.length) : (us ++ [u]).getD j d = us.getD j d := by
  rw [List.getD_eq_getElem?_getD, List.getD_eq_getElem?_getD, List.getElem?_append_left h]
theorem getD_snoc_new {α : Type} (us : List α) (u d : α) (j : Nat) (h : j = us.length) : (us ++ [u]).getD j d = u := by
  subst h
  rw [List.getD_eq_getElem?_getD, List.getElem?_append_right (Nat.le_refl _)]; simp
theorem rowsOwn_nil (w : World) (B : Nat) : RowsOwn w B [] [] := ⟨rfl, fun j hj => by simp at hj, fun i j _ hj => by simp at hj⟩
theorem rowsOwn_snoc {w : World} {B : Nat} {us : List Value} {ws : List (List Int)} {u : Value} {z : List Int} (h : RowsOwn w B us ws) (hu : OwnInts w B u z)
    (hne : ∀ j, j < ws.length → (us.getD j undef).ownBlock ≠ u.ownBlock) : RowsOwn w B (us ++ [u]) (ws ++ [z]) := by
  have hl := h.len
  refine ⟨by simp [hl], fun j hj => ?_, fun i j hij hj => ?_⟩
  · rw [List.length_append, List.length_singleton] at hj
    by_cases e : j = ws.length
    · rw [getD_snoc_new _ _ _ _ (by omega), getD_snoc_new _ _ _ _ e]; exact hu
    · rw [getD_snoc_old _ _ _ _ (by omega), getD_snoc_old _ _ _ _ (by omega)]; exact h.each j (by omega)
  · rw [List.length_append, List.length_singleton] at hj
    by_cases e : j = ws.length
    · rw [getD_snoc_new us u _ j (by omega), getD_snoc_old _ _ _ _ (by omega)]; exact hne i (by omega)
    · rw [getD_snoc_old _ _ _ _ (by omega), getD_snoc_old _ _ _ _ (by omega)]; exact h.apart i j hij (by omega)
theorem ownInts_block {w : World} {B : Nat} {v : Value} {zs : List Int} (h : OwnInts w B v zs) : ∃ g, v.ownBlock = some g ∧ B ≤ g ∧ g < w.heap.size := by
  obtain ⟨g, cap, rfl, h1, h2, _⟩ := h
  exact ⟨g, rfl, h1, h2⟩
theorem rowsOwn_new {w w' : World} {B : Nat} {us : List Value} {ws : List (List Int)} {u : Value} {z : List Int} (hb : Below w.heap.size w w') (h : RowsOwn w B us ws) (hB : B ≤ w.heap.size) (hu : OwnInts w' w.heap.size u z) : RowsOwn w' B (us ++ [u]) (ws ++ [z]) := by
  refine rowsOwn_snoc (rowsOwn_kept hb h) (ownInts_base hu hB) fun j hj e => ?_
  obtain ⟨g1, e1, _, h1⟩ := ownInts_block (h.each j hj)
  obtain ⟨g2, e2, h2, _⟩ := ownInts_block hu
  rw [e1, e2] at e
  simp only [Option.some.injEq] at e
  omega
theorem rowsOwn_set {w : World} {B : Nat} {us : List Value} {ws : List (List Int)} (h : RowsOwn w B us ws) (b o : Nat) (x : Value) (hb : b < B) : RowsOwn (w.setCell ⟨b, o, none⟩ x) B us ws :=
  ⟨h.len, fun j hj => ownInts_set (h.each j hj) b o x hb, h.apart⟩
theorem rowsOwn_base {w : World} {B B' : Nat} {us : List Value} {ws : List (List Int)} (h : RowsOwn w B us ws) (hB : B' ≤ B) : RowsOwn w B' us ws :=
  ⟨h.len, fun j hj => ownInts_base (h.each j hj) hB, h.apart⟩
theorem take_snoc {α : Type} (xs : List α) (k : Nat) (d : α) (h : k < xs.length) : xs.take (k + 1) = xs.take k ++ [xs.getD k d] := by
  rw [List.take_succ_eq_append_getElem h, List.getD_eq_getElem?_getD, List.getElem?_eq_getElem h]; rfl
/-- The rows so far, and the empty ones behind. -/
def rowsTo (us : List Value) (n : Nat) : List Value := us ++ List.replicate (n - us.length) (.slice none 0 0)
theorem rowsTo_len (us : List Value) (n : Nat) (h : us.length ≤ n) : (rowsTo us n).length = n := by simp [rowsTo]; omega
theorem rowsTo_at (us : List Value) (n k : Nat) (hk : us.length = k) (h : k < n) : (rowsTo us n)[k]? = some (.slice none 0 0) := by
  unfold rowsTo
  rw [List.getElem?_append_right (by omega), hk, Nat.sub_self, List.getElem?_replicate]
  simp; omega
theorem rowsTo_next (us : List Value) (n k : Nat) (u : Value) (hk : us.length = k) (h : k < n) : (rowsTo us n).set k u = rowsTo (us ++ [u]) n := by
  unfold rowsTo
  rw [List.length_append, List.length_singleton, hk, show n - k = n - (k + 1) + 1 from by omega, List.replicate_succ, List.set_append_right _ _ (by omega), hk, Nat.sub_self, List.set_cons_zero]
  simp
theorem rowsTo_all (us : List Value) (n : Nat) (hk : us.length = n) : rowsTo us n = us := by unfold rowsTo; rw [hk, Nat.sub_self]; simp

theorem eqInts_at (zs : List Int) (v1 v2 : Value) (w : World) (h1 : IntsAt w v1 zs) (h2 : IntsAt w v2 zs) :
    Calls Try.prog 9 #[v1, v2] w fun e w' => e = .returned (.bool true) ∧ Below w.heap.size w w' := by
  obtain ⟨hl, ⟨a, c, rfl, rfl⟩ | ⟨b, off, cap, rfl, hb, hc⟩⟩ := h1
  · obtain ⟨a2, c2, rfl⟩ := ints_form h2
    exact eqInts_zero a a2 c c2 w
  · obtain ⟨_, ⟨a, c, rfl, rfl⟩ | ⟨b2, off2, cap2, rfl, hb2, hc2⟩⟩ := h2
    · exact eqInts_zero _ _ _ _ w
    · exact eqInts_some zs b off cap b2 off2 cap2 w _ hl hc hc2
set_option maxHeartbeats 1000000 in
theorem eqRowsM_some (ws : List (List Int)) (b o c b2 o2 c2 : Nat) (w : World) (n : Nat) (hn1 : n ≤ 1048576) (hb : b < w.heap.size) (hb2 : b2 < w.heap.size)
    (h1 : ∀ j, j < n → ∃ u, w.cell? ⟨b, o + j, none⟩ = some u ∧ IntsAt w u (ws.getD j [])) (h2 : ∀ j, j < n → ∃ u, w.cell? ⟨b2, o2 + j, none⟩ = some u ∧ IntsAt w u (ws.getD j [])) :
    Calls Try.prog 25 #[.slice (some ⟨b, o, none⟩) n c, .slice (some ⟨b2, o2, none⟩) n c2] w fun e w' => e = .returned (.bool true) ∧ Below w.heap.size w w' := by
  have H1 := Lib.hid h1
  have H2 := Lib.hid h2
  clear h1 h2
  have hne : ((n : Int) != n) = false := by simp
  go_enter Try.func25, Try.ntmps25
  go_wp2
  go_loopw [5] (fun i wr => ∃ k : Nat, k ≤ n ∧ i = .int .i64 k ∧ Below w.heap.size w wr) (fun i _ => n - (intOf i).toNat)
  case atStart => exact ⟨0, by omega, rfl, Below.refl _ _⟩
  case round =>
    obtain ⟨k, hk, rfl, hbw⟩ := hrel
    have HB := Lib.hid hbw
    clear hbw
    by_cases hlt : k < n
    · obtain ⟨u1, d1, z1⟩ := H1.out k hlt
      obtain ⟨u2, d2, z2⟩ := H2.out k hlt
      rw [← HB.out.cell (p := ⟨b, _, none⟩) hb] at d1
      rw [← HB.out.cell (p := ⟨b2, _, none⟩) hb2] at d2
      have Z1 := Lib.hid (ints_kept HB.out z1)
      have Z2 := Lib.hid (ints_kept HB.out z2)
      clear z1 z2
      generalize ws.getD k [] = z at *
      have hlt1 : (k : Int) < (n : Int) := by omega
      have hk0 : (0 : Int) ≤ (k : Int) := by omega
      go_wp2
      go_region_with (go_at_call 9; refine (eqInts_at z u1 u2 wr.drew (ints_kept (w := wr) (w' := wr.drew) ⟨rfl, rfl, rfl, Nat.le_refl _, fun _ _ => rfl⟩ Z1.out) (ints_kept (w := wr) (w' := wr.drew) ⟨rfl, rfl, rfl, Nat.le_refl _, fun _ _ => rfl⟩ Z2.out)).mono ?_; rintro e w2 ⟨rfl, hb5⟩)
      all_goals
        have HB5 := Lib.hid (HB.out.trans ((show Below wr.heap.size wr w2 from ⟨hb5.os, hb5.tape, hb5.output, hb5.size, hb5.block⟩).mono HB.out.size))
        clear hb5
        go_wp2
        go_roundw
        case rel => exact ⟨k + 1, by omega, by go_num, HB5.out⟩
        case measure => simp [intOf]; omega
    · go_wp2
      go_ret
      exact ⟨rfl, HB.out⟩
theorem eqRowsM_zero (a a2 : Option Addr) (c c2 : Nat) (w : World) :
    Calls Try.prog 25 #[.slice a 0 c, .slice a2 0 c2] w fun e w' => e = .returned (.bool true) ∧ Below w.heap.size w w' := by
  go_enter Try.func25, Try.ntmps25
  go_wp2
  refine wp_loop_rounds 1 ?_
  rw [rounds_succ]
  go_wp2
  go_ret
  exact ⟨rfl, Below.refl _ _⟩
theorem eqRowsM_at (ws : List (List Int)) (v1 v2 : Value) (w : World) (h1 : RowsAt w v1 ws) (h2 : RowsAt w v2 ws) :
    Calls Try.prog 25 #[v1, v2] w fun e w' => e = .returned (.bool true) ∧ Below w.heap.size w w' := by
  obtain ⟨hl, ⟨a, c, rfl, rfl⟩ | ⟨b, off, cap, rfl, hb, hc⟩⟩ := h1
  · obtain ⟨a2, c2, rfl⟩ := mrows_form h2
    exact eqRowsM_zero a a2 c c2 w
  · obtain ⟨_, ⟨a, c, rfl, rfl⟩ | ⟨b2, off2, cap2, rfl, hb2, hc2⟩⟩ := h2
    · exact eqRowsM_zero _ _ _ _ w
    · exact eqRowsM_some ws b off cap b2 off2 cap2 w _ hl hb hb2 hc hc2
end Go.Proofs.Ytpjopfhkgegahaa
