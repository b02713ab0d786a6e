/- Slices of strings: an argument opened; measured, copied, compared. -/
import Derived.Test.YtjicnfgpbbganaaDoorInts
import Derived.Test.YtjicnfgpbbganaaDoorBase
import Derived.Deep.Slices
import Derived.Deep.Strs
import Derived.Lib.SmallJoins
set_option linter.unusedVariables false
namespace Go.Proofs.YtjicnfgpbbganaaDoor
open Go.ChangeShapes Go.WideShapes Go.ChangeAt Go.RowKit Go.Deep

theorem infoSt : (Tryd.prog.info? 9).map (fun i => (i.zero, i.size, i.bytes)) = some (some (.string ByteArray.empty), 1, 16) := by kernel_rfl
def stV (ss : List ByteArray) : List Value := ss.map (Value.string)
theorem stV_get (ss : List ByteArray) (j : Nat) (h : j < ss.length) : (stV ss)[j]? = some (.string (ss.getD j ByteArray.empty)) := by simp [stV, List.getD, h]

/-- The slice v reads as ss. -/
def StAt (w : World) (v : Value) (ss : List ByteArray) : Prop :=
  ss.length ≤ 1048576 ∧ ((∃ a c, v = .slice a 0 c ∧ ss = []) ∨ ∃ b off cap, v = .slice (some ⟨b, off, none⟩) ss.length cap ∧ b < w.heap.size ∧ ∀ j, j < ss.length → w.cell? ⟨b, off + j, none⟩ = some (.string (ss.getD j ByteArray.empty)))
/-- .. in a block of its own, from B on, that may be written. -/
def OwnSt (w : World) (B : Nat) (v : Value) (ss : List ByteArray) : Prop := ∃ g cap, v = .slice (some ⟨g, 0, none⟩) ss.length cap ∧ B ≤ g ∧ g < w.heap.size ∧ w.ownsRow B 9 1 v ss.length (stV ss)

theorem st_kept {w w' : World} {v : Value} {ss : List ByteArray} (hb : Below w.heap.size w w') (h : StAt w v ss) : StAt w' v ss := by
  obtain ⟨hl, h | ⟨b, off, cap, rfl, hlt, hc⟩⟩ := h
  · exact ⟨hl, .inl h⟩
  · exact ⟨hl, .inr ⟨b, off, cap, rfl, by have := hb.size; omega, fun j hj => by rw [hb.cell (p := ⟨b, off + j, none⟩) hlt]; exact hc j hj⟩⟩
theorem own_st {w : World} {B : Nat} {v : Value} {ss : List ByteArray} (hl : ss.length ≤ 1048576) (h : OwnSt w B v ss) : StAt w v ss := by
  obtain ⟨g, cap, rfl, _, hg, hown⟩ := h
  refine ⟨hl, .inr ⟨g, 0, cap, rfl, hg, fun j hj => ?_⟩⟩
  rw [Nat.zero_add, hown.cellAt j (by omega)]
  exact stV_get ss j hj
theorem ownSt_kept {w w' : World} {B : Nat} {v : Value} {ss : List ByteArray} (hb : Below w.heap.size w w') (h : OwnSt w B v ss) : OwnSt w' B v ss := by
  obtain ⟨g, cap, rfl, h1, h2, hown⟩ := h
  have hs := hb.size
  exact ⟨g, cap, rfl, h1, by omega, hown.kept (row := none) ⟨hb.os, hb.tape, hb.output, hb.size, fun k hk _ => hb.block k hk⟩ (.inr (by simp [Value.ownBlock]))⟩

/-- What the copy holds after k rounds. -/
def copiedS (ss : List ByteArray) (k : Nat) : List ByteArray := ss.take k ++ List.replicate (ss.length - k) ByteArray.empty
theorem copiedSS_len (ss : List ByteArray) (k : Nat) (h : k ≤ ss.length) : (copiedS ss k).length = ss.length := by simp [copiedS]; omega
theorem copiedSS_next (ss : List ByteArray) (k : Nat) (h : k < ss.length) : (stV (copiedS ss k)).set k (.string (ss.getD k ByteArray.empty)) = stV (copiedS ss (k + 1)) := by
  unfold copiedS stV
  rw [show ss.length - k = ss.length - (k + 1) + 1 from by omega, List.replicate_succ, List.map_append, List.map_cons, List.set_append_right _ _ (by simp; omega), List.length_map, List.length_take,
    Nat.min_eq_left (by omega), Nat.sub_self, List.set_cons_zero, List.take_succ_eq_append_getElem h, List.map_append, List.map_append]
  simp [List.getD, h]
theorem made_st (n : Nat) : (madeCells (Value.string ByteArray.empty).cells (n * 1)).toList = stV (List.replicate n ByteArray.empty) := by
  unfold madeCells stV
  rw [List.map_replicate, Nat.mul_one]
  apply List.ext_getElem?
  intro j
  by_cases h : j < n
  · simp [h, Value.cells, Nat.mod_one]
  · simp [h]

set_option maxHeartbeats 1000000 in
set_option maxRecDepth 100000 in
theorem toSt_some (ss : List ByteArray) (b off cap : Nat) (w : World) (hl : ss.length ≤ 1048576) (hlt : b < w.heap.size) (hc : ∀ j, j < ss.length → w.cell? ⟨b, off + j, none⟩ = some (.string (ss.getD j ByteArray.empty))) (n : Nat) (hn : Hid (ss.length = n)) :
    Calls Tryd.prog 51 #[.slice (some ⟨b, off, none⟩) n cap] w fun e w' => ∃ g, e = .returned (.slice (some ⟨g, 0, none⟩) n n) ∧ w.heap.size ≤ g ∧ g < w'.heap.size ∧ w'.ownsRow w.heap.size 9 1 (.slice (some ⟨g, 0, none⟩) n n) n (stV ss) ∧ Below w.heap.size w w' := by
  obtain ⟨i0, hi, hz0, hz1, hz2⟩ := info_parts infoSt
  have hn1 : n ≤ 1048576 := by rw [← hn.out]; exact hl
  have HC := Lib.hid hc
  clear hc hl
  go_enter Tryd.func51, Tryd.ntmps51
  go_wp2_with (at_make; refine wpList_make_full _ rfl _ _ 34 rfl w.heap.size 9 i0 (.string ByteArray.empty) 1 Tryd.underlying34 hi hz0 hz1 .i64 .i64 _ _ n rfl rfl rfl rfl (by rw [hz2]; omega) (by unfold maxLen; omega) (Nat.le_refl _) ?_; intro w0 hown hgrow)
  have HB0 := Lib.hid ((Below.refl w.heap.size w).grown hgrow (Nat.le_refl _) (fun k hk => by cases hk))
  rw [made_st] at hown
  have HO0 := Lib.hid (show w0.ownsRow w.heap.size 9 1 (.slice (some ⟨w.heap.size, 0, none⟩) n n) n (stV (copiedS ss 0)) by
    unfold copiedS; rw [hn.out, Nat.sub_zero, List.take_zero, List.nil_append]; exact hown)
  clear hgrow hown
  go_wp2
  go_loopw [4] (fun i wr => ∃ k : Nat, k ≤ n ∧ i = .int .i64 k ∧ wr.ownsRow w.heap.size 9 1 (.slice (some ⟨w.heap.size, 0, none⟩) n n) n (stV (copiedS ss k)) ∧ Below w.heap.size w wr) (fun i _ => n - (intOf i).toNat)
  case atStart => exact ⟨0, by omega, rfl, HO0.out, HB0.out⟩
  case round =>
    obtain ⟨k, hk, rfl, hown, hbw⟩ := hrel
    by_cases hlt2 : k < n
    · have hcell : wr.cell? ⟨b, off + k, none⟩ = some (.string (ss.getD k ByteArray.empty)) := by rw [hbw.cell (p := ⟨b, off + k, none⟩) hlt]; exact HC.out k (by rw [hn.out]; exact hlt2)
      have hf := hown.frozenAt k
      have hat : wr.cell? ⟨w.heap.size, k, none⟩ = (stV (copiedS ss k))[k]? := hown.cellAt k (by omega)
      rw [stV_get _ _ (by rw [copiedSS_len _ _ (by rw [hn.out]; omega), hn.out]; exact hlt2)] at hat
      have HS := Lib.hid (hown.stored k (.string (ss.getD k ByteArray.empty)))
      have HN := Lib.hid (copiedSS_next ss k (by rw [hn.out]; exact hlt2))
      have HB := Lib.hid hbw
      clear hown hbw
      generalize (copiedS ss k).getD k ByteArray.empty = old at *
      generalize ss.getD k ByteArray.empty = z at *
      go_wp2
      go_roundw
      case rel => exact ⟨k + 1, by omega, by go_num, by rw [← HN.out]; exact HS.out.1, HB.out.setCell (by exact Nat.le_refl _) _⟩
      case measure => simp [intOf]; omega
    · obtain rfl : k = n := by omega
      have HO := Lib.hid hown
      have HB := Lib.hid hbw
      clear hown hbw
      have hc2 : copiedS ss k = ss := by unfold copiedS; rw [hn.out, Nat.sub_self]; rw [List.take_of_length_le (by rw [hn.out]; exact Nat.le_refl _)]; simp
      rw [hc2] at HO
      clear hc2
      go_wp2
      go_ret
      exact ⟨w.heap.size, rfl, Nat.le_refl _, (HO.out.lt _ rfl).2, HO.out, HB.out⟩

set_option maxRecDepth 100000 in
theorem toSt_none (a : Option Addr) (c : Nat) (w : World) :
    Calls Tryd.prog 51 #[.slice a 0 c] w fun e w' => ∃ g, e = .returned (.slice (some ⟨g, 0, none⟩) 0 0) ∧ w.heap.size ≤ g ∧ g < w'.heap.size ∧ w'.ownsRow w.heap.size 9 1 (.slice (some ⟨g, 0, none⟩) 0 0) 0 (stV []) ∧ Below w.heap.size w w' := by
  obtain ⟨i0, hi, hz0, hz1, hz2⟩ := info_parts infoSt
  go_enter Tryd.func51, Tryd.ntmps51
  go_wp2_with (at_make; refine wpList_make_full _ rfl _ _ 34 rfl w.heap.size 9 i0 (.string ByteArray.empty) 1 Tryd.underlying34 hi hz0 hz1 .i64 .i64 _ _ 0 rfl rfl rfl rfl (by omega) (by unfold maxLen; omega) (Nat.le_refl _) ?_; intro w0 hown hgrow)
  have HB0 := Lib.hid ((Below.refl w.heap.size w).grown hgrow (Nat.le_refl _) (fun k hk => by cases hk))
  rw [made_st] at hown
  have HO0 := Lib.hid hown
  clear hgrow hown
  go_wp2
  refine wp_loop_rounds 1 ?_
  rw [rounds_succ]
  go_wp2
  go_ret
  exact ⟨w.heap.size, rfl, Nat.le_refl _, (HO0.out.lt _ rfl).2, HO0.out, HB0.out⟩

def CopySt (w : World) (ss : List ByteArray) (e : Ending) (w' : World) : Prop := ∃ v, e = .returned v ∧ OwnSt w' w.heap.size v ss ∧ Below w.heap.size w w'
theorem toSt_any (ss : List ByteArray) (v : Value) (w : World) (h : StAt w v ss) : Calls Tryd.prog 51 #[v] w (CopySt w ss) := by
  obtain ⟨hl, ⟨a, c, rfl, rfl⟩ | ⟨b, off, cap, rfl, hlt, hc⟩⟩ := h
  · refine (toSt_none a c w).mono ?_
    rintro e w' ⟨g, rfl, h1, h2, h3, h4⟩
    exact ⟨_, rfl, ⟨g, 0, rfl, h1, h2, h3⟩, h4⟩
  · refine (toSt_some ss b off cap w hl hlt hc _ rfl).mono ?_
    rintro e w' ⟨g, rfl, h1, h2, h3, h4⟩
    exact ⟨_, rfl, ⟨g, _, rfl, h1, h2, h3⟩, h4⟩
set_option maxHeartbeats 1000000 in
theorem eqSt_some (ss : List ByteArray) (b o c b2 o2 c2 : Nat) (w : World) (n : Nat) (hn1 : n ≤ 1048576)
    (h1 : ∀ j, j < n → w.cell? ⟨b, o + j, none⟩ = some (.string (ss.getD j ByteArray.empty))) (h2 : ∀ j, j < n → w.cell? ⟨b2, o2 + j, none⟩ = some (.string (ss.getD j ByteArray.empty))) :
    Calls Tryd.prog 30 #[.slice (some ⟨b, o, none⟩) n c, .slice (some ⟨b2, o2, none⟩) n c2] w fun e w' => e = .returned (.bool true) ∧ Below w.heap.size w w' := by
  have H1 := Lib.hid h1
  have H2 := Lib.hid h2
  clear h1 h2
  have hne : ((n : Int) != n) = false := by simp
  go_enter Tryd.func30, Tryd.ntmps30
  go_wp2
  go_loopw [5] (fun i wr => ∃ k m : Nat, k ≤ n ∧ i = .int .i64 k ∧ wr = w.drewN m) (fun i _ => n - (intOf i).toNat)
  case atStart => exact ⟨0, 0, by omega, rfl, rfl⟩
  case round =>
    obtain ⟨k, m, hk, rfl, rfl⟩ := hrel
    by_cases hlt : k < n
    · have hc1 := H1.out k hlt
      have hc2 := H2.out k hlt
      generalize ss.getD k ByteArray.empty = z at *
      have hz : (z.toList != z.toList) = false := by simp
      have hz2 : (z.toList == z.toList) = true := by simp
      have hlt1 : (k : Int) < (n : Int) := by omega
      go_wp2
      go_quiet (fail)
      go_wp2
      go_roundw
      case rel => exact ⟨k + 1, _, by omega, by go_num, rfl⟩
      case measure => simp [intOf]; omega
    · go_wp2
      go_ret
      exact ⟨rfl, below_drewN _ _⟩
theorem eqSt_zero (a a2 : Option Addr) (c c2 : Nat) (w : World) :
    Calls Tryd.prog 30 #[.slice a 0 c, .slice a2 0 c2] w fun e w' => e = .returned (.bool true) ∧ Below w.heap.size w w' := by
  go_enter Tryd.func30, Tryd.ntmps30
  go_wp2
  refine wp_loop_rounds 1 ?_
  rw [rounds_succ]
  go_wp2
  go_ret
  exact ⟨rfl, Below.refl _ _⟩
theorem ownSt_cells {w : World} {B g cap n : Nat} {ss : List ByteArray} (hn : ss.length = n) (hown : w.ownsRow B 9 1 (.slice (some ⟨g, 0, none⟩) n cap) n (stV ss)) : ∀ j, j < n → w.cell? ⟨g, 0 + j, none⟩ = some (.string (ss.getD j ByteArray.empty)) := by
  intro j hj
  rw [Nat.zero_add, hown.cellAt j (by omega)]
  exact stV_get ss j (by omega)
theorem eqSt_own (ss : List ByteArray) (hl : ss.length ≤ 1048576) (B B2 : Nat) (v v2 : Value) (w : World) (h : OwnSt w B v ss) (h2 : OwnSt w B2 v2 ss) :
    Calls Tryd.prog 30 #[v, v2] w fun e w' => e = .returned (.bool true) ∧ Below w.heap.size w w' := by
  obtain ⟨g, cap, rfl, _, _, hown⟩ := h
  obtain ⟨g2, cap2, rfl, _, _, hown2⟩ := h2
  exact eqSt_some ss g 0 cap g2 0 cap2 w _ hl (ownSt_cells rfl hown) (ownSt_cells rfl hown2)


theorem alloc_ltT (w : World) (o : Obj) : w.heap.size < (w.alloc o).heap.size := by show _ < (w.heap.push o).size; rw [Array.size_push]; omega
theorem below_alT (w : World) (o : Obj) : Below w.heap.size w (w.alloc o) := (Below.refl _ _).alloc (Nat.le_refl _) o
theorem row_keepT {w w' : World} {B sz : Nat} {e : TypeId} {v : Value} {n : Nat} {xs : List Value} (hb : Below w.heap.size w w') (h : w.ownsRow B e sz v n xs) : w'.ownsRow B e sz v n xs :=
  h.kept (row := none) ⟨hb.os, hb.tape, hb.output, hb.size, fun k hk _ => hb.block k hk⟩ (by cases hv : v.ownBlock <;> simp)
theorem st_form {w : World} {v : Value} {ss : List ByteArray} (h : StAt w v ss) : ∃ a c, v = .slice a ss.length c := by
  obtain ⟨_, ⟨a, c, rfl, rfl⟩ | ⟨b, off, cap, rfl, _⟩⟩ := h
  · exact ⟨_, _, rfl⟩
  · exact ⟨_, _, rfl⟩
theorem ownSt_form {w : World} {B : Nat} {v : Value} {ss : List ByteArray} (h : OwnSt w B v ss) : ∃ a c, v = .slice a ss.length c := by
  obtain ⟨g, cap, rfl, _⟩ := h
  exact ⟨_, _, rfl⟩
theorem ownSt_base {w : World} {B B' : Nat} {v : Value} {ss : List ByteArray} (h : OwnSt w B v ss) (hB : B' ≤ B) : OwnSt w B' v ss := by
  obtain ⟨g, cap, rfl, h1, h2, ⟨h3, h4⟩⟩ := h
  refine ⟨g, cap, rfl, by omega, h2, h3, ?_⟩
  rcases h4 with h | ⟨g', cap', cur, e, hb, rest⟩
  · exact .inl h
  · exact .inr ⟨g', cap', cur, e, by omega, rest⟩
theorem ownSt_set {w : World} {B : Nat} {v : Value} {ss : List ByteArray} (h : OwnSt w B v ss) (b o : Nat) (x : Value) (hb : b < B) : OwnSt (w.setCell ⟨b, o, none⟩ x) B v ss := by
  obtain ⟨g, cap, rfl, h1, h2, hown⟩ := h
  refine ⟨g, cap, rfl, h1, by simpa using h2, hown.kept (row := some b) ⟨rfl, rfl, rfl, by simp, fun k _ hk => Below.heap_setCell _ _ _ _ (by intro e; exact hk (by simp only at e; rw [e]))⟩ (.inr (by simp [Value.ownBlock]; omega))⟩
theorem eqSt_at (ss : List ByteArray) (v1 v2 : Value) (w : World) (h1 : StAt w v1 ss) (h2 : StAt w v2 ss) :
    Calls Tryd.prog 30 #[v1, v2] w fun e w' => e = .returned (.bool true) ∧ Below w.heap.size w w' := by
  obtain ⟨hl, ⟨a, c, rfl, rfl⟩ | ⟨b, off, cap, rfl, hb, hc⟩⟩ := h1
  · obtain ⟨a2, c2, rfl⟩ := st_form h2
    exact eqSt_zero a a2 c c2 w
  · obtain ⟨_, ⟨a, c, rfl, rfl⟩ | ⟨b2, off2, cap2, rfl, hb2, hc2⟩⟩ := h2
    · exact eqSt_zero _ _ _ _ w
    · exact eqSt_some ss b off cap b2 off2 cap2 w _ hl hc hc2
/-- The strings of a list are no longer than strings are. -/
def SzSt (ss : List ByteArray) : Prop := ∀ i, i < ss.length → (ss.getD i ByteArray.empty).size ≤ 9223372036854775807
/-- How long the first k strings are together. -/
def lenT (ss : List ByteArray) : Nat → Nat
  | 0 => 0
  | k + 1 => lenT ss k + (ss.getD k ByteArray.empty).size
theorem lenT_mono (ss : List ByteArray) {j k : Nat} (h : j ≤ k) : lenT ss j ≤ lenT ss k := by
  induction k with
  | zero => obtain rfl : j = 0 := by omega
            exact Nat.le_refl _
  | succ k ih =>
    by_cases e : j = k + 1
    · subst e; exact Nat.le_refl _
    · have := ih (by omega)
      show lenT ss j ≤ lenT ss k + (ss.getD k ByteArray.empty).size
      omega
/-- What is left of a measure. -/
def leftT (n q : Nat) (left : Int) : Int := if (n : Int) + q ≤ left then left - n - q else -1
theorem leftT_yes {n q : Nat} {left : Int} (h : (n : Int) + q ≤ left) : leftT n q left = left - n - q := by unfold leftT; rw [if_pos h]
theorem leftT_no {n q : Nat} {left : Int} (h : ¬ (n : Int) + q ≤ left) : leftT n q left = -1 := by unfold leftT; rw [if_neg h]
theorem szSt_big (a : Option Addr) (n c : Nat) (left : Int) (w : World) (hn : n ≤ 9223372036854775807) (h0 : 0 ≤ left) (h1 : left ≤ 1048576) (hb : left - (n : Int) < 0) :
    Calls Tryd.prog 48 #[.slice a n c, .int .i64 left] w fun e w' => e = .returned (.int .i64 (-1)) ∧ Below w.heap.size w w' := by
  go_enter Tryd.func48, Tryd.ntmps48
  go_wp2
  go_ret
  exact ⟨rfl, Below.refl _ _⟩
theorem szSt_none (a : Option Addr) (c : Nat) (left : Int) (w : World) (h0 : 0 ≤ left) (h1 : left ≤ 1048576) :
    Calls Tryd.prog 48 #[.slice a 0 c, .int .i64 left] w fun e w' => e = .returned (.int .i64 left) ∧ Below w.heap.size w w' := by
  go_enter Tryd.func48, Tryd.ntmps48
  go_wp2
  refine wp_loop_rounds 1 ?_
  rw [rounds_succ]
  go_wp2
  go_ret
  exact ⟨rfl, Below.refl _ _⟩
set_option maxHeartbeats 2000000 in
theorem szSt_some (ss : List ByteArray) (b off cap n : Nat) (left : Int) (w : World) (hn : Hid (ss.length = n)) (h0 : 0 ≤ left) (h1 : left ≤ 1048576) (hnl : (n : Int) ≤ left) (hbl : b < w.heap.size) (hc : ∀ i, i < n → w.cell? ⟨b, off + i, none⟩ = some (.string (ss.getD i ByteArray.empty))) (hsz : ∀ i, i < n → (ss.getD i ByteArray.empty).size ≤ 9223372036854775807) :
    Calls Tryd.prog 48 #[.slice (some ⟨b, off, none⟩) n cap, .int .i64 left] w fun e w' => e = .returned (.int .i64 (leftT n (lenT ss n) left)) ∧ Below w.heap.size w w' := by
  have HC := Lib.hid hc
  have HSZ := Lib.hid hsz
  have h : ¬ left - (n : Int) < 0 := by omega
  clear hc hsz
  go_enter Tryd.func48, Tryd.ntmps48
  go_wp2
  go_loopw [1, 5] (fun l i wr => ∃ k : Nat, k ≤ n ∧ (n : Int) + (lenT ss k : Nat) ≤ left ∧ i = .int .i64 k ∧ l = .int .i64 (left - n - (lenT ss k : Nat)) ∧ Below w.heap.size w wr) (fun _ i _ => n - (intOf i).toNat)
  case atStart => exact ⟨0, by omega, by simp [lenT]; omega, rfl, by simp [lenT], Below.refl _ _⟩
  case round =>
    obtain ⟨k, hk, hT, rfl, rfl, hbw⟩ := hrel
    have HB := Lib.hid hbw
    by_cases hlt : k < n
    · have c0 : wr.cell? ⟨b, off + k, none⟩ = some (.string (ss.getD k ByteArray.empty)) := by rw [hbw.cell (p := ⟨b, off + k, none⟩) hbl]; exact HC.out k hlt
      have hs := HSZ.out k hlt
      have HNX := Lib.hid (show lenT ss (k + 1) = lenT ss k + (ss.getD k ByteArray.empty).size from rfl)
      have HMO := Lib.hid (lenT_mono ss (show k + 1 ≤ n by omega))
      generalize ss.getD k ByteArray.empty = x0 at *
      generalize hq : lenT ss k = q at *
      have hlt1 : (k : Int) < (n : Int) := by omega
      have hk0 : (0 : Int) ≤ (k : Int) := by omega
      clear hbw
      by_cases hbig : (n : Int) + q + x0.size ≤ left
      · have hp : ¬ left - n - q - x0.size < 0 := by omega
        go_wp2
        go_roundw
        case rel => exact ⟨k + 1, by omega, by rw [HNX.out]; omega, by go_num, by rw [HNX.out]; congr 1; omega, HB.out⟩
        case measure => simp [intOf]; omega
      · have hp : left - n - q - x0.size < 0 := by omega
        have HE := Lib.hid (show leftT n (lenT ss n) left = -1 by
          have := HMO.out
          rw [HNX.out] at this
          exact leftT_no (by omega))
        go_wp2
        go_ret
        exact ⟨by rw [HE.out]; rfl, HB.out⟩
    · obtain rfl : k = n := by omega
      have HE := Lib.hid (leftT_yes hT)
      clear hbw
      go_wp2
      go_ret
      exact ⟨ret_i64 HE.out.symm, HB.out⟩
theorem szSt_any (ss : List ByteArray) (v : Value) (left : Int) (w : World) (h : StAt w v ss) (hz : SzSt ss) (h0 : 0 ≤ left) (h1 : left ≤ 1048576) :
    Calls Tryd.prog 48 #[v, .int .i64 left] w fun e w' => e = .returned (.int .i64 (leftT ss.length (lenT ss ss.length) left)) ∧ Below w.heap.size w w' := by
  by_cases hl0 : ss.length = 0
  · obtain rfl : ss = [] := List.length_eq_zero_iff.1 hl0
    obtain ⟨a, c, rfl⟩ := st_form h
    have he : leftT ([] : List ByteArray).length (lenT [] ([] : List ByteArray).length) left = left := by rw [leftT_yes (by simp [lenT]; omega)]; simp [lenT]
    rw [he]
    exact szSt_none a c left w h0 h1
  · by_cases hnl : (ss.length : Int) ≤ left
    · have hl := h.1
      obtain ⟨_, ⟨a, c, rfl, rfl⟩ | ⟨b, off, cap, rfl, hb, hc⟩⟩ := h
      · exact absurd rfl hl0
      · exact szSt_some ss b off cap _ left w (Lib.hid rfl) h0 h1 hnl hb hc hz
    · have hl := h.1
      obtain ⟨a, c, rfl⟩ := st_form h
      rw [leftT_no (by omega)]
      exact szSt_big a _ c left w (by omega) h0 h1 (by omega)
section
variable {H : Type} {enc : TypeId × Value → H}
set_option maxRecDepth 20000 in
/-- An argument of type []string. -/
theorem st_arg {W : World} {fuel : Nat} {a : Option Addr} {len cap : Nat} {d : DataW H} {p : List MemPlace} (hf : DataW.trod enc Tryd.prog W 0 (fun _ => true) true fuel 34 (Value.slice a len cap).cells.toList = some (d, p))
    (hlt : ∀ x ∈ p, x.block < W.heap.size) : len ≤ 9223372036854775807 ∧ (len ≤ 1048576 → ∃ ss : List ByteArray, ss.length = len ∧ StAt W (.slice a len cap) ss ∧ SzSt ss) := by
  have ce : Tryd.prog.cellsOf 9 = 1 := by kernel_rfl
  rcases open_slice Tryd.underlying34 hf with ⟨hcs, hx⟩ | ⟨a', len', cap', m, n, D, Pl, hcs, hb, hl, hm, hmm, hx, hel⟩
  · simp [Value.cells] at hcs
    obtain ⟨rfl, rfl, rfl⟩ := hcs
    exact ⟨by omega, fun _ => ⟨[], rfl, ⟨by simp, .inl ⟨_, _, rfl, rfl⟩⟩, fun i hi => by simp at hi⟩⟩
  · simp [Value.cells] at hcs
    obtain ⟨rfl, rfl, rfl⟩ := hcs
    simp only [Prod.mk.injEq] at hx
    obtain ⟨rfl, rfl⟩ := hx
    simp only [if_true] at hmm
    subst hmm
    rw [ce] at hel hlt
    unfold maxLen at hm
    have each : ∀ i, i < len → ∃ r : ByteArray, W.cell? (a'.add i) = some (.string r) ∧ r.size ≤ 9223372036854775807 := by
      intro i hi
      obtain ⟨cs', h1, h2⟩ := hel i (by omega)
      obtain ⟨_, hlen, hcell⟩ := World.cells?_some h1
      obtain ⟨s, hs, -, hz⟩ := DataW.trod_string Tryd.underlying9 h2
      subst hs
      have e0 := hcell 0 (by simp)
      rw [add_add] at e0
      unfold maxLen at hz
      exact ⟨s, by simpa using e0, hz⟩
    refine ⟨by omega, fun hs => ?_⟩
    obtain ⟨R, hR⟩ := choose_lt (α := ByteArray) each
    have hlR : ((List.range len).map R).length = len := by simp
    have hg : ∀ i, i < len → ((List.range len).map R).getD i ByteArray.empty = R i := fun i hi => by simp [List.getD, hi]
    refine ⟨(List.range len).map R, hlR, ⟨by omega, ?_⟩, fun i hi => by rw [hlR] at hi; rw [hg i hi]; exact (hR i hi).2⟩
    by_cases hl0 : len = 0
    · subst hl0
      exact .inl ⟨_, _, rfl, by simp⟩
    · obtain ⟨b, off, spot⟩ := a'
      have hspot : spot = none := by simpa [Addr.add] using World.cell?_spot (hR 0 (by omega)).1
      subst hspot
      have hbW : b < W.heap.size := hlt (.cell b off) (List.mem_append.2 (.inl (MemPlace.mem_row.2 ⟨0, by omega, by simp⟩)))
      refine .inr ⟨b, off, _, by rw [hlR], hbW, fun i hi => ?_⟩
      rw [hlR] at hi
      rw [hg i hi, ← add_plain]
      exact (hR i hi).1
end
end Go.Proofs.YtjicnfgpbbganaaDoor
