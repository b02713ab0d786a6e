/- Slices of strings: an argument opened; measured, copied, compared. -/
import Derived.Test.YtjicnfgpbbganabDoorInts
import Derived.Test.YtjicnfgpbbganabDoorBase
import Derived.Deep.Slices
import Derived.Deep.Strs
import Derived.Lib.SmallJoins
set_option linter.unusedVariables false
namespace Go.Proofs.YtjicnfgpbbganabDoor
open Go.ChangeShapes Go.WideShapes Go.ChangeAt Go.RowKit Go.Deep

theorem infoSt : (Tryd.prog.info? 9).map (fun i => (i.zero, i.size, i.bytes)) = some (some (.string ByteArray.empty), 1, 16) := by kernel_rfl
def stV (ss : List ByteArray) : List Value := ss.map (Value.string)
theorem stV_get (ss : List ByteArray) (j : Nat) (h : j < ss.length) : (stV ss)[j]? = some (.string (ss.getD j ByteArray.empty)) := by simp [stV, List.getD, h]

/-- The slice v reads as ss. -/
def StAt (w : World) (v : Value) (ss : List ByteArray) : Prop :=
  ss.length ≤ 1048576 ∧ ((∃ a c, v = .slice a 0 c ∧ ss = []) ∨ ∃ b off cap, v = .slice (some ⟨b, off, none⟩) ss.length cap ∧ b < w.heap.size ∧ ∀ j, j < ss.length → w.cell? ⟨b, off + j, none⟩ = some (.string (ss.getD j ByteArray.empty)))
/-- .. in a block of its own, from B on, that may be written. -/
def OwnSt (w : World) (B : Nat) (v : Value) (ss : List ByteArray) : Prop := ∃ g cap, v = .slice (some ⟨g, 0, none⟩) ss.length cap ∧ B ≤ g ∧ g < w.heap.size ∧ w.ownsRow B 9 1 v ss.length (stV ss)

theorem st_kept {w w' : World} {v : Value} {ss : List ByteArray} (hb : Below w.heap.size w w') (h : StAt w v ss) : StAt w' v ss := by
  obtain ⟨hl, h | ⟨b, off, cap, rfl, hlt, hc⟩⟩ := h
  · exact ⟨hl, .inl h⟩
  · exact ⟨hl, .inr ⟨b, off, cap, rfl, by have := hb.size; omega, fun j hj => by rw [hb.cell (p := ⟨b, off + j, none⟩) hlt]; exact hc j hj⟩⟩
theorem own_st {w : World} {B : Nat} {v : Value} {ss : List ByteArray} (hl : ss.length ≤ 1048576) (h : OwnSt w B v ss) : StAt w v ss := by
  obtain ⟨g, cap, rfl, _, hg, hown⟩ := h
  refine ⟨hl, .inr ⟨g, 0, cap, rfl, hg, fun j hj => ?_⟩⟩
  rw [Nat.zero_add, hown.cellAt j (by omega)]
  exact stV_get ss j hj
theorem ownSt_kept {w w' : World} {B : Nat} {v : Value} {ss : List ByteArray} (hb : Below w.heap.size w w') (h : OwnSt w B v ss) : OwnSt w' B v ss := by
  obtain ⟨g, cap, rfl, h1, h2, hown⟩ := h
  have hs := hb.size
  exact ⟨g, cap, rfl, h1, by omega, hown.kept (row := none) ⟨hb.os, hb.tape, hb.output, hb.size, fun k hk _ => hb.block k hk⟩ (.inr (by simp [Value.ownBlock]))⟩

/-- What the copy holds after k rounds. -/
def copiedS (ss : List ByteArray) (k : Nat) : List ByteArray := ss.take k ++ List.replicate (ss.length - k) ByteArray.empty
theorem copiedSS_len (ss : List ByteArray) (k : Nat) (h : k ≤ ss.length) : (copiedS ss k).length = ss.length := by simp [copiedS]; omega
theorem copiedSS_next (ss : List ByteArray) (k : Nat) (h : k < ss.length) : (stV (copiedS ss k)).set k (.string (ss.getD k ByteArray.empty)) = stV (copiedS ss (k + 1)) := by
  unfold copiedS stV
  rw [show ss.length - k = ss.length - (k + 1) + 1 from by omega, List.replicate_succ, List.map_append, List.map_cons, List.set_append_right _ _ (by simp; omega), List.length_map, List.length_take,
    Nat.min_eq_left (by omega), Nat.sub_self, List.set_cons_zero, List.take_succ_eq_append_getElem h, List.map_append, List.map_append]
  simp [List.getD, h]
theorem made_st (n : Nat) : (madeCells (Value.string ByteArray.empty).cells (n * 1)).toList = stV (List.replicate n ByteArray.empty) := by
  unfold madeCells stV
  rw [List.map_replicate, Nat.mul_one]
  apply List.ext_getElem?
  intro j
  by_cases h : j < n
  · simp [h, Value.cells, Nat.mod_one]
  · simp [h]

set_option maxHeartbeats 1000000 in
theorem eqSt_some (ss : List ByteArray) (b o c b2 o2 c2 : Nat) (w : World) (n : Nat) (hn1 : n ≤ 1048576)
    (h1 : ∀ j, j < n → w.cell? ⟨b, o + j, none⟩ = some (.string (ss.getD j ByteArray.empty))) (h2 : ∀ j, j < n → w.cell? ⟨b2, o2 + j, none⟩ = some (.string (ss.getD j ByteArray.empty))) :
    Calls Tryd.prog 13 #[.slice (some ⟨b, o, none⟩) n c, .slice (some ⟨b2, o2, none⟩) n c2] w fun e w' => e = .returned (.bool true) ∧ Below w.heap.size w w' := by
  have H1 := Lib.hid h1
  have H2 := Lib.hid h2
  clear h1 h2
  have hne : ((n : Int) != n) = false := by simp
  go_enter Tryd.func13, Tryd.ntmps13
  go_wp2
  go_loopw [5] (fun i wr => ∃ k m : Nat, k ≤ n ∧ i = .int .i64 k ∧ wr = w.drewN m) (fun i _ => n - (intOf i).toNat)
  case atStart => exact ⟨0, 0, by omega, rfl, rfl⟩
  case round =>
    obtain ⟨k, m, hk, rfl, rfl⟩ := hrel
    by_cases hlt : k < n
    · have hc1 := H1.out k hlt
      have hc2 := H2.out k hlt
      generalize ss.getD k ByteArray.empty = z at *
      have hz : (z.toList != z.toList) = false := by simp
      have hz2 : (z.toList == z.toList) = true := by simp
      have hlt1 : (k : Int) < (n : Int) := by omega
      go_wp2
      go_quiet (fail)
      go_wp2
      go_roundw
      case rel => exact ⟨k + 1, _, by omega, by go_num, rfl⟩
      case measure => simp [intOf]; omega
    · go_wp2
      go_ret
      exact ⟨rfl, below_drewN _ _⟩
theorem eqSt_zero (a a2 : Option Addr) (c c2 : Nat) (w : World) :
    Calls Tryd.prog 13 #[.slice a 0 c, .slice a2 0 c2] w fun e w' => e = .returned (.bool true) ∧ Below w.heap.size w w' := by
  go_enter Tryd.func13, Tryd.ntmps13
  go_wp2
  refine wp_loop_rounds 1 ?_
  rw [rounds_succ]
  go_wp2
  go_ret
  exact ⟨rfl, Below.refl _ _⟩
theorem ownSt_cells {w : World} {B g cap n : Nat} {ss : List ByteArray} (hn : ss.length = n) (hown : w.ownsRow B 9 1 (.slice (some ⟨g, 0, none⟩) n cap) n (stV ss)) : ∀ j, j < n → w.cell? ⟨g, 0 + j, none⟩ = some (.string (ss.getD j ByteArray.empty)) := by
  intro j hj
  rw [Nat.zero_add, hown.cellAt j (by omega)]
  exact stV_get ss j (by omega)
theorem eqSt_own (ss : List ByteArray) (hl : ss.length ≤ 1048576) (B B2 : Nat) (v v2 : Value) (w : World) (h : OwnSt w B v ss) (h2 : OwnSt w B2 v2 ss) :
    Calls Tryd.prog 13 #[v, v2] w fun e w' => e = .returned (.bool true) ∧ Below w.heap.size w w' := by
  obtain ⟨g, cap, rfl, _, _, hown⟩ := h
  obtain ⟨g2, cap2, rfl, _, _, hown2⟩ := h2
  exact eqSt_some ss g 0 cap g2 0 cap2 w _ hl (ownSt_cells rfl hown) (ownSt_cells rfl hown2)


theorem alloc_ltT (w : World) (o : Obj) : w.heap.size < (w.alloc o).heap.size := by show _ < (w.heap.push o).size; rw [Array.size_push]; omega
theorem below_alT (w : World) (o : Obj) : Below w.heap.size w (w.alloc o) := (Below.refl _ _).alloc (Nat.le_refl _) o
theorem row_keepT {w w' : World} {B sz : Nat} {e : TypeId} {v : Value} {n : Nat} {xs : List Value} (hb : Below w.heap.size w w') (h : w.ownsRow B e sz v n xs) : w'.ownsRow B e sz v n xs :=
  h.kept (row := none) ⟨hb.os, hb.tape, hb.output, hb.size, fun k hk _ => hb.block k hk⟩ (by cases hv : v.ownBlock <;> simp)
theorem st_form {w : World} {v : Value} {ss : List ByteArray} (h : StAt w v ss) : ∃ a c, v = .slice a ss.length c := by
  obtain ⟨_, ⟨a, c, rfl, rfl⟩ | ⟨b, off, cap, rfl, _⟩⟩ := h
  · exact ⟨_, _, rfl⟩
  · exact ⟨_, _, rfl⟩
theorem ownSt_form {w : World} {B : Nat} {v : Value} {ss : List ByteArray} (h : OwnSt w B v ss) : ∃ a c, v = .slice a ss.length c := by
  obtain ⟨g, cap, rfl, _⟩ := h
  exact ⟨_, _, rfl⟩
theorem ownSt_base {w : World} {B B' : Nat} {v : Value} {ss : List ByteArray} (h : OwnSt w B v ss) (hB : B' ≤ B) : OwnSt w B' v ss := by
  obtain ⟨g, cap, rfl, h1, h2, ⟨h3, h4⟩⟩ := h
  refine ⟨g, cap, rfl, by omega, h2, h3, ?_⟩
  rcases h4 with h | ⟨g', cap', cur, e, hb, rest⟩
  · exact .inl h
  · exact .inr ⟨g', cap', cur, e, by omega, rest⟩
theorem ownSt_set {w : World} {B : Nat} {v : Value} {ss : List ByteArray} (h : OwnSt w B v ss) (b o : Nat) (x : Value) (hb : b < B) : OwnSt (w.setCell ⟨b, o, none⟩ x) B v ss := by
  obtain ⟨g, cap, rfl, h1, h2, hown⟩ := h
  refine ⟨g, cap, rfl, h1, by simpa using h2, hown.kept (row := some b) ⟨rfl, rfl, rfl, by simp, fun k _ hk => Below.heap_setCell _ _ _ _ (by intro e; exact hk (by simp only at e; rw [e]))⟩ (.inr (by simp [Value.ownBlock]; omega))⟩
theorem eqSt_at (ss : List ByteArray) (v1 v2 : Value) (w : World) (h1 : StAt w v1 ss) (h2 : StAt w v2 ss) :
    Calls Tryd.prog 13 #[v1, v2] w fun e w' => e = .returned (.bool true) ∧ Below w.heap.size w w' := by
  obtain ⟨hl, ⟨a, c, rfl, rfl⟩ | ⟨b, off, cap, rfl, hb, hc⟩⟩ := h1
  · obtain ⟨a2, c2, rfl⟩ := st_form h2
    exact eqSt_zero a a2 c c2 w
  · obtain ⟨_, ⟨a, c, rfl, rfl⟩ | ⟨b2, off2, cap2, rfl, hb2, hc2⟩⟩ := h2
    · exact eqSt_zero _ _ _ _ w
    · exact eqSt_some ss b off cap b2 off2 cap2 w _ hl hc hc2
/-- The strings of a list are no longer than strings are. -/
def SzSt (ss : List ByteArray) : Prop := ∀ i, i < ss.length → (ss.getD i ByteArray.empty).size ≤ 9223372036854775807
/-- How long the first k strings are together. -/
def lenT (ss : List ByteArray) : Nat → Nat
  | 0 => 0
  | k + 1 => lenT ss k + (ss.getD k ByteArray.empty).size
theorem lenT_mono (ss : List ByteArray) {j k : Nat} (h : j ≤ k) : lenT ss j ≤ lenT ss k := by
  induction k with
  | zero => obtain rfl : j = 0 := by omega
            exact Nat.le_refl _
  | succ k ih =>
    by_cases e : j = k + 1
    · subst e; exact Nat.le_refl _
    · have := ih (by omega)
      show lenT ss j ≤ lenT ss k + (ss.getD k ByteArray.empty).size
      omega
/-- What is left of a measure. -/
def leftT (n q : Nat) (left : Int) : Int := if (n : Int) + q ≤ left then left - n - q else -1
theorem leftT_yes {n q : Nat} {left : Int} (h : (n : Int) + q ≤ left) : leftT n q left = left - n - q := by unfold leftT; rw [if_pos h]
theorem leftT_no {n q : Nat} {left : Int} (h : ¬ (n : Int) + q ≤ left) : leftT n q left = -1 := by unfold leftT; rw [if_neg h]
end Go.Proofs.YtjicnfgpbbganabDoor
