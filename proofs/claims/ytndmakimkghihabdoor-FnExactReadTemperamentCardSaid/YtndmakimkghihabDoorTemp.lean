/- Temperaments by value: an argument opened; measured, copied, compared. -/
import Derived.Test.YtndmakimkghihabDoorInts
import Derived.Lib.SmallJoins
namespace Go.Proofs.YtndmakimkghihabDoor
open Go.ChangeShapes Go.WideShapes Go.ChangeAt Go.RowKit

/-- What is left of a measure. -/
def leftV (a b : Nat) (left : Int) : Int := if left - a < 0 then -1 else if left - a - b < 0 then -1 else left - a - b
theorem left_no {a b : Nat} {left : Int} (h : left < a + b) : leftV a b left = -1 := by
  unfold leftV
  split
  · rfl
  · rw [if_pos (by omega)]
theorem left_yes {a b : Nat} {left : Int} (h : (a : Int) + b ≤ left) : leftV a b left = left - a - b := by
  unfold leftV
  rw [if_neg (by omega), if_neg (by omega)]
/-- A slice of the call's own that reads as zs. -/
def OwnAt (w : World) (B : Nat) (v : Value) (zs : List Int) : Prop := ∃ B', B ≤ B' ∧ OwnInts w B' v zs
theorem ownAt_kept {w w' : World} {B : Nat} {v : Value} {zs : List Int} (hb : Below w.heap.size w w') (h : OwnAt w B v zs) : OwnAt w' B v zs := by
  obtain ⟨B', h1, h2⟩ := h
  exact ⟨B', h1, own_kept hb h2⟩
theorem ownAt_ints {w : World} {B : Nat} {v : Value} {zs : List Int} (hl : zs.length ≤ 1048576) (h : OwnAt w B v zs) : IntsAt w v zs := by
  obtain ⟨_, _, h2⟩ := h
  exact own_ints hl h2
theorem ints_form {w : World} {v : Value} {zs : List Int} (h : IntsAt w v zs) : ∃ a c, v = .slice a zs.length c := by
  obtain ⟨_, ⟨a, c, rfl, rfl⟩ | ⟨b, off, cap, rfl, _⟩⟩ := h
  · exact ⟨_, _, rfl⟩
  · exact ⟨_, _, rfl⟩
theorem eqInts_at (zs : List Int) (v1 v2 : Value) (w : World) (h1 : IntsAt w v1 zs) (h2 : IntsAt w v2 zs) :
    Calls Tryd.prog 12 #[v1, v2] w fun e w' => e = .returned (.bool true) ∧ Below w.heap.size w w' := by
  obtain ⟨hl, ⟨a, c, rfl, rfl⟩ | ⟨b, off, cap, rfl, hb, hc⟩⟩ := h1
  · obtain ⟨a2, c2, rfl⟩ := ints_form h2
    exact eqInts_zero a a2 c c2 w
  · obtain ⟨_, ⟨a, c, rfl, rfl⟩ | ⟨b2, off2, cap2, rfl, hb2, hc2⟩⟩ := h2
    · exact eqInts_zero _ _ _ _ w
    · exact eqInts_some zs b off cap b2 off2 cap2 w _ hl hc hc2

theorem own_set {w : World} {B : Nat} {v : Value} {zs : List Int} (h : OwnInts w B v zs) (b o : Nat) (x : Value) (hb : b < B) : OwnInts (w.setCell ⟨b, o, none⟩ x) B v zs := by
  obtain ⟨g, cap, rfl, h1, h2, hown⟩ := h
  refine ⟨g, cap, rfl, h1, by simpa using h2, hown.kept (row := some b) ⟨rfl, rfl, rfl, by simp, fun k _ hk => Below.heap_setCell _ _ _ _ (by intro e; exact hk (by simp only at e; rw [e]))⟩ (.inr (by simp [Value.ownBlock]; omega))⟩
/-- What a copy is. -/
def CopyT (s : ByteArray) (zs : List Int) (w : World) (e : Ending) (w' : World) : Prop := ∃ v, e = .returned (.agg #[.string s, v]) ∧ OwnAt w' w.heap.size v zs ∧ Below w.heap.size w w'
theorem eqTemp_any (s : ByteArray) (v1 v2 : Value) (zs : List Int) (w : World) (h1 : IntsAt w v1 zs) (h2 : IntsAt w v2 zs) :
    Calls Tryd.prog 31 #[.agg #[.string s, v1], .agg #[.string s, v2]] w fun e w' => e = .returned (.bool true) ∧ Below w.heap.size w w' := by
  have H1 := Lib.hid h1
  have H2 := Lib.hid h2
  obtain ⟨a1, c1, rfl⟩ := ints_form h1
  obtain ⟨a2, c2, rfl⟩ := ints_form h2
  clear h1 h2
  generalize hn : zs.length = n at *
  have HN := Lib.hid hn
  clear hn
  have hs : (s.toList != s.toList) = false := by simp
  go_enter Tryd.func31, Tryd.ntmps31
  go_wp2_with fail
  refine (eqInts_at zs _ _ _ (ints_kept (((Below.refl _ _).alloc (Nat.le_refl _) _).alloc (by simp) _) H1.out) (ints_kept (((Below.refl _ _).alloc (Nat.le_refl _) _).alloc (by simp) _) H2.out)).mono ?_
  rintro e w1 ⟨rfl, hb⟩
  have HB := Lib.hid (below_of (((Below.refl _ _).alloc (Nat.le_refl _) _).alloc (by simp) _) hb (by simp <;> omega))
  clear hb
  go_wp2
  go_ret
  exact ⟨rfl, HB.out⟩
end Go.Proofs.YtndmakimkghihabDoor
