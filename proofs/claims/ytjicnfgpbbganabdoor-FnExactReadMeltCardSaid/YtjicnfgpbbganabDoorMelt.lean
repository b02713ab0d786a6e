/- A melt by value: an argument opened; measured, copied, compared. -/
import Derived.Test.YtjicnfgpbbganabDoorStrs
set_option linter.unusedVariables false
namespace Go.Proofs.YtjicnfgpbbganabDoor
open Go.ChangeShapes Go.WideShapes Go.ChangeAt Go.RowKit Go.Deep

/-- What is left when a melt's text and its strings are taken off. -/
def leftM (a n q : Nat) (left : Int) : Int := if (a : Int) + n + q ≤ left then left - a - n - q else -1
theorem leftM_yes {a n q : Nat} {left : Int} (h : (a : Int) + n + q ≤ left) : leftM a n q left = left - a - n - q := by unfold leftM; rw [if_pos h]
theorem leftM_no {a n q : Nat} {left : Int} (h : ¬ (a : Int) + n + q ≤ left) : leftM a n q left = -1 := by unfold leftM; rw [if_neg h]
theorem st_alloc {w : World} {v : Value} {ss : List ByteArray} (o : Obj) (h : StAt w v ss) : StAt (w.alloc o) v ss := st_kept (below_alT w o) h
/-- A slice of the call's own that reads as ss. -/
def OwnStAt (w : World) (B : Nat) (v : Value) (ss : List ByteArray) : Prop := ∃ B', B ≤ B' ∧ OwnSt w B' v ss
theorem ownStAt_kept {w w' : World} {B : Nat} {v : Value} {ss : List ByteArray} (hb : Below w.heap.size w w') (h : OwnStAt w B v ss) : OwnStAt w' B v ss := by
  obtain ⟨B', h1, h2⟩ := h
  exact ⟨B', h1, ownSt_kept hb h2⟩
theorem ownStAt_st {w : World} {B : Nat} {v : Value} {ss : List ByteArray} (hl : ss.length ≤ 1048576) (h : OwnStAt w B v ss) : StAt w v ss := by
  obtain ⟨_, _, h2⟩ := h
  exact own_st hl h2
/-- What a copy is. -/
def CopyMl (s : ByteArray) (ss : List ByteArray) (z : Int) (w : World) (e : Ending) (w' : World) : Prop := ∃ v, e = .returned (.agg #[.string s, v, .int .i64 z]) ∧ OwnSt w' w.heap.size v ss ∧ Below w.heap.size w w'
set_option maxHeartbeats 1000000 in
theorem eqMelt_any (s : ByteArray) (v1 v2 : Value) (ss : List ByteArray) (z : Int) (w : World) (h1 : StAt w v1 ss) (h2 : StAt w v2 ss) :
    Calls Tryd.prog 6 #[.agg #[.string s, v1, .int .i64 z], .agg #[.string s, v2, .int .i64 z]] w fun e w' => e = .returned (.bool true) ∧ Below w.heap.size w w' := by
  have hba := (below_alT w (.cells #[.string s, v1, .int .i64 z] 24)).alloc (by simp) (.cells #[.string s, v2, .int .i64 z] 24)
  have H1 := Lib.hid (st_kept hba h1)
  have H2 := Lib.hid (st_kept hba h2)
  have HBA := Lib.hid hba
  clear h1 h2 hba
  have hs : (s.toList != s.toList) = false := by simp
  have hzz : (z != z) = false := by simp
  go_enter Tryd.func6, Tryd.ntmps6
  go_wp2_with fail
  refine (eqSt_at ss _ _ _ H1.out H2.out).mono ?_
  rintro e w1 ⟨rfl, hb⟩
  have a2 : w1.cell? ⟨w.heap.size, 2, none⟩ = some (.int .i64 z) := by rw [below_cell hb _ _ (by simp <;> omega)]; go_simp
  have b2 : w1.cell? ⟨w.heap.size + 1, 2, none⟩ = some (.int .i64 z) := by rw [below_cell hb _ _ (by simp)]; go_simp
  have HB := Lib.hid (below_of HBA.out hb HBA.out.size)
  clear hb
  go_wp2
  go_ret
  exact ⟨rfl, HB.out⟩
end Go.Proofs.YtjicnfgpbbganabDoor
