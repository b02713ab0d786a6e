/- Cuts: when they are valid, both programs' answers. -/
import Derived.Test.YtikoehjalcljnaaDoorCuts
import Derived.Test.YtikoehjalcljnaaDoorRise
import Derived.Test.YtikoehjalcljnaaDoorWithinMore
import Derived.Deep.QuietTactic
import Derived.BigQuiet
set_option linter.unusedVariables false
namespace Go.Proofs.YtikoehjalcljnaaDoor
open Go.ChangeShapes Go.WideShapes Go.ChangeAt Go.RowKit

def cutB (c : Ct) : Bool := inB c.1 0 7 && inB c.2 1 20
theorem cut_iff {c : Ct} : cutB c = true ↔ (0 ≤ c.1 ∧ c.1 ≤ 7) ∧ 1 ≤ c.2 ∧ c.2 ≤ 20 := by simp [cutB, inB_iff]
def allC (cs : List Ct) : Bool := cs.all cutB
theorem allC_at {cs : List Ct} (h : allC cs = true) (i : Nat) (hi : i < cs.length) : cutB (cs.getD i zC) = true := by
  unfold allC at h
  rw [List.all_eq_true] at h
  rw [List.getD_eq_getElem?_getD, List.getElem?_eq_getElem hi]
  exact h _ (List.getElem_mem hi)
theorem allC_true {cs : List Ct} (h : ∀ i, i < cs.length → cutB (cs.getD i zC) = true) : allC cs = true := by
  unfold allC
  rw [List.all_eq_true]
  intro x hx
  obtain ⟨i, hi, rfl⟩ := List.mem_iff_getElem.1 hx
  have := h i hi
  rwa [List.getD_eq_getElem?_getD, List.getElem?_eq_getElem hi] at this
theorem allC_false {cs : List Ct} {i : Nat} (hi : i < cs.length) (h : cutB (cs.getD i zC) = false) : allC cs = false := by
  rcases Bool.eq_false_or_eq_true (allC cs) with h2 | h2
  · have := allC_at h2 i hi
    rw [h] at this; cases this
  · exact h2
def cutsB (cs : List Ct) : Bool := decide (cs.length ≤ 64) && allC cs
theorem cutsB_iff {cs : List Ct} : cutsB cs = true ↔ cs.length ≤ 64 ∧ allC cs = true := by unfold cutsB; rw [Bool.and_eq_true, decide_eq_true_eq]
theorem cutsB_no {cs : List Ct} (h : allC cs = false) : cutsB cs = false := by unfold cutsB; rw [h]; simp
theorem cutsB_end {cs : List Ct} (h : allC cs = true) : cutsB cs = decide (cs.length ≤ 64) := by unfold cutsB; rw [h]; simp
theorem below_dN {B : Nat} {w : World} (m : Nat) (hB : B ≤ w.heap.size) : Below B w (w.drewN m) := (below_drewN w m).mono hB
def IdxIs (b : Bool) (i : Int) : Prop := (b = true → 0 ≤ i) ∧ (b = false → i = -1)
/-- What IndexFunc answers: a number that is -1 exactly if there is none. -/
def IdxPost (b : Bool) (w : World) (e : Ending) (w' : World) : Prop := ∃ i : Int, e = .returned (.int .i64 i) ∧ IdxIs b i ∧ Below w.heap.size w w'
end Go.Proofs.YtikoehjalcljnaaDoor
