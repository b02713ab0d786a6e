/- The least density for a mass: what it is. -/
import Derived.Test.YtgnnpimfcbkloaaMassOf
set_option linter.unusedVariables false
namespace Go.Proofs.Ytgnnpimfcbkloaa
open Go.ChangeShapes Go.WideShapes Go.ChangeAt Go.RowKit

/-- Densities above 1000 by number: is this one enough? -/
def enough (V m : Int) (k : Nat) : Bool := decide (m ≤ massV V (1000 + k))
def leastK (V m : Int) : Option Nat := (List.range 19001).find? (enough V m)
def densV (V m : Int) : Int := match leastK V m with
  | some k => 1000 + k
  | none => 0
def densC (V m : Int) : Int := match leastK V m with
  | some _ => 0
  | none => 3
theorem least_some {V m : Int} {k : Nat} (hk : k ≤ 19000) (h : m ≤ massV V (1000 + k)) (hb : ∀ j, j < k → ¬ m ≤ massV V (1000 + j)) : leastK V m = some k := by
  unfold leastK
  rw [List.find?_range_eq_some]
  refine ⟨by simpa [enough] using h, by simp; omega, fun j hj => by simpa [enough] using hb j hj⟩
theorem least_none {V m : Int} (hb : ∀ j, j < 19001 → ¬ m ≤ massV V (1000 + (j : Nat))) : leastK V m = none := by
  unfold leastK
  rw [List.find?_eq_none]
  intro x hx
  have := hb x (by simpa using hx)
  simpa [enough] using this
theorem enough_up {V m : Int} {j k : Nat} (hV : 0 ≤ V) (hj : j ≤ k) (h : m ≤ massV V (1000 + j)) : m ≤ massV V (1000 + k) := Int.le_trans h (mass_mono hV (by omega) (by omega))
theorem enough_dn {V m : Int} {j k : Nat} (hV : 0 ≤ V) (hj : j ≤ k) (h : ¬ m ≤ massV V (1000 + k)) : ¬ m ≤ massV V (1000 + j) := fun g => h (enough_up hV hj g)
def askM (s : ByteArray) (rs : List Rg) (m : Int) : Int := if profB s rs = true then (if inB m 0 1000000000 = true then densC (volP rs) m else 2) else 1
def denC (s : ByteArray) (rs : List Rg) (m : Int) : Int := if askM s rs m = 0 then densV (volP rs) m else 0
theorem askM_1 {s : ByteArray} {rs : List Rg} {m : Int} (h : profB s rs = false) : askM s rs m = 1 ∧ denC s rs m = 0 := by
  have : askM s rs m = 1 := by unfold askM; rw [h]; rfl
  exact ⟨this, by unfold denC; rw [this]; rfl⟩
theorem askM_2 {s : ByteArray} {rs : List Rg} {m : Int} (h : profB s rs = true) (h2 : inB m 0 1000000000 = false) : askM s rs m = 2 ∧ denC s rs m = 0 := by
  have : askM s rs m = 2 := by unfold askM; rw [if_pos h, h2]; rfl
  exact ⟨this, by unfold denC; rw [this]; rfl⟩
theorem askM_s {s : ByteArray} {rs : List Rg} {m : Int} {k : Nat} (h : profB s rs = true) (h2 : inB m 0 1000000000 = true) (h3 : leastK (volP rs) m = some k) : askM s rs m = 0 ∧ denC s rs m = 1000 + k := by
  have : askM s rs m = 0 := by unfold askM densC; rw [if_pos h, if_pos h2, h3]
  exact ⟨this, by unfold denC densV; rw [if_pos this, h3]⟩
theorem askM_n {s : ByteArray} {rs : List Rg} {m : Int} (h : profB s rs = true) (h2 : inB m 0 1000000000 = true) (h3 : leastK (volP rs) m = none) : askM s rs m = 3 ∧ denC s rs m = 0 := by
  have : askM s rs m = 3 := by unfold askM densC; rw [if_pos h, if_pos h2, h3]
  exact ⟨this, by unfold denC; rw [this]; rfl⟩
end Go.Proofs.Ytgnnpimfcbkloaa
