/- The reference model's test of numbers that rise within two bounds. -/
import Derived.Test.YtikoehjalcljnaaDoorWithin
import Derived.Deep.QuietTactic
import Derived.BigQuiet
namespace Go.Proofs.YtikoehjalcljnaaDoor
open Go.ChangeShapes Go.WideShapes Go.ChangeAt Go.RowKit

/-- The j-th number lies within the bounds, above the one before. -/
def riseAt (lo hi : Int) (zs : List Int) (j : Nat) : Bool := inB (zs.getD j 0) lo hi && (decide (j = 0) || decide (zs.getD (j - 1) 0 < zs.getD j 0))
def risesB (lo hi : Int) (zs : List Int) : Bool := (List.range zs.length).all (riseAt lo hi zs)
theorem rises_true {lo hi : Int} {zs : List Int} (h : ∀ j, j < zs.length → riseAt lo hi zs j = true) : risesB lo hi zs = true := by
  unfold risesB
  rw [List.all_eq_true]
  intro j hj
  exact h j (by simpa using hj)
theorem rises_false {lo hi : Int} {zs : List Int} {k : Nat} (hk : k < zs.length) (h : riseAt lo hi zs k = false) : risesB lo hi zs = false := by
  unfold risesB
  rw [List.all_eq_false]
  exact ⟨k, by simpa using hk, by simp [h]⟩
theorem rises_at {lo hi : Int} {zs : List Int} (h : risesB lo hi zs = true) (j : Nat) (hj : j < zs.length) : riseAt lo hi zs j = true := by
  unfold risesB at h
  rw [List.all_eq_true] at h
  exact h j (by simpa using hj)
theorem riseAt_in {lo hi : Int} {zs : List Int} {j : Nat} (h : inB (zs.getD j 0) lo hi = false) : riseAt lo hi zs j = false := by unfold riseAt; rw [h]; simp
theorem riseAt_zero {lo hi : Int} {zs : List Int} (h : inB (zs.getD 0 0) lo hi = true) : riseAt lo hi zs 0 = true := by unfold riseAt; rw [h]; simp
theorem riseAt_yes {lo hi : Int} {zs : List Int} {j : Nat} (h : inB (zs.getD j 0) lo hi = true) (h2 : zs.getD (j - 1) 0 < zs.getD j 0) : riseAt lo hi zs j = true := by simp only [riseAt, h, h2]; simp
theorem riseAt_no {lo hi : Int} {zs : List Int} {j : Nat} (h0 : 0 < j) (h2 : ¬ zs.getD (j - 1) 0 < zs.getD j 0) : riseAt lo hi zs j = false := by
  unfold riseAt
  rw [decide_eq_false h2, decide_eq_false (by omega)]; simp

theorem l00In_at (n lo hi : Int) (r : Bool) (h : inB n lo hi = r) (w : World) :
    Calls Tryd.prog 34 #[.int .i64 n, .int .i64 lo, .int .i64 hi] w fun e w' => e = .returned (.bool r) ∧ w' = w :=
  (l00In_any n lo hi w).mono fun _ _ k => ⟨by rw [k.1, h], k.2.symm⟩

end Go.Proofs.YtikoehjalcljnaaDoor
