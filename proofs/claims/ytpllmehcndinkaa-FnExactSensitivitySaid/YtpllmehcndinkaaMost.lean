/- How many steps a zone allows: both programs' counts. -/
import Derived.Test.YtpllmehcndinkaaApSpec
import Derived.Test.YtpllmehcndinkaaCutI
set_option linter.unusedVariables false
namespace Go.Proofs.Ytpllmehcndinkaa
open Go.ChangeShapes Go.WideShapes Go.ChangeAt Go.RowKit Go.Maps

def mostF (ok : Nat → Bool) : Nat → Nat → Nat
  | 0, n => n
  | k + 1, n => if ok (n + 1) = true then mostF ok k (n + 1) else n
def mostN (ok : Nat → Bool) : Nat := mostF ok 20 0
theorem mostF_yes {ok : Nat → Bool} {k n : Nat} (h : ok (n + 1) = true) : mostF ok (k + 1) n = mostF ok k (n + 1) := by conv => lhs; unfold mostF; rw [if_pos h]
theorem mostF_no {ok : Nat → Bool} {k n : Nat} (h : ok (n + 1) = false) : mostF ok (k + 1) n = n := by unfold mostF; rw [if_neg (by rw [h]; simp)]
/-- The rings with t steps made in one zone. -/
def oneT (rs : List Rg) (zs : List Int) (z t : Nat) : List Rg := turnL (fun i => if zoneN zs (i : Int) zs.length = z then (t : Int) else 0) rs rs.length
def oneOk (s : ByteArray) (rs : List Rg) (zs : List Int) (z t : Nat) : Bool := profB s (oneT rs zs z t)
def mostS (s : ByteArray) (rs : List Rg) (zs : List Int) (z : Nat) : Int := (mostN (oneOk s rs zs z) : Nat)
theorem oneT_len (rs : List Rg) (zs : List Int) (z t : Nat) : (oneT rs zs z t).length = rs.length := turnL_len _ _ _
/-- Steps of one zone, as a list of eight. -/
def oneL (z t : Nat) : List Int := (List.replicate 8 0).set z (t : Int)
theorem oneL_len (z t : Nat) : (oneL z t).length = 8 := by simp [oneL]
theorem oneL_get (z t j : Nat) (hj : j < 8) : (oneL z t).getD j 0 = if j = z then (t : Int) else 0 := by
  unfold oneL
  rw [List.getD_eq_getElem?_getD, List.getElem?_set]
  by_cases e : z = j
  · subst e; simp [hj]
  · rw [if_neg e, if_neg (fun h => e h.symm), List.getElem?_replicate, if_pos hj]
    rfl
theorem oneL_turn {rs : List Rg} {zs : List Int} (h : 0 < zs.length ∧ zs.length ≤ 8) (z t : Nat) : turnL (stepF zs (oneL z t)) rs rs.length = oneT rs zs z t := by
  unfold oneT
  congr 1
  funext i
  have := zoneN_lt zs (i : Int) zs.length h.1
  unfold stepF
  rw [oneL_get z t _ (by omega)]
theorem oneM_turn {rs : List Rg} {zs : List Int} (h : 0 < zs.length ∧ zs.length ≤ 8) (z t : Nat) : turnL (mapStep (fun y => if (z : Int) = y then (t : Int) else 0) zs) rs rs.length = oneT rs zs z t := by
  unfold oneT
  congr 1
  funext i
  show (if (z : Int) = ((zoneN zs (i : Int) zs.length : Nat) : Int) then (t : Int) else 0) = _
  by_cases e : zoneN zs (i : Int) zs.length = z
  · rw [if_pos e, if_pos (by rw [e])]
  · rw [if_neg e, if_neg (fun h2 => e (by omega))]
theorem resC_ok {s : ByteArray} {l : List Rg} : (profB s l = true ∧ resC s l = 0) ∨ (profB s l = false ∧ resC s l = 6) := by
  unfold resC
  rcases Bool.eq_false_or_eq_true (profB s l) with h | h <;> simp [h]
end Go.Proofs.Ytpllmehcndinkaa
