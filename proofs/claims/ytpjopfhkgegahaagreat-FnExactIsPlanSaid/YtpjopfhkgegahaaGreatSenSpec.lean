/- Sensitivity: the reference model's. -/
import Derived.Test.YtpjopfhkgegahaaGreatModPar
import Derived.Test.YtpjopfhkgegahaaGreatApSpec
import Derived.Test.YtpjopfhkgegahaaGreatMost
import Derived.Test.YtpjopfhkgegahaaGreatApImpl
import Derived.Test.YtpjopfhkgegahaaGreatModErr
set_option linter.unusedVariables false
namespace Go.Proofs.YtpjopfhkgegahaaGreat
open Go.ChangeShapes Go.WideShapes Go.ChangeAt Go.RowKit

/-- The rings after one step in a zone. -/
def senT (rs : List Rg) (zs : List Int) (z : Int) : List Rg := oneT rs zs z.toNat 1
def senC (zs : List Int) (ws : List (List Int)) (bs : List Int) (s : ByteArray) (rs : List Rg) (z : Int) : Int :=
  if askM zs ws bs s rs = 0 then (if inB z 0 ((zs.length : Int) - 1) = true then resC s (senT rs zs z) else 2) else askM zs ws bs s rs
def senK (zs : List Int) (ws : List (List Int)) (bs : List Int) (rs : List Rg) (z : Int) (k : Nat) : Int := rawK zs ws bs rs k - rawK zs ws bs (senT rs zs z) k
def senA (zs : List Int) (ws : List (List Int)) (bs : List Int) (rs : List Rg) (z : Int) : List Int := (List.range 5).map (senK zs ws bs rs z)
def senL (zs : List Int) (ws : List (List Int)) (bs : List Int) (s : ByteArray) (rs : List Rg) (z : Int) : List Int := if senC zs ws bs s rs z = 0 then senA zs ws bs rs z else []
theorem senA_len (zs : List Int) (ws : List (List Int)) (bs : List Int) (rs : List Rg) (z : Int) : (senA zs ws bs rs z).length = 5 := by simp [senA]
theorem senA_next (zs : List Int) (ws : List (List Int)) (bs : List Int) (rs : List Rg) (z : Int) (k : Nat) (h : k < 5) : i64s ((senA zs ws bs rs z).take (k + 1)) = i64s ((senA zs ws bs rs z).take k) ++ [.int .i64 (senK zs ws bs rs z k)] := by
  unfold senA i64s
  rw [← List.map_take, ← List.map_take, List.take_range, List.take_range, Nat.min_eq_left (by omega), Nat.min_eq_left (by omega), List.range_succ]
  simp
theorem senL_len (zs : List Int) (ws : List (List Int)) (bs : List Int) (s : ByteArray) (rs : List Rg) (z : Int) : (senL zs ws bs s rs z).length ≤ 64 := by
  unfold senL; split
  · rw [senA_len]; omega
  · simp
theorem sen_ok {zs : List Int} {ws : List (List Int)} {bs : List Int} {s : ByteArray} {rs : List Rg} {z : Int} (h : askM zs ws bs s rs = 0) (h2 : inB z 0 ((zs.length : Int) - 1) = true) (h3 : profB s (senT rs zs z) = true) : senC zs ws bs s rs z = 0 ∧ senL zs ws bs s rs z = senA zs ws bs rs z := by
  have e : senC zs ws bs s rs z = 0 := by unfold senC; rw [if_pos h, if_pos h2]; unfold resC; rw [if_pos h3]
  exact ⟨e, by unfold senL; rw [if_pos e]⟩
theorem sen_no {zs : List Int} {ws : List (List Int)} {bs : List Int} {s : ByteArray} {rs : List Rg} {z c : Int} (h : senC zs ws bs s rs z = c) (hc : c ≠ 0) : senL zs ws bs s rs z = [] := by unfold senL; rw [h, if_neg hc]
theorem senC_6 {zs : List Int} {ws : List (List Int)} {bs : List Int} {s : ByteArray} {rs : List Rg} {z : Int} (h : askM zs ws bs s rs = 0) (h2 : inB z 0 ((zs.length : Int) - 1) = true) (h3 : profB s (senT rs zs z) = false) : senC zs ws bs s rs z = 6 := by unfold senC; rw [if_pos h, if_pos h2]; unfold resC; rw [h3]; rfl
theorem senC_2 {zs : List Int} {ws : List (List Int)} {bs : List Int} {s : ByteArray} {rs : List Rg} {z : Int} (h : askM zs ws bs s rs = 0) (h2 : inB z 0 ((zs.length : Int) - 1) = false) : senC zs ws bs s rs z = 2 := by unfold senC; rw [if_pos h, h2]; rfl
theorem senC_n {zs : List Int} {ws : List (List Int)} {bs : List Int} {s : ByteArray} {rs : List Rg} {z : Int} (h : askM zs ws bs s rs ≠ 0) : senC zs ws bs s rs z = askM zs ws bs s rs := by unfold senC; rw [if_neg h]
theorem senT_len (rs : List Rg) (zs : List Int) (z : Int) : (senT rs zs z).length = rs.length := oneT_len _ _ _ _
/-- A cut of one step turns the rings so. -/
theorem sen_cut {rs : List Rg} {zs : List Int} {z : Int} (h : 0 < zs.length ∧ zs.length ≤ 8) (h2 : inB z 0 ((zs.length : Int) - 1) = true) : cutT rs zs [(z, 1)] = senT rs zs z := by
  have hz : 0 ≤ z := by unfold inB at h2; simp at h2; omega
  rw [← mapStep_eq h rs, senT, ← oneM_turn h z.toNat 1]
  congr 1
  funext i
  unfold mapStep
  simp only [sumAt]
  rw [show ((z.toNat : Nat) : Int) = z by omega]
  by_cases e : z = ((zoneN zs (i : Int) zs.length : Nat) : Int)
  · simp [e]
  · simp [e]
end Go.Proofs.YtpjopfhkgegahaaGreat
