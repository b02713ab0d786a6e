/- The partials of a profile by a model: the reference model's answers. -/
import Derived.Test.YtpjopfhkgegahaaGreatModRaw
set_option linter.unusedVariables false
namespace Go.Proofs.YtpjopfhkgegahaaGreat
open Go.ChangeShapes Go.WideShapes Go.ChangeAt Go.RowKit

def parL (zs : List Int) (ws : List (List Int)) (bs : List Int) (s : ByteArray) (rs : List Rg) : List Int := if askM zs ws bs s rs = 0 then rawL zs ws bs rs else []
theorem par_ok {zs : List Int} {ws : List (List Int)} {bs : List Int} {s : ByteArray} {rs : List Rg} (h : askM zs ws bs s rs = 0) : parL zs ws bs s rs = rawL zs ws bs rs := by unfold parL; rw [if_pos h]
theorem par_no {zs : List Int} {ws : List (List Int)} {bs : List Int} {s : ByteArray} {rs : List Rg} (h : askM zs ws bs s rs ≠ 0) : parL zs ws bs s rs = [] := by unfold parL; rw [if_neg h]
theorem askM_ok {zs : List Int} {ws : List (List Int)} {bs : List Int} {s : ByteArray} {rs : List Rg} (h : askM zs ws bs s rs = 0) : modB zs ws bs = true ∧ profB s rs = true ∧ fitB rs.length zs = true := by
  unfold askM at h
  split at h
  · rename_i h1
    split at h
    · rename_i h2; exact ⟨h1.1, h1.2, h2⟩
    · cases h
  · cases h
theorem par_len (zs : List Int) (ws : List (List Int)) (bs : List Int) (s : ByteArray) (rs : List Rg) : (parL zs ws bs s rs).length ≤ 64 := by
  by_cases h : askM zs ws bs s rs = 0
  · rw [par_ok h, raw_len]; omega
  · rw [par_no h]; simp
end Go.Proofs.YtpjopfhkgegahaaGreat
