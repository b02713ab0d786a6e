/- A package-level array of strings that reads as listed holds just these strings; its reading depends on no other memory. -/
import Derived.Test.YtfleececlafjkabDoorBase
import Derived.Lib.LaidTab
import Derived.WalkSmall
namespace Go.Proofs.YtfleececlafjkabDoor
open Go.ChangeShapes Go.WideShapes Go.ChangeAt Go.RowKit

section
variable {H : Type} {enc : TypeId × Value → H} {P : Program} {w w' : World} {base : Nat} {sp sp' : Nat → Bool} {held : Bool} {fuel : Nat} {t e : TypeId} {n : Nat} {cs : List Value}

theorem bytes_ext {a b : ByteArray} (h : a.data.toList = b.data.toList) : a = b := by
  cases a; cases b; congr 1; exact Array.toList_inj.1 h

theorem cells_of_strs {ss : List ByteArray} {p : List MemPlace} (ht : P.underlying t = some (.array n e)) (he : P.underlying e = some .string) (hce : P.cellsOf e = 1) (hct : P.cellsOf t = n)
    (h : DataW.trod enc P w base sp held fuel t cs = some (.agg (ss.map fun s => .lit (.string s.data.toList)), p)) : cs = ss.map Value.string := by
  cases fuel with
  | zero => simp [DataW.trod] at h
  | succ fuel =>
    simp only [DataW.trod, ht, hce, hct, Nat.mul_one] at h
    split at h
    · rename_i hl
      obtain ⟨xs, hm, hx⟩ := Option.map_eq_some_iff.1 h
      have hxs : xs.map (·.1) = ss.map fun s => (DataW.lit (.string s.data.toList) : DataW H) := by
        have := congrArg Prod.fst hx
        simpa using this
      have hxl : xs.length = n := by simpa using Lib.mapM_length hm
      have hzl : ss.length = n := by
        have := congrArg List.length hxs
        simp at this
        omega
      apply List.ext_getElem?
      intro i
      by_cases hi : i < n
      · obtain ⟨b, hb, hf⟩ := Lib.mapM_at hm i i (by simp [hi])
        obtain ⟨s, hc, rfl, _⟩ := DataW.trod_string he hf
        have h1 : cs[i]? = some (.string s) := by
          have := congrArg (·[0]?) hc
          simpa [List.getElem?_take, List.getElem?_drop] using this
        have h2 : (xs.map (·.1))[i]? = some (DataW.lit (.string s.data.toList) : DataW H) := by simp [hb]
        rw [hxs] at h2
        simp only [List.getElem?_map, Option.map_eq_some_iff, DataW.lit.injEq, Lit.string.injEq] at h2
        obtain ⟨s', hs', e'⟩ := h2
        rw [h1, List.getElem?_map, hs', bytes_ext e']
        rfl
      · rw [List.getElem?_eq_none (by omega), List.getElem?_eq_none (by simp; omega)]
    · cases h

/-- The reading of an array of strings leans on its own cells alone. -/
theorem trod_strs_any (ht : P.underlying t = some (.array n e)) (he : P.underlying e = some .string) :
    DataW.trod enc P w base sp held fuel t cs = DataW.trod enc P w' base sp' held fuel t cs := by
  cases fuel with
  | zero => rfl
  | succ fuel =>
    have one : ∀ l, DataW.trod enc P w base sp held fuel e l = DataW.trod enc P w' base sp' held fuel e l := by
      intro l
      cases fuel with
      | zero => rfl
      | succ f =>
        rcases l with _ | ⟨v, _ | ⟨v2, r⟩⟩
        · simp [DataW.trod, he]
        · cases v <;> simp [DataW.trod, he]
        · simp [DataW.trod, he]
    simp only [DataW.trod, ht, one]
end
end Go.Proofs.YtfleececlafjkabDoor
