/- The steps between two profiles: zone by zone. -/
import Derived.Test.YtpllmehcndinkaaBtwI
import Derived.Test.YtpllmehcndinkaaG3
import Derived.Test.YtpllmehcndinkaaWallI
set_option linter.unusedVariables false
namespace Go.Proofs.Ytpllmehcndinkaa
open Go.ChangeShapes Go.WideShapes Go.ChangeAt Go.RowKit Go.Maps

/-- A zone's steps by its first rings. -/
def bT (rs rb : List Rg) (zs : List Int) (z : Nat) : Int := ((rb.getD (zBeg zs z) zR).2.1 - (rs.getD (zBeg zs z) zR).2.1).tdiv 10
/-- They are steps, and make the zone's rings the other ones. -/
def BOk (rs rb : List Rg) (zs : List Int) (z : Nat) : Prop := (0 ≤ bT rs rb zs z ∧ bT rs rb zs z ≤ 20) ∧ ∀ j, j < zLen zs rs.length z → turnR (bT rs rb zs z) (rs.getD (zBeg zs z + j) zR) = rb.getD (zBeg zs z + j) zR
def BAll (rs rb : List Rg) (zs : List Int) : Prop := ∀ z, z < zs.length → BOk rs rb zs z
open Classical in
/-- CutsBetween's code and answer. -/
noncomputable def cbC (s : ByteArray) (rs : List Rg) (s2 : ByteArray) (rb : List Rg) (zs : List Int) : Int :=
  if lathB s rs zs = true ∧ profB s2 rb = true then if s = s2 ∧ rs.length = rb.length then if BAll rs rb zs then 0 else 3 else 7 else 1
noncomputable def cbL (s : ByteArray) (rs : List Rg) (s2 : ByteArray) (rb : List Rg) (zs : List Int) : List Ct := if cbC s rs s2 rb zs = 0 then listOf (bT rs rb zs) zs.length else []
theorem cb_1 {s s2 : ByteArray} {rs rb : List Rg} {zs : List Int} (h : ¬ (lathB s rs zs = true ∧ profB s2 rb = true)) : cbC s rs s2 rb zs = 1 ∧ cbL s rs s2 rb zs = [] := by
  have e : cbC s rs s2 rb zs = 1 := by unfold cbC; rw [if_neg h]
  refine ⟨e, ?_⟩
  unfold cbL; rw [if_neg (by omega)]
theorem cb_7 {s s2 : ByteArray} {rs rb : List Rg} {zs : List Int} (h : lathB s rs zs = true) (h2 : profB s2 rb = true) (h3 : ¬ (s = s2 ∧ rs.length = rb.length)) : cbC s rs s2 rb zs = 7 ∧ cbL s rs s2 rb zs = [] := by
  have e : cbC s rs s2 rb zs = 7 := by unfold cbC; rw [if_pos ⟨h, h2⟩, if_neg h3]
  refine ⟨e, ?_⟩
  unfold cbL; rw [if_neg (by omega)]
theorem cb_3 {s s2 : ByteArray} {rs rb : List Rg} {zs : List Int} (h : lathB s rs zs = true) (h2 : profB s2 rb = true) (h3 : s = s2 ∧ rs.length = rb.length) (h4 : ¬ BAll rs rb zs) : cbC s rs s2 rb zs = 3 ∧ cbL s rs s2 rb zs = [] := by
  have e : cbC s rs s2 rb zs = 3 := by unfold cbC; rw [if_pos ⟨h, h2⟩, if_pos h3, if_neg h4]
  refine ⟨e, ?_⟩
  unfold cbL; rw [if_neg (by omega)]
theorem cb_0 {s s2 : ByteArray} {rs rb : List Rg} {zs : List Int} (h : lathB s rs zs = true) (h2 : profB s2 rb = true) (h3 : s = s2 ∧ rs.length = rb.length) (h4 : BAll rs rb zs) : cbC s rs s2 rb zs = 0 ∧ cbL s rs s2 rb zs = listOf (bT rs rb zs) zs.length := by
  have e : cbC s rs s2 rb zs = 0 := by unfold cbC; rw [if_pos ⟨h, h2⟩, if_pos h3, if_pos h4]
  refine ⟨e, ?_⟩
  unfold cbL; rw [if_pos e]
theorem cb_len {s s2 : ByteArray} {rs rb : List Rg} {zs : List Int} : (cbL s rs s2 rb zs).length ≤ 64 := by
  by_cases h : lathB s rs zs = true ∧ profB s2 rb = true
  · by_cases h3 : s = s2 ∧ rs.length = rb.length
    · by_cases h4 : BAll rs rb zs
      · rw [(cb_0 h.1 h.2 h3 h4).2]
        have := listOf_len (bT rs rb zs) zs.length
        have := (fit_facts (lath_iff.1 h.1).2).1
        omega
      · rw [(cb_3 h.1 h.2 h3 h4).2]; simp
    · rw [(cb_7 h.1 h.2 h3).2]; simp
  · rw [(cb_1 h).2]; simp
theorem drop_getR (rs : List Rg) (b j : Nat) : (rs.drop b).getD j zR = rs.getD (b + j) zR := by
  rw [List.getD_eq_getElem?_getD, List.getD_eq_getElem?_getD, List.getElem?_drop]
theorem match_bT {rs rb : List Rg} {zs : List Int} {z : Nat} {t : Nat} (hl : 0 < zLen zs rs.length z) (h : MatchT (rs.drop (zBeg zs z)) (rb.drop (zBeg zs z)) (zLen zs rs.length z) (t : Int)) : bT rs rb zs z = (t : Int) := by
  have h0 := h 0 hl
  rw [drop_getR, drop_getR, Nat.add_zero] at h0
  unfold bT
  rw [← h0]
  show ((rs.getD (zBeg zs z) zR).2.1 + 10 * (t : Int) - (rs.getD (zBeg zs z) zR).2.1).tdiv 10 = (t : Int)
  rw [show (rs.getD (zBeg zs z) zR).2.1 + 10 * (t : Int) - (rs.getD (zBeg zs z) zR).2.1 = 10 * (t : Int) by omega]
  exact Int.mul_tdiv_cancel_left _ (by omega)
theorem match_ok {rs rb : List Rg} {zs : List Int} {z : Nat} {t : Nat} (hl : 0 < zLen zs rs.length z) (ht : t ≤ 20) (h : MatchT (rs.drop (zBeg zs z)) (rb.drop (zBeg zs z)) (zLen zs rs.length z) (t : Int)) : BOk rs rb zs z := by
  have e := match_bT hl h
  refine ⟨by omega, fun j hj => ?_⟩
  rw [e]
  have := h j hj
  rwa [drop_getR, drop_getR] at this
theorem ok_match {rs rb : List Rg} {zs : List Int} {z : Nat} (h : BOk rs rb zs z) : ∃ t : Nat, t ≤ 20 ∧ bT rs rb zs z = (t : Int) ∧ MatchT (rs.drop (zBeg zs z)) (rb.drop (zBeg zs z)) (zLen zs rs.length z) (t : Int) := by
  obtain ⟨⟨h1, h2⟩, h3⟩ := h
  refine ⟨(bT rs rb zs z).toNat, by omega, by omega, fun j hj => ?_⟩
  rw [drop_getR, drop_getR, show (((bT rs rb zs z).toNat : Nat) : Int) = bT rs rb zs z by omega]
  exact h3 j hj
/-- The search's answer at a zone. -/
theorem btw_yes {rs rb : List Rg} {zs : List Int} {z : Nat} {w : World} {e : Ending} {w' : World} (hl : 0 < zLen zs rs.length z) (hok : BOk rs rb zs z) (h : BtwPost (rs.drop (zBeg zs z)) (rb.drop (zBeg zs z)) (zLen zs rs.length z) w e w') : e = .returned (.tuple #[.int .i64 (bT rs rb zs z), .bool true]) ∧ Below w.heap.size w w' := by
  obtain ⟨⟨t, ht, rfl, hm⟩ | ⟨rfl, hn⟩, hb⟩ := h
  · rw [match_bT hl hm]; exact ⟨rfl, hb⟩
  · obtain ⟨t, ht, -, hm⟩ := ok_match hok
    exact absurd hm (hn t (by omega))
theorem btw_no {rs rb : List Rg} {zs : List Int} {z : Nat} {w : World} {e : Ending} {w' : World} (hl : 0 < zLen zs rs.length z) (hok : ¬ BOk rs rb zs z) (h : BtwPost (rs.drop (zBeg zs z)) (rb.drop (zBeg zs z)) (zLen zs rs.length z) w e w') : e = .returned (.tuple #[.int .i64 0, .bool false]) ∧ Below w.heap.size w w' := by
  obtain ⟨⟨t, ht, rfl, hm⟩ | ⟨rfl, hn⟩, hb⟩ := h
  · exact absurd (match_ok hl ht hm) hok
  · exact ⟨rfl, hb⟩
end Go.Proofs.Ytpllmehcndinkaa
