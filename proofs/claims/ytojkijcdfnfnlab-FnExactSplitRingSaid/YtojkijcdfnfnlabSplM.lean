/- A ring divided: what becomes of a profile's validity. -/
import Derived.Test.YtojkijcdfnfnlabWithS
import Derived.Test.YtojkijcdfnfnlabFindI
set_option linter.unusedVariables false
namespace Go.Proofs.Ytojkijcdfnfnlab
open Go.ChangeShapes Go.WideShapes Go.ChangeAt Go.RowKit

def splF (rs : List Rg) (k : Nat) (r q : Rg) : List Rg := rs.take k ++ r :: q :: rs.drop (k + 1)
theorem splF_ins (rs : List Rg) (k : Nat) (r q : Rg) (h : k < rs.length) : insR (rs.set k q) k r = splF rs k r q := by
  unfold insR splF
  rw [List.take_set_of_le (Nat.le_refl k), List.drop_eq_getElem_cons (by simpa using h), List.getElem_set_self, List.drop_set, if_pos (by omega)]
theorem splF_set (rs : List Rg) (k : Nat) (r q : Rg) (h : k < rs.length) : (insR rs k r).set (k + 1) q = splF rs k r q := by
  unfold insR splF
  have hl : (rs.take k).length = k := by rw [List.length_take]; omega
  rw [List.set_append_right _ _ (by omega), hl, show k + 1 - k = 1 by omega, List.set_cons_succ, List.drop_eq_getElem_cons h, List.set_cons_zero]
theorem splF_len (rs : List Rg) (k : Nat) (r q : Rg) (h : k < rs.length) : (splF rs k r q).length = rs.length + 1 := by
  unfold splF; simp; omega
theorem splF_get (rs : List Rg) (k : Nat) (r q : Rg) (h : k < rs.length) (i : Nat) : (splF rs k r q).getD i zR = if i < k then rs.getD i zR else if i = k then r else if i = k + 1 then q else rs.getD (i - 1) zR := by
  unfold splF
  have hl : (rs.take k).length = k := by rw [List.length_take]; omega
  simp only [List.getD_eq_getElem?_getD]
  by_cases h1 : i < k
  · rw [if_pos h1, List.getElem?_append_left (by omega), List.getElem?_take, if_pos h1]
  · rw [if_neg h1, List.getElem?_append_right (by omega), hl]
    by_cases h2 : i = k
    · rw [if_pos h2, h2, Nat.sub_self]; rfl
    · rw [if_neg h2]
      by_cases h3 : i = k + 1
      · rw [if_pos h3, h3, show k + 1 - k = 1 by omega]; rfl
      · rw [if_neg h3]
        obtain ⟨j, rfl⟩ : ∃ j, i = k + 2 + j := ⟨i - (k + 2), by omega⟩
        rw [show k + 2 + j - k = j + 1 + 1 by omega, List.getElem?_cons_succ, List.getElem?_cons_succ, List.getElem?_drop, show k + 1 + j = k + 2 + j - 1 by omega]
theorem splF_heights (rs : List Rg) (k : Nat) (r q : Rg) (h : k < rs.length) (hs : r.2.2 + q.2.2 = (rs.getD k zR).2.2) : heights (splF rs k r q) = heights rs := by
  have e : rs = rs.take k ++ rs.getD k zR :: rs.drop (k + 1) := by
    conv => lhs; rw [← List.take_append_drop k rs]
    rw [List.drop_eq_getElem_cons h]
    simp [List.getD, h]
  have h2 : heights rs = heights (rs.take k) + ((rs.getD k zR).2.2 + heights (rs.drop (k + 1))) := by
    conv => lhs; rw [e]
    rw [heights_append]; rfl
  unfold splF
  rw [h2, heights_append]
  simp only [heights]
  omega
/-- Both parts are high enough: just then the divided profile is valid. -/
theorem spl_ok {s : ByteArray} {rs : List Rg} {k : Nat} {x y z o : Int} (hp : profB s rs = true) (hk : k < rs.length) (h32 : rs.length ≠ 32) (hr : rs.getD k zR = (x, y, z)) (h0 : 0 ≤ o) (h1 : o < z) :
    profB s (splF rs k (x, y, o) (x, y, z - o)) = decide (10 ≤ o ∧ 10 ≤ z - o) := by
  obtain ⟨hn, ⟨n1, n2⟩, hok, hh⟩ := prof_iff.1 hp
  have hkr := ring_iff.1 (prof_ring hp k hk)
  rw [hr] at hkr
  simp only at hkr
  rw [Bool.eq_iff_iff, decide_eq_true_eq, prof_iff, splF_len _ _ _ _ hk, splF_heights rs k _ _ hk (by rw [hr]; simp only; omega)]
  constructor
  · rintro ⟨_, _, h, _⟩
    have a := h k (by omega)
    have b := h (k + 1) (by omega)
    have a' := ok_ring a
    have b' := ok_ring b
    rw [splF_get _ _ _ _ hk, if_neg (by omega), if_pos rfl] at a'
    rw [splF_get _ _ _ _ hk, if_neg (by omega), if_neg (by omega), if_pos rfl] at b'
    have a'' := ring_iff.1 a'
    have b'' := ring_iff.1 b'
    simp only at a'' b''
    omega
  · rintro ⟨g1, g2⟩
    refine ⟨hn, by omega, fun i hi => ?_, hh⟩
    have ra : ringB (x, y, o) = true := ring_iff.2 (by simp only; omega)
    have rb : ringB (x, y, z - o) = true := ring_iff.2 (by simp only; omega)
    unfold okAt
    rw [Bool.and_eq_true]
    refine ⟨?_, ?_⟩
    · rw [splF_get _ _ _ _ hk]
      split
      · exact prof_ring hp i (by omega)
      · split
        · exact ra
        · split
          · exact rb
          · exact prof_ring hp (i - 1) (by omega)
    · by_cases hi0 : i = 0
      · rw [decide_eq_true hi0]; rfl
      · rw [Bool.or_eq_true]
        refine .inr (join_iff.2 ?_)
        have J : ∀ j, 0 < j → j < rs.length → (rs.getD (j - 1) zR).2.1 < (rs.getD j zR).1 ∧ (rs.getD j zR).2.1 < (rs.getD (j - 1) zR).1 := fun j hj0 hj => by
          have := hok j hj
          unfold okAt at this
          rw [Bool.and_eq_true, Bool.or_eq_true, decide_eq_true_eq] at this
          rcases this.2 with e | e
          · omega
          · exact join_iff.1 e
        rw [splF_get _ _ _ _ hk, splF_get _ _ _ _ hk]
        by_cases c1 : i < k
        · rw [if_pos (show i - 1 < k by omega), if_pos c1]
          exact J i (by omega) (by omega)
        · by_cases c2 : i = k
          · rw [if_pos (show i - 1 < k by omega), if_neg c1, if_pos c2]
            have := J k (by omega) hk
            rw [hr] at this
            rw [c2]
            exact this
          · by_cases c3 : i = k + 1
            · rw [if_neg (show ¬ i - 1 < k by omega), if_pos (show i - 1 = k by omega), if_neg c1, if_neg c2, if_pos c3]
              simp only
              omega
            · rw [if_neg (show ¬ i - 1 < k by omega), if_neg (show ¬ i - 1 = k by omega), if_neg c1, if_neg c2, if_neg c3]
              by_cases c4 : i - 1 = k + 1
              · rw [if_pos c4]
                have := J (k + 1) (by omega) (by omega)
                rw [show k + 1 - 1 = k by omega, hr] at this
                rw [show i - 1 = k + 1 from c4]
                exact this
              · rw [if_neg c4]
                have := J (i - 1) (by omega) (by omega)
                exact this
def splC (s : ByteArray) (rs : List Rg) (h : Int) (k : Nat) : Int :=
  if askC s rs h = 0 then (if rs.length = 32 then 5 else if 10 ≤ h - heights (rs.take k) ∧ 10 ≤ (rs.getD k zR).2.2 - (h - heights (rs.take k)) then 0 else 6) else askC s rs h
def splL (rs : List Rg) (h : Int) (k : Nat) : List Rg :=
  splF rs k ((rs.getD k zR).1, (rs.getD k zR).2.1, h - heights (rs.take k)) ((rs.getD k zR).1, (rs.getD k zR).2.1, (rs.getD k zR).2.2 - (h - heights (rs.take k)))
end Go.Proofs.Ytojkijcdfnfnlab
