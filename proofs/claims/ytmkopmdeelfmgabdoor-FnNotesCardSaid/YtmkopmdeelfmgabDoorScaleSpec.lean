/- The notes of a scale: the program's answer and the reference model's. -/
import Derived.Test.YtmkopmdeelfmgabDoorInts
import Derived.Test.YtmkopmdeelfmgabDoorNoteIv
namespace Go.Proofs.YtmkopmdeelfmgabDoor
open Go.ChangeShapes Go.WideShapes Go.ChangeAt Go.RowKit

def stepsL (kind : Int) : List Int := if kind = 1 then [0, 2, 4, 5, 7, 9, 11, 12] else if kind = 2 then [0, 2, 3, 5, 7, 8, 10, 12] else if kind = 3 then [0, 1, 2, 3, 4, 5, 6, 7, 8, 9, 10, 11, 12] else if kind = 4 then [0, 2, 4, 7, 9, 12] else []
def scaleL (root kind : Int) : List Int := (stepsL kind).map (root + ·)
def kindB (kind : Int) : Bool := inB kind 1 4
theorem kind_cases {kind : Int} (h : kindB kind = true) : kind = 1 ∨ kind = 2 ∨ kind = 3 ∨ kind = 4 := by
  have := inB_iff.1 h; omega
theorem steps_len {kind : Int} (h : kindB kind = true) : 0 < (stepsL kind).length ∧ (stepsL kind).length ≤ 13 := by
  rcases kind_cases h with rfl | rfl | rfl | rfl <;> decide
theorem steps_in {kind : Int} (h : kindB kind = true) (j : Nat) (hj : j < (stepsL kind).length) : 0 ≤ (stepsL kind).getD j 0 ∧ (stepsL kind).getD j 0 ≤ 12 := by
  have ha : ((stepsL kind).all fun z => decide (0 ≤ z) && decide (z ≤ 12)) = true := by rcases kind_cases h with rfl | rfl | rfl | rfl <;> decide
  rw [List.all_eq_true] at ha
  have := ha (stepsL kind)[j] (List.getElem_mem hj)
  rw [List.getD_eq_getElem?_getD, List.getElem?_eq_getElem hj]
  simpa using this
theorem own_lit (w : World) (zs : List Int) (cs : Array Value) (n : Nat) (v : Value) (hc : cs = (zs.map (Value.int .i64)).toArray) (hn : n = zs.length) (hv : v = .slice (some ⟨w.heap.size, 0, none⟩) n n) (hm : zs.length ≤ 1048576) : OwnInts (w.alloc (.cells cs 2)) w.heap.size v zs := by
  subst hc hn hv
  refine ⟨w.heap.size, zs.length, rfl, Nat.le_refl _, by simp, by simp [i64s], .inr ⟨w.heap.size, zs.length, _, rfl, Nat.le_refl _, heap_alloc_new w _, Nat.le_refl _, by unfold maxLen; omega, by simp, by simp [i64s, List.take_of_length_le]⟩⟩
def StepsPost (zs : List Int) (w : World) (e : Ending) (w' : World) : Prop := ∃ v, e = .returned v ∧ OwnInts w' w.heap.size v zs ∧ Below w.heap.size w w'
theorem implSteps1 (w : World) : Calls Tryd.prog 45 #[.int .i64 1] w (StepsPost [0, 2, 4, 5, 7, 9, 11, 12] w) := by
  go_enter Tryd.func45, Tryd.ntmps45
  go_wp2
  go_ret
  exact ⟨_, rfl, own_lit w [0, 2, 4, 5, 7, 9, 11, 12] _ _ _ rfl rfl rfl (by decide), (Below.refl _ _).alloc (Nat.le_refl _) _⟩
theorem implSteps2 (w : World) : Calls Tryd.prog 45 #[.int .i64 2] w (StepsPost [0, 2, 3, 5, 7, 8, 10, 12] w) := by
  go_enter Tryd.func45, Tryd.ntmps45
  go_wp2
  go_ret
  exact ⟨_, rfl, own_lit w [0, 2, 3, 5, 7, 8, 10, 12] _ _ _ rfl rfl rfl (by decide), (Below.refl _ _).alloc (Nat.le_refl _) _⟩
theorem implSteps3 (w : World) : Calls Tryd.prog 45 #[.int .i64 3] w (StepsPost [0, 1, 2, 3, 4, 5, 6, 7, 8, 9, 10, 11, 12] w) := by
  go_enter Tryd.func45, Tryd.ntmps45
  go_wp2
  go_ret
  exact ⟨_, rfl, own_lit w [0, 1, 2, 3, 4, 5, 6, 7, 8, 9, 10, 11, 12] _ _ _ rfl rfl rfl (by decide), (Below.refl _ _).alloc (Nat.le_refl _) _⟩
theorem implSteps4 (w : World) : Calls Tryd.prog 45 #[.int .i64 4] w (StepsPost [0, 2, 4, 7, 9, 12] w) := by
  go_enter Tryd.func45, Tryd.ntmps45
  go_wp2
  go_ret
  exact ⟨_, rfl, own_lit w [0, 2, 4, 7, 9, 12] _ _ _ rfl rfl rfl (by decide), (Below.refl _ _).alloc (Nat.le_refl _) _⟩
theorem implSteps0 (kind : Int) (w : World) (h : kindB kind = false) : Calls Tryd.prog 45 #[.int .i64 kind] w fun e w' => e = .returned (.slice none 0 0) ∧ w = w' := by
  have hk : ¬ (1 ≤ kind ∧ kind ≤ 4) := fun g => by rw [show kindB kind = inB kind 1 4 from rfl, inB_true g] at h; cases h
  have h1 : (kind == 1) = false := beq_eq_false_iff_ne.2 (by omega)
  have h2 : (kind == 2) = false := beq_eq_false_iff_ne.2 (by omega)
  have h3 : (kind == 3) = false := beq_eq_false_iff_ne.2 (by omega)
  have h4 : (kind == 4) = false := beq_eq_false_iff_ne.2 (by omega)
  clear h hk
  go_enter Tryd.func45, Tryd.ntmps45
  go_wp2
  go_ret
  exact ⟨rfl, rfl⟩
theorem implSteps_any (kind : Int) (w : World) (h : kindB kind = true) : Calls Tryd.prog 45 #[.int .i64 kind] w (StepsPost (stepsL kind) w) := by
  rcases kind_cases h with rfl | rfl | rfl | rfl
  · exact implSteps1 w
  · exact implSteps2 w
  · exact implSteps3 w
  · exact implSteps4 w

/-- The code of a scale. -/
def snC (root kind : Int) : Int := if noteB root = true ∧ kindB kind = true then (if noteB (root + 12) = true then 0 else 6) else 2
def ScalePost (root kind : Int) (w : World) (e : Ending) (w' : World) : Prop := Below w.heap.size w w' ∧
  ((snC root kind ≠ 0 ∧ e = .returned (.tuple #[.slice none 0 0, .int .i64 (snC root kind)])) ∨ ∃ v, snC root kind = 0 ∧ e = .returned (.tuple #[v, .int .i64 0]) ∧ OwnInts w' w.heap.size v (scaleL root kind))
theorem sn_2a {root kind : Int} (h : noteB root = false) : snC root kind = 2 := by unfold snC; rw [h]; exact if_neg (fun h => by cases h.1)
theorem sn_2b {root kind : Int} (h : kindB kind = false) : snC root kind = 2 := by unfold snC; rw [h]; exact if_neg (fun h => by cases h.2)
theorem sn_6 {root kind : Int} (h : noteB root = true) (h1 : kindB kind = true) (h2 : noteB (root + 12) = false) : snC root kind = 6 := by unfold snC; rw [if_pos ⟨h, h1⟩, h2]; rfl
theorem sn_0 {root kind : Int} (h : noteB root = true) (h1 : kindB kind = true) (h2 : noteB (root + 12) = true) : snC root kind = 0 := by unfold snC; rw [if_pos ⟨h, h1⟩, if_pos h2]
theorem ret_err {a b : Int} (h : a = b) : Ending.returned (.tuple #[.slice none 0 0, .int .i64 a]) = .returned (.tuple #[.slice none 0 0, .int .i64 b]) := by rw [h]
theorem cell_1v (w : World) (x : Value) (T : TypeId) : ∀ (j : Nat) (u : Value), ([x] : List Value)[j]? = some u → (w.alloc (.cells #[x] T)).cell? ((⟨w.heap.size, 0, none⟩ : Addr).add j) = some u := by
  intro j u hj
  match j, hj with
  | 0, hj => simp at hj; subst hj; simp [Addr.add]
  | j + 1, hj => simp at hj
theorem ints_snoc' (zs : List Int) (z : Int) : i64s (zs ++ [z]) = i64s zs ++ [.int .i64 z] := by simp [i64s]
theorem take_snoc' (zs : List Int) (root : Int) (k : Nat) (h : k < zs.length) : (zs.take (k + 1)).map (root + ·) = (zs.take k).map (root + ·) ++ [root + zs.getD k 0] := by
  rw [List.take_succ_eq_append_getElem h, List.map_append, List.getD_eq_getElem?_getD, List.getElem?_eq_getElem h]; rfl
theorem row_own {w : World} {B g cap n : Nat} {zs : List Int} (hn : zs.length = n) (h : w.ownsRow B 2 1 (.slice (some ⟨g, 0, none⟩) n cap) n (i64s zs)) : OwnInts w B (.slice (some ⟨g, 0, none⟩) n cap) zs := by
  subst hn
  have hlt := h.lt g rfl
  exact ⟨g, cap, rfl, hlt.1, hlt.2, h⟩
theorem row_low {w : World} {B B' : Nat} {e : TypeId} {v : Value} {n : Nat} {xs : List Value} (h : w.ownsRow B e 1 v n xs) (hB : B' ≤ B) : w.ownsRow B' e 1 v n xs := by
  obtain ⟨h1, h2 | ⟨g, cap, cur, h3, h4, h5⟩⟩ := h
  · exact ⟨h1, .inl h2⟩
  · exact ⟨h1, .inr ⟨g, cap, cur, h3, Nat.le_trans hB h4, h5⟩⟩
theorem row_form {w : World} {B : Nat} {v : Value} {n : Nat} {zs : List Int} (hz : 0 < n) (hn : zs.length = n) (h : w.ownsRow B 2 1 v n (i64s zs)) : OwnInts w B v zs := by
  obtain ⟨h1, h2 | ⟨g, cap, cur, rfl, h4, h5⟩⟩ := h
  · obtain ⟨-, h3⟩ := h2
    rw [h3] at h1
    simp at h1
    omega
  · exact row_own hn ⟨h1, .inr ⟨g, cap, cur, rfl, h4, h5⟩⟩

end Go.Proofs.YtmkopmdeelfmgabDoor
