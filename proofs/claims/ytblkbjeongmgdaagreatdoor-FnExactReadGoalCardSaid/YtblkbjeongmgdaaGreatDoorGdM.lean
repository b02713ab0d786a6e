/- A goal read back from its text: the mathematics. -/
import Derived.Test.YtblkbjeongmgdaaGreatDoorSndReadI
import Derived.Test.YtblkbjeongmgdaaGreatDoorGoalV
import Derived.Test.YtblkbjeongmgdaaGreatDoorShelfC
set_option linter.unusedVariables false
namespace Go.Proofs.YtblkbjeongmgdaaGreatDoor
open Go.ChangeShapes Go.WideShapes Go.ChangeAt Go.RowKit

theorem digitG_no32 (d : Nat) (h : d < 10) : UInt8.ofNat (48 + d) ≠ 32 := by
  rcases (by omega : d = 0 ∨ d = 1 ∨ d = 2 ∨ d = 3 ∨ d = 4 ∨ d = 5 ∨ d = 6 ∨ d = 7 ∨ d = 8 ∨ d = 9) with rfl | rfl | rfl | rfl | rfl | rfl | rfl | rfl | rfl | rfl <;> decide
theorem decG_no32 (u : Nat) : ∀ x ∈ Lib.decDigits u, x ≠ 32 := by
  induction u using Nat.strongRecOn with
  | ind u ih =>
    rw [Lib.decDigits]
    split
    · rename_i h
      intro x hx
      obtain rfl : x = UInt8.ofNat (48 + u) := by simpa using hx
      exact digitG_no32 u h
    · intro x hx
      rcases List.mem_append.1 hx with hx | hx
      · exact ih _ (by omega) x hx
      · obtain rfl : x = UInt8.ofNat (48 + u % 10) := by simpa using hx
        exact digitG_no32 _ (by omega)
theorem itoaG_no32 (n : Int) : ∀ x ∈ Lib.itoa n, x ≠ 32 := by
  unfold Lib.itoa
  split
  · intro x hx
    rcases List.mem_cons.1 hx with rfl | hx
    · decide
    · exact decG_no32 _ x hx
  · exact decG_no32 _
theorem numG_text {l : List UInt8} {u : Int} (h : specNum l = some u) : Lib.itoa u = l := by
  rw [← impl_spec] at h
  unfold implNum at h
  split at h
  · cases h
  · split at h
    · split at h
      · rename_i h2
        obtain rfl := Option.some.inj h
        exact h2
      · cases h
    · cases h
theorem numG_blank {q : ByteArray} (h : (32 : UInt8) ∈ q.data.toList) : numOk q = false := by
  unfold numOk
  cases hs : specNum q.data.toList with
  | none => rfl
  | some v =>
    have h2 := numG_text hs
    exact absurd rfl (itoaG_no32 v 32 (by rw [h2]; exact h))
theorem indexG_lt (c : UInt8) : ∀ l : List UInt8, 0 ≤ Lib.index l [c] → Lib.index l [c] < l.length
  | [], h => by simp [Lib.index] at h
  | b :: l, h => by
    have ih := indexG_lt c l
    have hge := Lib.index_ge l [c]
    rw [Lib.index] at h ⊢
    split
    · simp
    · rename_i h1
      rw [if_neg h1] at h
      split
      · simp; omega
      · rename_i h2
        have : Lib.index l [c] ≠ -1 := fun e => h2 (by rw [e]; rfl)
        have := ih (by omega)
        simp only [List.length_cons]
        omega
def totG (ls : List (List UInt8)) : Nat := (ls.map List.length).sum
theorem splitK_tot (c : UInt8) : ∀ (k : Nat) (l : List UInt8), totG (Lib.splitK [c] 0 k l) + (Lib.splitK [c] 0 k l).length = l.length + 1
  | 0, l => by simp [Lib.splitK, totG]
  | k + 1, l => by
    rw [Lib.splitK]
    by_cases hm : Lib.index l [c] = -1
    · rw [if_pos (beq_iff_eq.2 hm)]
      simp [totG]
    · rw [if_neg (by rw [beq_iff_eq]; exact hm)]
      have hge := Lib.index_ge l [c]
      have hlt := indexG_lt c l (by omega)
      have ih := splitK_tot c k (l.drop ((Lib.index l [c]).toNat + 1))
      simp only [List.length_cons, List.length_nil, Nat.zero_add, Nat.add_zero, totG, List.map_cons, List.sum_cons, List.length_take, List.length_drop] at ih ⊢
      omega
theorem splitK_last (c : UInt8) : ∀ (k : Nat) (l : List UInt8), k + 1 < (splitL c l).length → c ∈ (Lib.splitK [c] 0 k l).getD k []
  | 0, l, h => by
    show c ∈ l
    by_cases hc : c ∈ l
    · exact hc
    · rw [splitL_none c l (fun x hx e => hc (e ▸ hx))] at h
      simp at h
  | k + 1, l, h => by
    obtain ⟨h1, h2⟩ := splitL_index c l
    rw [Lib.splitK]
    by_cases hm : Lib.index l [c] = -1
    · rw [h1 hm] at h
      simp at h
    · rw [if_neg (by rw [beq_iff_eq]; exact hm)]
      have hge := Lib.index_ge l [c]
      have e := h2 (Lib.index l [c]).toNat (by omega)
      rw [e, List.length_cons] at h
      have := splitK_last c k (l.drop ((Lib.index l [c]).toNat + 1)) (by omega)
      simpa using this
/-- The first five words, with single blanks. -/
def join5 (a b c e f : ByteArray) : ByteArray := a ++ (⟨#[32]⟩ : ByteArray) ++ b ++ (⟨#[32]⟩ : ByteArray) ++ c ++ (⟨#[32]⟩ : ByteArray) ++ e ++ (⟨#[32]⟩ : ByteArray) ++ f
theorem app_listG (a b : ByteArray) : (a ++ b).data.toList = a.data.toList ++ b.data.toList := by simp
theorem join_five (a b c e f : ByteArray) : (⟨(Lib.join ([a, b, c, e, f].map (·.data.toList)) (⟨#[32]⟩ : ByteArray).data.toList).toArray⟩ : ByteArray) = join5 a b c e f := by
  have e1 : ∀ l : List UInt8, (⟨l.toArray⟩ : ByteArray).data.toList = l := fun l => by simp
  apply ByteArray.ext
  apply Array.ext'
  rw [e1]
  unfold join5
  simp only [app_listG, List.map_cons, List.map_nil, Lib.join_cons, Lib.joinTail]
  simp
theorem join5_size (a b c e f : ByteArray) : (join5 a b c e f).size = a.size + 1 + b.size + 1 + c.size + 1 + e.size + 1 + f.size := by
  have e1 : (⟨#[32]⟩ : ByteArray).size = 1 := rfl
  unfold join5
  simp only [ByteArray.size_append, e1]
theorem join_five_len (a b c e f : ByteArray) : (Lib.join ([a, b, c, e, f].map (·.data.toList)) (⟨#[32]⟩ : ByteArray).data.toList).length = (join5 a b c e f).size := by
  have h := congrArg ByteArray.size (join_five a b c e f)
  have e : ∀ l : List UInt8, (⟨l.toArray⟩ : ByteArray).size = l.length := fun l => by show l.toArray.size = _; simp
  rw [e] at h
  exact h
theorem list_seven {ps : List ByteArray} (h : ps.length = 7) : ∃ a b c e f g i, ps = [a, b, c, e, f, g, i] := by
  match ps, h with
  | [a, b, c, e, f, g, i], _ => exact ⟨_, _, _, _, _, _, _, rfl⟩
def gdNo : Value := .tuple #[.agg #[.int .i64 0, .int .i64 0, .int .i64 0, .int .i64 0, .int .i64 0, .int .i64 0, .int .i64 0], .bool false]
def gdYes (a b c e f t q : Int) : Value := .tuple #[.agg #[.int .i64 a, .int .i64 b, .int .i64 c, .int .i64 e, .int .i64 f, .int .i64 t, .int .i64 q], .bool true]
def gdV (a b c e f : Int) (o : Bool) (g i : ByteArray) : Value := if o = true ∧ numOk g = true ∧ numOk i = true ∧ goalB a b c e f (numV g) (numV i) = true then gdYes a b c e f (numV g) (numV i) else gdNo
/-- What is read as the sound with a text. -/
def SndA (J : ByteArray) (a b c e f : Int) (o : Bool) : Prop := ∀ en, RdIs J en → en = .returned (.tuple #[.agg #[.int .i64 a, .int .i64 b, .int .i64 c, .int .i64 e, .int .i64 f], .bool o])
theorem sndA_some (J : ByteArray) : ∃ a b c e f o, SndA J a b c e f o := by
  by_cases h : ∃ en, RdIs J en
  · obtain ⟨en, h⟩ := h
    obtain ⟨a, b, c, e, f, o, rfl⟩ := rd_form h
    exact ⟨a, b, c, e, f, o, fun en2 h2 => rd_same h h2⟩
  · exact ⟨0, 0, 0, 0, 0, false, fun en h2 => absurd ⟨en, h2⟩ h⟩
/-- What is read as the goal with a text. -/
def GdIs (s : ByteArray) (V : Value) : Prop :=
  ((splitL 32 s.data.toList).length ≠ 7 ∧ V = gdNo) ∨ ∃ p0 p1 p2 p3 p4 p5 p6 : ByteArray, [p0, p1, p2, p3, p4, p5, p6].map (·.data.toList) = splitL 32 s.data.toList ∧ ∃ a b c e f o, SndA (join5 p0 p1 p2 p3 p4) a b c e f o ∧ V = gdV a b c e f o p5 p6
theorem gdV_form (a b c e f : Int) (o : Bool) (g i : ByteArray) : ∃ x0 x1 x2 x3 x4 x5 x6 y, gdV a b c e f o g i = .tuple #[.agg #[.int .i64 x0, .int .i64 x1, .int .i64 x2, .int .i64 x3, .int .i64 x4, .int .i64 x5, .int .i64 x6], .bool y] := by
  unfold gdV
  split
  · exact ⟨_, _, _, _, _, _, _, _, rfl⟩
  · exact ⟨_, _, _, _, _, _, _, _, rfl⟩
theorem gdIs_some (s : ByteArray) : ∃ x0 x1 x2 x3 x4 x5 x6 y, GdIs s (.tuple #[.agg #[.int .i64 x0, .int .i64 x1, .int .i64 x2, .int .i64 x3, .int .i64 x4, .int .i64 x5, .int .i64 x6], .bool y]) := by
  by_cases h : (splitL 32 s.data.toList).length = 7
  · have h2 : ((splitL 32 s.data.toList).map (fun l => (⟨l.toArray⟩ : ByteArray))).length = 7 := by simpa using h
    obtain ⟨p0, p1, p2, p3, p4, p5, p6, hp⟩ := list_seven h2
    have h3 : [p0, p1, p2, p3, p4, p5, p6].map (·.data.toList) = splitL 32 s.data.toList := by
      rw [← hp, List.map_map]
      exact (List.map_congr_left (fun l _ => by simp)).trans (List.map_id _)
    obtain ⟨a, b, c, e, f, o, hs⟩ := sndA_some (join5 p0 p1 p2 p3 p4)
    obtain ⟨x0, x1, x2, x3, x4, x5, x6, y, hv⟩ := gdV_form a b c e f o p5 p6
    exact ⟨x0, x1, x2, x3, x4, x5, x6, y, .inr ⟨p0, p1, p2, p3, p4, p5, p6, h3, a, b, c, e, f, o, hs, hv.symm⟩⟩
  · exact ⟨0, 0, 0, 0, 0, 0, 0, false, .inl ⟨h, rfl⟩⟩
end Go.Proofs.YtblkbjeongmgdaaGreatDoor
