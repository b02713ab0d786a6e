/- A measurement read back from its text: the mathematics, and the names of partials. -/
import Derived.Test.YtfleececlafjkabDoorMeaI
import Derived.Test.YtfleececlafjkabDoorHzRead
import Derived.Test.YtfleececlafjkabDoorMaxOf
set_option linter.unusedVariables false
namespace Go.Proofs.YtfleececlafjkabDoor
open Go.ChangeShapes Go.WideShapes Go.ChangeAt Go.RowKit Go.Deep

theorem digit_no32 (d : Nat) (h : d < 10) : UInt8.ofNat (48 + d) ≠ 32 := by
  rcases (by omega : d = 0 ∨ d = 1 ∨ d = 2 ∨ d = 3 ∨ d = 4 ∨ d = 5 ∨ d = 6 ∨ d = 7 ∨ d = 8 ∨ d = 9) with rfl | rfl | rfl | rfl | rfl | rfl | rfl | rfl | rfl | rfl <;> decide
theorem dec_no32 (u : Nat) : ∀ x ∈ Lib.decDigits u, x ≠ 32 := by
  induction u using Nat.strongRecOn with
  | ind u ih =>
    rw [Lib.decDigits]
    split
    · rename_i h
      intro x hx
      obtain rfl : x = UInt8.ofNat (48 + u) := by simpa using hx
      exact digit_no32 u h
    · intro x hx
      rcases List.mem_append.1 hx with hx | hx
      · exact ih _ (by omega) x hx
      · obtain rfl : x = UInt8.ofNat (48 + u % 10) := by simpa using hx
        exact digit_no32 _ (by omega)
theorem hzL_no32 (n : Nat) : ∀ x ∈ hzL n, x ≠ 32 := by
  intro x hx
  unfold hzL at hx
  rcases List.mem_append.1 hx with hx | hx
  · exact dec_no32 _ x hx
  · rcases List.mem_cons.1 hx with rfl | hx
    · decide
    · unfold dg3 dg at hx
      simp only [List.mem_cons, List.not_mem_nil, or_false] at hx
      rcases hx with rfl | rfl | rfl
      · exact digit_no32 _ (by omega)
      · exact digit_no32 _ (by omega)
      · exact digit_no32 _ (by omega)
theorem hzTx_no32 (v : Int) : ∀ x ∈ (hzTx v).data.toList, x ≠ 32 := by
  unfold hzTx
  split
  · exact hzL_no32 _
  · intro x hx; exact absurd hx (by show x ∉ ([] : List UInt8); simp)
theorem rdV_text {s : ByteArray} {v : Int} (h : rdV hzTx s = some v) : hzTx v = s := by
  unfold rdV at h
  split at h
  · split at h
    · rename_i h2
      obtain rfl := Option.some.inj h
      exact h2
    · cases h
  · cases h
theorem rdV_no32 {s : ByteArray} {v : Int} (h : rdV hzTx s = some v) : ∀ x ∈ s.data.toList, x ≠ 32 := by
  rw [← rdV_text h]; exact hzTx_no32 v
theorem rdV_nil : rdV hzTx ⟨#[]⟩ = none := by rw [← hz_back]; rfl

/-- The partial with a name; 0 if there is none. -/
def pnOf (p : ByteArray) : Int := if pnT 1 = p then 1 else if pnT 2 = p then 2 else if pnT 3 = p then 3 else if pnT 4 = p then 4 else if pnT 5 = p then 5 else 0
theorem pn1 : pnT 1 = ⟨#[104, 117, 109]⟩ := rfl
theorem pn2 : pnT 2 = ⟨#[112, 114, 105, 109, 101]⟩ := rfl
theorem pn3 : pnT 3 = ⟨#[116, 105, 101, 114, 99, 101]⟩ := rfl
theorem pn4 : pnT 4 = ⟨#[113, 117, 105, 110, 116]⟩ := rfl
theorem pn5 : pnT 5 = ⟨#[110, 111, 109, 105, 110, 97, 108]⟩ := rfl
theorem pnOf_bd (p : ByteArray) : 0 ≤ pnOf p ∧ pnOf p ≤ 5 := by
  unfold pnOf
  repeat' split
  all_goals omega
theorem pnOf_eq {k : Int} {p : ByteArray} (h1 : 1 ≤ k) (h5 : k ≤ 5) : pnT k = p ↔ pnOf p = k := by
  constructor
  · rintro rfl
    rcases (by omega : k = 1 ∨ k = 2 ∨ k = 3 ∨ k = 4 ∨ k = 5) with rfl | rfl | rfl | rfl | rfl <;> (unfold pnOf; rw [pn1, pn2, pn3, pn4, pn5]; decide)
  · intro h
    unfold pnOf at h
    split at h
    · subst h; assumption
    · split at h
      · subst h; assumption
      · split at h
        · subst h; assumption
        · split at h
          · subst h; assumption
          · split at h
            · subst h; assumption
            · omega
theorem pnOf_nil : pnOf ⟨#[]⟩ = 0 := by unfold pnOf; rw [pn1, pn2, pn3, pn4, pn5]; decide
/-- What a loop over the partials has found before k. -/
def pnTo (k : Nat) (p : ByteArray) : Int := if pnOf p < (k : Int) then pnOf p else 0
theorem pnTo_one (p : ByteArray) : pnTo 1 p = 0 := by
  unfold pnTo
  have := (pnOf_bd p).1
  split <;> omega
theorem pnTo_hit {k : Nat} {p : ByteArray} (h1 : 1 ≤ k) (h5 : k ≤ 5) (h : pnT (k : Int) = p) : pnTo (k + 1) p = (k : Int) := by
  have := (pnOf_eq (by omega) (by omega)).1 h
  unfold pnTo
  rw [this, if_pos (by omega)]
theorem pnTo_miss {k : Nat} {p : ByteArray} (h1 : 1 ≤ k) (h5 : k ≤ 5) (h : pnT (k : Int) ≠ p) : pnTo (k + 1) p = pnTo k p := by
  have hn : pnOf p ≠ (k : Int) := fun e => h ((pnOf_eq (by omega) (by omega)).2 e)
  unfold pnTo
  split <;> split <;> omega
theorem pnTo_six (p : ByteArray) : pnTo 6 p = pnOf p := by
  unfold pnTo
  have := (pnOf_bd p).2
  rw [if_pos (by omega)]

def mrNo : Value := .tuple #[.agg #[.string ⟨#[]⟩, .int .i64 0, .int .i64 0], .bool false]
def mrYes (nm : ByteArray) (k f : Int) : Value := .tuple #[.agg #[.string nm, .int .i64 k, .int .i64 f], .bool true]
def mrB (nm : ByteArray) (k : Int) (r : Option Int) : Value := match r with | some f => if meaB nm k f = true then mrYes nm k f else mrNo | none => mrNo
def mrA (l : List (List UInt8)) : Value := match l with | [a, b, c] => mrB ⟨a.toArray⟩ (pnOf ⟨b.toArray⟩) (rdV hzTx ⟨c.toArray⟩) | _ => mrNo
theorem mrB_form (nm : ByteArray) (k : Int) (r : Option Int) : ∃ n2 k2 f2 o, mrB nm k r = .tuple #[.agg #[.string n2, .int .i64 k2, .int .i64 f2], .bool o] := by
  unfold mrB mrYes mrNo
  split
  · split
    · exact ⟨_, _, _, _, rfl⟩
    · exact ⟨_, _, _, _, rfl⟩
  · exact ⟨_, _, _, _, rfl⟩
theorem mrA_form (l : List (List UInt8)) : ∃ n2 k2 f2 o, mrA l = .tuple #[.agg #[.string n2, .int .i64 k2, .int .i64 f2], .bool o] := by
  unfold mrA
  split
  · exact mrB_form _ _ _
  · exact ⟨_, _, _, _, rfl⟩
theorem mrA_three (p0 p1 p2 : ByteArray) : mrA ([p0, p1, p2].map (·.data.toList)) = mrB p0 (pnOf p1) (rdV hzTx p2) := rfl
theorem mrA_not {l : List (List UInt8)} (h : l.length ≠ 3) : mrA l = mrNo := by
  unfold mrA
  split
  · exact absurd rfl h
  · rfl
theorem mrB_zero (nm : ByteArray) (r : Option Int) : mrB nm 0 r = mrNo := by
  unfold mrB
  split
  · rw [if_neg]
    intro h
    have := (mea_iff.1 h).2.1
    exact absurd this (by decide)
  · rfl
theorem cut_at (l : List UInt8) : (Lib.cut l [32] = (l, [], false) ∧ splitL 32 l = [l]) ∨ (∃ i, Lib.cut l [32] = (l.take i, l.drop (i + 1), true) ∧ splitL 32 l = l.take i :: splitL 32 (l.drop (i + 1))) := by
  obtain ⟨h1, h2⟩ := splitL_index 32 l
  by_cases hi : 0 ≤ Lib.index l [32]
  · obtain ⟨i, hi2⟩ := Int.eq_ofNat_of_zero_le hi
    refine .inr ⟨i, ?_, h2 i hi2⟩
    unfold Lib.cut
    rw [if_pos hi, hi2]; rfl
  · have hm : Lib.index l [32] = -1 := by have := Lib.index_ge l [32]; omega
    refine .inl ⟨?_, h1 hm⟩
    unfold Lib.cut
    rw [if_neg hi]
theorem mr_cut (l : List UInt8) :
    mrB ⟨(Lib.cut l [32]).1.toArray⟩ (pnOf ⟨(Lib.cut (Lib.cut l [32]).2.1 [32]).1.toArray⟩) (rdV hzTx ⟨(Lib.cut (Lib.cut l [32]).2.1 [32]).2.1.toArray⟩) = mrA (splitL 32 l) := by
  rcases cut_at l with ⟨e, hs⟩ | ⟨i, e, hs⟩
  · rw [e, hs]
    rw [show pnOf ⟨(Lib.cut ([] : List UInt8) [32]).1.toArray⟩ = 0 from pnOf_nil, mrB_zero]
    rfl
  · rw [e, hs]
    simp only []
    rcases cut_at (l.drop (i + 1)) with ⟨e2, hs2⟩ | ⟨j, e2, hs2⟩
    · rw [e2, hs2]
      simp only []
      rw [show rdV hzTx ⟨([] : List UInt8).toArray⟩ = none from rdV_nil]
      rfl
    · rw [e2, hs2]
      simp only []
      generalize l.take i = a
      generalize (l.drop (i + 1)).take j = b
      generalize (l.drop (i + 1)).drop (j + 1) = c
      cases hr : rdV hzTx ⟨c.toArray⟩ with
      | some v =>
        have := splitL_none 32 c (rdV_no32 hr)
        rw [this]
        show _ = mrB _ _ (rdV hzTx ⟨c.toArray⟩)
        rw [hr]
      | none =>
        show mrNo = _
        by_cases hl : (splitL 32 c).length = 1
        · obtain ⟨d, hd⟩ : ∃ d, splitL 32 c = [d] := by
            match splitL 32 c, hl with
            | [d], _ => exact ⟨d, rfl⟩
          have hc : d = c := by
            rcases cut_at c with ⟨-, h⟩ | ⟨m, -, h⟩
            · rw [h] at hd; exact (List.cons.inj hd).1.symm
            · rw [h] at hd
              exact absurd (List.cons.inj hd).2 (splitL_ne _ _)
          subst hc
          rw [hd]
          show mrNo = mrB _ _ (rdV hzTx ⟨d.toArray⟩)
          rw [hr]
          rfl
        · rw [mrA_not (by simp only [List.length_cons]; omega)]
theorem cut_len (l : List UInt8) : (Lib.cut l [32]).1.length ≤ l.length ∧ (Lib.cut l [32]).2.1.length ≤ l.length := by
  rcases cut_at l with ⟨e, -⟩ | ⟨i, e, -⟩
  · rw [e]; simp
  · rw [e]; simp only [List.length_take, List.length_drop]; omega
theorem list_three {ps : List ByteArray} (h : ps.length = 3) : ∃ a b c, ps = [a, b, c] := by
  match ps, h with
  | [a, b, c], _ => exact ⟨_, _, _, rfl⟩
theorem bytes_eq_t (a : ByteArray) : (a.toList == a.toList) = true := by simp
theorem bytes_eq_f {a b : ByteArray} (h : a ≠ b) : (a.toList == b.toList) = false :=
  beq_eq_false_iff_ne.2 (fun e => h (bytes_of (by rw [ByteArray.toList_eq, ByteArray.toList_eq] at e; exact e)))
set_option maxRecDepth 20000 in
set_option maxHeartbeats 1000000 in
theorem partialNamed_any (p : ByteArray) (w : World) (hp : Hid (PartOk w)) :
    Calls Tryd.prog 26 #[.string p] w fun e w' => e = .returned (.tuple #[.int .i64 (pnOf p), .bool (decide (pnOf p ≠ 0))]) ∧ Below w.heap.size w w' := by
  go_enter Tryd.func26, Tryd.ntmps26
  go_wp2
  go_loopw [4] (fun i wr => ∃ k : Nat, 1 ≤ k ∧ k ≤ 6 ∧ i = .int .i64 k ∧ Hid (pnTo k p = 0) ∧ Hid (∀ j : Nat, 1 ≤ j → j < k → pnT (j : Int) ≠ p) ∧ Below w.heap.size w wr) (fun i _ => 6 - (intOf i).toNat)
  case atStart => exact ⟨1, by omega, by omega, rfl, pnTo_one p, fun j h1 h2 => by omega, Below.refl _ _⟩
  case round =>
    obtain ⟨k, hk1, hk6, rfl, HT, HN, hbw⟩ := hrel
    have HB := Lib.hid hbw
    have hsz := hbw.size
    clear hbw
    by_cases hlt : k ≤ 5
    · have hk0 : (k : Int) ≤ 5 := by omega
      have HPK := Lib.hid (part_kept HB.out hp.out)
      by_cases he : pnT (k : Int) = p
      · have HA := Lib.hid (show pnOf p = (k : Int) from (pnOf_eq (by omega) (by omega)).1 he)
        have HE := Lib.hid he
        have hq := bytes_eq_t p
        clear he
        go_wp2_with fail
        refine (implPartName_any (k : Int) _ HPK).mono ?_
        rw [HE.out]
        rintro e w2 ⟨rfl, hb⟩
        have HB2 := Lib.hid (below_of HB.out hb HB.out.size)
        clear hb
        go_wp2
        go_ret2
        rw [HA.out]
        have hd : decide ((k : Int) ≠ 0) = true := decide_eq_true (by omega)
        rw [hd]
        exact ⟨rfl, HB2.out⟩
      · have HM := Lib.hid (pnTo_miss hk1 hlt he)
        have HE := Lib.hid he
        obtain ⟨x, hx⟩ : ∃ x, pnT (k : Int) = x := ⟨_, rfl⟩
        have HX := Lib.hid hx
        rw [hx] at he
        have hq := bytes_eq_f he
        clear he hx
        go_wp2_with fail
        refine (implPartName_any (k : Int) _ HPK).mono ?_
        rw [HX.out]
        rintro e w2 ⟨rfl, hb⟩
        have HB2 := Lib.hid (below_of HB.out hb HB.out.size)
        clear hb
        go_wp2
        go_roundw
        case rel => exact ⟨k + 1, by omega, by omega, by go_num, by rw [HM.out]; exact HT.out, fun j h1 h2 => by
          by_cases e : j = k
          · subst e; exact HE.out
          · exact HN.out j h1 (by omega), HB2.out⟩
        case measure => simp [intOf]; omega
    · obtain rfl : k = 6 := by omega
      have HA := Lib.hid (show pnOf p = 0 by rw [← pnTo_six]; exact HT.out)
      go_wp2
      go_ret2
      rw [HA.out]
      exact ⟨rfl, HB.out⟩
end Go.Proofs.YtfleececlafjkabDoor
