/- The notes of a scale: the program's answer and the reference model's. -/
import Derived.Test.YtpfpdhgdeaoemacInts
import Derived.Test.YtpfpdhgdeaoemacNoteIv
namespace Go.Proofs.Ytpfpdhgdeaoemac
open Go.ChangeShapes Go.WideShapes Go.ChangeAt Go.RowKit

def stepsL (kind : Int) : List Int := if kind = 1 then [0, 2, 4, 5, 7, 9, 11, 12] else if kind = 2 then [0, 2, 3, 5, 7, 8, 10, 12] else if kind = 3 then [0, 1, 2, 3, 4, 5, 6, 7, 8, 9, 10, 11, 12] else if kind = 4 then [0, 2, 4, 7, 9, 12] else []
def scaleL (root kind : Int) : List Int := (stepsL kind).map (root + ·)
def kindB (kind : Int) : Bool := inB kind 1 4
theorem kind_cases {kind : Int} (h : kindB kind = true) : kind = 1 ∨ kind = 2 ∨ kind = 3 ∨ kind = 4 := by
  have := inB_iff.1 h; omega
theorem steps_len {kind : Int} (h : kindB kind = true) : 0 < (stepsL kind).length ∧ (stepsL kind).length ≤ 13 := by
  rcases kind_cases h with rfl | rfl | rfl | rfl <;> decide
theorem steps_in {kind : Int} (h : kindB kind = true) (j : Nat) (hj : j < (stepsL kind).length) : 0 ≤ (stepsL kind).getD j 0 ∧ (stepsL kind).getD j 0 ≤ 12 := by
  have ha : ((stepsL kind).all fun z => decide (0 ≤ z) && decide (z ≤ 12)) = true := by rcases kind_cases h with rfl | rfl | rfl | rfl <;> decide
  rw [List.all_eq_true] at ha
  have := ha (stepsL kind)[j] (List.getElem_mem hj)
  rw [List.getD_eq_getElem?_getD, List.getElem?_eq_getElem hj]
  simpa using this
theorem own_lit (w : World) (zs : List Int) (cs : Array Value) (n : Nat) (v : Value) (hc : cs = (zs.map (Value.int .i64)).toArray) (hn : n = zs.length) (hv : v = .slice (some ⟨w.heap.size, 0, none⟩) n n) (hm : zs.length ≤ 1048576) : OwnInts (w.alloc (.cells cs 2)) w.heap.size v zs := by
  subst hc hn hv
  refine ⟨w.heap.size, zs.length, rfl, Nat.le_refl _, by simp, by simp [i64s], .inr ⟨w.heap.size, zs.length, _, rfl, Nat.le_refl _, heap_alloc_new w _, Nat.le_refl _, by unfold maxLen; omega, by simp, by simp [i64s, List.take_of_length_le]⟩⟩
def StepsPost (zs : List Int) (w : World) (e : Ending) (w' : World) : Prop := ∃ v, e = .returned v ∧ OwnInts w' w.heap.size v zs ∧ Below w.heap.size w w'
theorem specSteps1 (w : World) : Calls Try.prog 33 #[.int .i64 1] w (StepsPost [0, 2, 4, 5, 7, 9, 11, 12] w) := by
  go_enter Try.func33, Try.ntmps33
  go_wp2
  go_ret
  exact ⟨_, rfl, own_lit w [0, 2, 4, 5, 7, 9, 11, 12] _ _ _ rfl rfl rfl (by decide), (Below.refl _ _).alloc (Nat.le_refl _) _⟩
theorem specSteps2 (w : World) : Calls Try.prog 33 #[.int .i64 2] w (StepsPost [0, 2, 3, 5, 7, 8, 10, 12] w) := by
  go_enter Try.func33, Try.ntmps33
  go_wp2
  go_ret
  exact ⟨_, rfl, own_lit w [0, 2, 3, 5, 7, 8, 10, 12] _ _ _ rfl rfl rfl (by decide), (Below.refl _ _).alloc (Nat.le_refl _) _⟩
theorem specSteps3 (w : World) : Calls Try.prog 33 #[.int .i64 3] w (StepsPost [0, 1, 2, 3, 4, 5, 6, 7, 8, 9, 10, 11, 12] w) := by
  go_enter Try.func33, Try.ntmps33
  go_wp2
  go_ret
  exact ⟨_, rfl, own_lit w [0, 1, 2, 3, 4, 5, 6, 7, 8, 9, 10, 11, 12] _ _ _ rfl rfl rfl (by decide), (Below.refl _ _).alloc (Nat.le_refl _) _⟩
theorem specSteps4 (w : World) : Calls Try.prog 33 #[.int .i64 4] w (StepsPost [0, 2, 4, 7, 9, 12] w) := by
  go_enter Try.func33, Try.ntmps33
  go_wp2
  go_ret
  exact ⟨_, rfl, own_lit w [0, 2, 4, 7, 9, 12] _ _ _ rfl rfl rfl (by decide), (Below.refl _ _).alloc (Nat.le_refl _) _⟩
theorem implSteps1 (w : World) : Calls Try.prog 34 #[.int .i64 1] w (StepsPost [0, 2, 4, 5, 7, 9, 11, 12] w) := by
  go_enter Try.func34, Try.ntmps34
  go_wp2
  go_ret
  exact ⟨_, rfl, own_lit w [0, 2, 4, 5, 7, 9, 11, 12] _ _ _ rfl rfl rfl (by decide), (Below.refl _ _).alloc (Nat.le_refl _) _⟩
theorem implSteps2 (w : World) : Calls Try.prog 34 #[.int .i64 2] w (StepsPost [0, 2, 3, 5, 7, 8, 10, 12] w) := by
  go_enter Try.func34, Try.ntmps34
  go_wp2
  go_ret
  exact ⟨_, rfl, own_lit w [0, 2, 3, 5, 7, 8, 10, 12] _ _ _ rfl rfl rfl (by decide), (Below.refl _ _).alloc (Nat.le_refl _) _⟩
theorem implSteps3 (w : World) : Calls Try.prog 34 #[.int .i64 3] w (StepsPost [0, 1, 2, 3, 4, 5, 6, 7, 8, 9, 10, 11, 12] w) := by
  go_enter Try.func34, Try.ntmps34
  go_wp2
  go_ret
  exact ⟨_, rfl, own_lit w [0, 1, 2, 3, 4, 5, 6, 7, 8, 9, 10, 11, 12] _ _ _ rfl rfl rfl (by decide), (Below.refl _ _).alloc (Nat.le_refl _) _⟩
theorem implSteps4 (w : World) : Calls Try.prog 34 #[.int .i64 4] w (StepsPost [0, 2, 4, 7, 9, 12] w) := by
  go_enter Try.func34, Try.ntmps34
  go_wp2
  go_ret
  exact ⟨_, rfl, own_lit w [0, 2, 4, 7, 9, 12] _ _ _ rfl rfl rfl (by decide), (Below.refl _ _).alloc (Nat.le_refl _) _⟩
theorem implSteps0 (kind : Int) (w : World) (h : kindB kind = false) : Calls Try.prog 34 #[.int .i64 kind] w fun e w' => e = .returned (.slice none 0 0) ∧ w = w' := by
  have hk : ¬ (1 ≤ kind ∧ kind ≤ 4) := fun g => by rw [show kindB kind = inB kind 1 4 from rfl, inB_true g] at h; cases h
  have h1 : (kind == 1) = false := beq_eq_false_iff_ne.2 (by omega)
  have h2 : (kind == 2) = false := beq_eq_false_iff_ne.2 (by omega)
  have h3 : (kind == 3) = false := beq_eq_false_iff_ne.2 (by omega)
  have h4 : (kind == 4) = false := beq_eq_false_iff_ne.2 (by omega)
  clear h hk
  go_enter Try.func34, Try.ntmps34
  go_wp2
  go_ret
  exact ⟨rfl, rfl⟩
theorem specSteps_any (kind : Int) (w : World) (h : kindB kind = true) : Calls Try.prog 33 #[.int .i64 kind] w (StepsPost (stepsL kind) w) := by
  rcases kind_cases h with rfl | rfl | rfl | rfl
  · exact specSteps1 w
  · exact specSteps2 w
  · exact specSteps3 w
  · exact specSteps4 w
theorem implSteps_any (kind : Int) (w : World) (h : kindB kind = true) : Calls Try.prog 34 #[.int .i64 kind] w (StepsPost (stepsL kind) w) := by
  rcases kind_cases h with rfl | rfl | rfl | rfl
  · exact implSteps1 w
  · exact implSteps2 w
  · exact implSteps3 w
  · exact implSteps4 w

/-- The code of a scale. -/
def snC (root kind : Int) : Int := if noteB root = true ∧ kindB kind = true then (if noteB (root + 12) = true then 0 else 6) else 2
def ScalePost (root kind : Int) (w : World) (e : Ending) (w' : World) : Prop := Below w.heap.size w w' ∧
  ((snC root kind ≠ 0 ∧ e = .returned (.tuple #[.slice none 0 0, .int .i64 (snC root kind)])) ∨ ∃ v, snC root kind = 0 ∧ e = .returned (.tuple #[v, .int .i64 0]) ∧ OwnInts w' w.heap.size v (scaleL root kind))
theorem sn_2a {root kind : Int} (h : noteB root = false) : snC root kind = 2 := by unfold snC; rw [h]; exact if_neg (fun h => by cases h.1)
theorem sn_2b {root kind : Int} (h : kindB kind = false) : snC root kind = 2 := by unfold snC; rw [h]; exact if_neg (fun h => by cases h.2)
theorem sn_6 {root kind : Int} (h : noteB root = true) (h1 : kindB kind = true) (h2 : noteB (root + 12) = false) : snC root kind = 6 := by unfold snC; rw [if_pos ⟨h, h1⟩, h2]; rfl
theorem sn_0 {root kind : Int} (h : noteB root = true) (h1 : kindB kind = true) (h2 : noteB (root + 12) = true) : snC root kind = 0 := by unfold snC; rw [if_pos ⟨h, h1⟩, if_pos h2]
theorem ret_err {a b : Int} (h : a = b) : Ending.returned (.tuple #[.slice none 0 0, .int .i64 a]) = .returned (.tuple #[.slice none 0 0, .int .i64 b]) := by rw [h]
theorem cell_1v (w : World) (x : Value) (T : TypeId) : ∀ (j : Nat) (u : Value), ([x] : List Value)[j]? = some u → (w.alloc (.cells #[x] T)).cell? ((⟨w.heap.size, 0, none⟩ : Addr).add j) = some u := by
  intro j u hj
  match j, hj with
  | 0, hj => simp at hj; subst hj; simp [Addr.add]
  | j + 1, hj => simp at hj
theorem ints_snoc' (zs : List Int) (z : Int) : i64s (zs ++ [z]) = i64s zs ++ [.int .i64 z] := by simp [i64s]
theorem take_snoc' (zs : List Int) (root : Int) (k : Nat) (h : k < zs.length) : (zs.take (k + 1)).map (root + ·) = (zs.take k).map (root + ·) ++ [root + zs.getD k 0] := by
  rw [List.take_succ_eq_append_getElem h, List.map_append, List.getD_eq_getElem?_getD, List.getElem?_eq_getElem h]; rfl
theorem row_own {w : World} {B g cap n : Nat} {zs : List Int} (hn : zs.length = n) (h : w.ownsRow B 2 1 (.slice (some ⟨g, 0, none⟩) n cap) n (i64s zs)) : OwnInts w B (.slice (some ⟨g, 0, none⟩) n cap) zs := by
  subst hn
  have hlt := h.lt g rfl
  exact ⟨g, cap, rfl, hlt.1, hlt.2, h⟩
theorem row_low {w : World} {B B' : Nat} {e : TypeId} {v : Value} {n : Nat} {xs : List Value} (h : w.ownsRow B e 1 v n xs) (hB : B' ≤ B) : w.ownsRow B' e 1 v n xs := by
  obtain ⟨h1, h2 | ⟨g, cap, cur, h3, h4, h5⟩⟩ := h
  · exact ⟨h1, .inl h2⟩
  · exact ⟨h1, .inr ⟨g, cap, cur, h3, Nat.le_trans hB h4, h5⟩⟩
theorem row_form {w : World} {B : Nat} {v : Value} {n : Nat} {zs : List Int} (hz : 0 < n) (hn : zs.length = n) (h : w.ownsRow B 2 1 v n (i64s zs)) : OwnInts w B v zs := by
  obtain ⟨h1, h2 | ⟨g, cap, cur, rfl, h4, h5⟩⟩ := h
  · obtain ⟨-, h3⟩ := h2
    rw [h3] at h1
    simp at h1
    omega
  · exact row_own hn ⟨h1, .inr ⟨g, cap, cur, rfl, h4, h5⟩⟩

set_option maxRecDepth 100000 in
set_option maxHeartbeats 2000000 in
theorem specScale_any (root kind : Int) (w : World) (hr0 : -9223372036854775808 ≤ root) (hr1 : root ≤ 9223372036854775807) :
    Calls Try.prog 13 #[.int .i64 root, .int .i64 kind] w (ScalePost root kind w) := by
  obtain ⟨i0, hi, hz0, hz1, hz2⟩ := info_parts infoI64
  rcases t_cases (noteB root) with h1 | h1
  · obtain ⟨r0, r1⟩ := inB_iff.1 h1
    rcases t_cases (kindB kind) with h2 | h2
    · rcases t_cases (noteB (root + 12)) with h3 | h3
      · have HC := Lib.hid (sn_0 h1 h2 h3)
        have HIN := Lib.hid (steps_in h2)
        have HLEN := Lib.hid (steps_len h2)
        have HK := Lib.hid h2
        go_enter Try.func13, Try.ntmps13
        go_wp2_with fail
        refine (l03Note_any _ _).mono ?_
        rintro e w1 ⟨rfl, rfl⟩
        rw [h1]
        go_wp2_with fail
        refine (l00In_any _ _ _ _).mono ?_
        rintro e w1 ⟨rfl, rfl⟩
        rw [show inB kind 1 4 = true from HK.out]
        go_wp2_with fail
        refine (l03Note_any _ _).mono ?_
        rintro e w1 ⟨rfl, rfl⟩
        rw [h3]
        go_wp2_with fail
        refine (specSteps_any kind _ HK.out).mono ?_
        rintro e w1 ⟨v1, rfl, ⟨g1, c1, rfl, hB1, hlt1, hown1⟩, hb1⟩
        have HL := Lib.hid (show scaleL root kind = (stepsL kind).map (root + ·) from rfl)
        generalize stepsL kind = st at *
        obtain ⟨n, hn⟩ : ∃ n, st.length = n := ⟨_, rfl⟩
        rw [hn] at hown1 ⊢
        have HN := Lib.hid hn
        have HO1 := Lib.hid hown1
        have HB1 := Lib.hid hb1
        have hn13 : 0 < n ∧ n ≤ 13 := by have := HLEN.out; omega
        clear hown1 hb1 hn h1 h2 h3
        go_wp2
        go_loopw [7, 8] (fun v i wr => ∃ (k : Nat), k ≤ n ∧ i = .int .i64 k ∧ wr.ownsRow w1.heap.size 2 1 v k (i64s ((st.take k).map (root + ·))) ∧ Below w1.heap.size w1 wr) (fun _ i _ => n - (intOf i).toNat)
        case atStart => exact ⟨0, by omega, rfl, by simpa [i64s] using World.ownsRow_made w1 #[] 0 (Nat.le_refl _) (by simp) (by simp), (Below.refl _ _).alloc (Nat.le_refl _) _⟩
        case round =>
          obtain ⟨k, hk, rfl, hown, hbw⟩ := hrel
          have HO := Lib.hid hown
          have HB := Lib.hid hbw
          have hsz := hbw.size
          by_cases hlt : k < n
          · have hcell : wr.cell? ⟨g1, k, none⟩ = some (.int .i64 (st.getD k 0)) := by
              rw [hbw.cell (p := ⟨g1, k, none⟩) hlt1, HO1.out.cellAt k (by omega)]
              exact i64s_get _ k (by rw [HN.out]; exact hlt)
            obtain ⟨z0, z1⟩ := HIN.out k (by rw [HN.out]; exact hlt)
            have HT := Lib.hid (take_snoc' st root k (by rw [HN.out]; exact hlt))
            clear hown hbw
            generalize st.getD k 0 = z at *
            go_wp2_with (at_builtin; refine wpList_append_own _ rfl _ _ 22 rfl w1.heap.size 2 i0 (.int .i64 0) 1 8 Try.underlying22 hi hz0 hz1 hz2 rfl (by decide) _ _ _ rfl (HO.out.alloc _) ⟨_, 0, none⟩ 1 1 [.int .i64 (root + z)] rfl rfl (cell_1v _ _ _) ?c2 ?c3 ?c4 ?c5 ?_)
            case c2 => first | rfl | (intro u hu; simp at hu; subst hu; rfl)
            case c3 => unfold maxLen; omega
            case c4 => omega
            case c5 => first | omega | (simp; omega)
            intro v4 w4 hown4 hgrow4 _
            have HO4 := Lib.hid (show w4.ownsRow w1.heap.size 2 1 v4 (k + 1) (i64s ((st.take (k + 1)).map (root + ·))) by rw [HT.out, ints_snoc', List.map_take]; exact hown4)
            have HB4 := Lib.hid ((HB.out.alloc (by omega) _).grown hgrow4 (by simp; omega) (fun k hk => (HO.out.lt k hk).1))
            clear hown4 hgrow4
            go_wp2
            go_roundw
            case rel => exact ⟨k + 1, by omega, by go_num, HO4.out, HB4.out⟩
            case measure => simp [intOf]; omega
          · obtain rfl : k = n := by omega
            clear hown hbw
            have HOW := Lib.hid (show OwnInts wr w1.heap.size _ (scaleL root kind) from row_form hn13.1 (by rw [HL.out, List.length_map, HN.out]) (by
              have := HO.out
              rw [List.take_of_length_le (by rw [HN.out]; exact Nat.le_refl _), ← HL.out] at this
              exact this))
            have HF := Lib.hid (below_of HB1.out HB.out HB1.out.size)
            have hw1 := HB1.out.size
            obtain ⟨g, cap, rfl, q1, q2, q3⟩ := HOW.out
            have HQ := Lib.hid (row_low q3 hw1)
            clear q3
            go_wp2
            go_ret2
            exact ⟨HF.out, .inr ⟨_, HC.out, rfl, ⟨g, cap, rfl, by omega, q2, HQ.out⟩⟩⟩
      · have HC := Lib.hid (sn_6 h1 h2 h3)
        have HK := Lib.hid h2
        go_enter Try.func13, Try.ntmps13
        go_wp2_with fail
        refine (l03Note_any _ _).mono ?_
        rintro e w1 ⟨rfl, rfl⟩
        rw [h1]
        go_wp2_with fail
        refine (l00In_any _ _ _ _).mono ?_
        rintro e w1 ⟨rfl, rfl⟩
        rw [show inB kind 1 4 = true from HK.out]
        go_wp2_with fail
        refine (l03Note_any _ _).mono ?_
        rintro e w1 ⟨rfl, rfl⟩
        rw [h3]
        go_wp2
        go_ret2
        exact ⟨Below.refl _ _, .inl ⟨by rw [HC.out]; decide, ret_err HC.out.symm⟩⟩
    · have HC := Lib.hid (sn_2b (root := root) h2)
      have HK := Lib.hid h2
      go_enter Try.func13, Try.ntmps13
      go_wp2_with fail
      refine (l03Note_any _ _).mono ?_
      rintro e w1 ⟨rfl, rfl⟩
      rw [h1]
      go_wp2_with fail
      refine (l00In_any _ _ _ _).mono ?_
      rintro e w1 ⟨rfl, rfl⟩
      rw [show inB kind 1 4 = false from HK.out]
      go_wp2
      go_ret2
      exact ⟨Below.refl _ _, .inl ⟨by rw [HC.out]; decide, ret_err HC.out.symm⟩⟩
  · have HC := Lib.hid (sn_2a (kind := kind) h1)
    go_enter Try.func13, Try.ntmps13
    go_wp2_with fail
    refine (l03Note_any _ _).mono ?_
    rintro e w1 ⟨rfl, rfl⟩
    rw [h1]
    go_wp2
    go_ret2
    exact ⟨Below.refl _ _, .inl ⟨by rw [HC.out]; decide, ret_err HC.out.symm⟩⟩
end Go.Proofs.Ytpfpdhgdeaoemac
