/- The notes of a scale: the program's answer. -/
import Derived.Test.YtmkopmdeelfmgabDoorScaleSpec
namespace Go.Proofs.YtmkopmdeelfmgabDoor
open Go.ChangeShapes Go.WideShapes Go.ChangeAt Go.RowKit

/-- After k rounds. -/
def partL (st : List Int) (root : Int) (k : Nat) : List Int := (st.take k).map (root + ·) ++ st.drop k
theorem part_len (st : List Int) (root : Int) (k : Nat) : (partL st root k).length = st.length := by simp [partL]; omega
theorem part_get (st : List Int) (root : Int) (k : Nat) (h : k < st.length) : (partL st root k).getD k 0 = st.getD k 0 := by
  unfold partL
  have hl : ((st.take k).map (root + ·)).length = k := by simp; omega
  rw [List.getD_eq_getElem?_getD, List.getElem?_append_right (by omega), hl, Nat.sub_self, List.getElem?_drop, Nat.add_zero, List.getD_eq_getElem?_getD]
theorem part_next (st : List Int) (root : Int) (k : Nat) (h : k < st.length) : (i64s (partL st root k)).set k (.int .i64 (st.getD k 0 + root)) = i64s (partL st root (k + 1)) := by
  unfold partL i64s
  have hl : ((st.take k).map (root + ·)).length = k := by simp; omega
  rw [take_snoc' st root k h, List.drop_eq_getElem_cons h, List.map_append, List.map_cons, List.set_append_right _ _ (by rw [List.length_map]; omega), List.length_map, hl, Nat.sub_self, List.set_cons_zero,
    List.map_append, List.map_append, List.append_assoc, Int.add_comm]
  rfl
theorem part_all (st : List Int) (root : Int) (k : Nat) (h : st.length = k) : partL st root k = st.map (root + ·) := by
  unfold partL
  rw [List.take_of_length_le (by omega), List.drop_of_length_le (by omega), List.append_nil]
theorem part_0 (st : List Int) (root : Int) : partL st root 0 = st := by simp [partL]

theorem areNotes1_any (a : Int) (g : Nat) (w : World) (hc : ∀ j, j < 1 → w.cell? ⟨g, 0 + j, none⟩ = some (.int .i64 ([a].getD j 0))) :
    Calls Tryd.prog 43 #[.slice (some ⟨g, 0, none⟩) 1 1] w fun e w' => e = .returned (.bool (noteB a)) ∧ w = w' := by
  have HC := Lib.hid hc
  clear hc
  go_enter Tryd.func43, Tryd.ntmps43
  go_wp2_with fail
  refine (within_i64 _ _ [a] _ 0 1 1 _ rfl (by omega) HC.out).mono ?_
  rintro e w' ⟨rfl, rfl⟩
  go_wp2
  go_ret
  exact ⟨ret_bool (show allIn 0 127 [a] = inB a 0 127 by simp [allIn]), rfl⟩
theorem cellA1 (w : World) (x : Int) (T : TypeId) (n : Nat) (hn : n = w.heap.size) : ∀ j, j < 1 → (w.alloc (.cells #[.int .i64 x] T)).cell? ⟨n, 0 + j, none⟩ = some (.int .i64 ([x].getD j 0)) := by
  subst hn
  intro j hj
  match j, hj with
  | 0, _ => go_simp

set_option maxRecDepth 100000 in
set_option maxHeartbeats 2000000 in
theorem implScale_any (root kind : Int) (w : World) (hr0 : -9223372036854775808 ≤ root) (hr1 : root ≤ 9223372036854775807) :
    Calls Tryd.prog 21 #[.int .i64 root, .int .i64 kind] w (ScalePost root kind w) := by
  rcases t_cases (kindB kind) with h2 | h2
  · have HIN := Lib.hid (steps_in h2)
    have HLEN := Lib.hid (steps_len h2)
    rcases t_cases (noteB root) with h1 | h1
    · obtain ⟨r0, r1⟩ := inB_iff.1 h1
      rcases t_cases (noteB (root + 12)) with h3 | h3
      · have HC := Lib.hid (sn_0 h1 h2 h3)
        have HK := Lib.hid h2
        have HL := Lib.hid (show scaleL root kind = (stepsL kind).map (root + ·) from rfl)
        go_enter Tryd.func21, Tryd.ntmps21
        go_wp2_with fail
        refine (implSteps_any kind _ HK.out).mono ?_
        rintro e w1 ⟨v1, rfl, ⟨g1, c1, rfl, hB1, hlt1, hown1⟩, hb1⟩
        generalize stepsL kind = st at *
        obtain ⟨n, hn⟩ : ∃ n, st.length = n := ⟨_, rfl⟩
        rw [hn] at hown1 ⊢
        have HN := Lib.hid hn
        have HO1 := Lib.hid hown1
        have HB1 := Lib.hid hb1
        have hn13 : 0 < n ∧ n ≤ 13 := by have := HLEN.out; omega
        have hnz : ((n : Int) == 0) = false := beq_eq_false_iff_ne.2 (by omega)
        clear hown1 hb1 hn h2
        go_wp2_with fail
        refine (areNotes1_any _ _ _ (cellA1 _ _ _ _ (by simp))).mono ?_
        rintro e w2 ⟨rfl, rfl⟩
        rw [h1]
        go_wp2_with fail
        refine (areNotes1_any _ _ _ (cellA1 _ _ _ _ (by simp))).mono ?_
        rintro e w2 ⟨rfl, rfl⟩
        rw [h3]
        clear h1 h3
        have HB2 := Lib.hid (show Below w1.heap.size w1 ((w1.alloc (.cells #[.int .i64 root] 2)).alloc (.cells #[.int .i64 (root + 12)] 2)) from ((Below.refl _ _).alloc (Nat.le_refl _) _).alloc (by simp) _)
        go_wp2
        have HO2 := Lib.hid ((HO1.out.alloc (.cells #[.int .i64 root] 2)).alloc (.cells #[.int .i64 (root + 12)] 2))
        generalize (w1.alloc (.cells #[.int .i64 root] 2)).alloc (.cells #[.int .i64 (root + 12)] 2) = W0 at *
        go_loopw [26] (fun i wr => ∃ (k : Nat), k ≤ n ∧ i = .int .i64 k ∧ wr.ownsRow w.heap.size 2 1 (.slice (some ⟨g1, 0, none⟩) n c1) n (i64s (partL st root k)) ∧ Below w.heap.size w wr) (fun i _ => n - (intOf i).toNat)
        case atStart => exact ⟨0, by omega, rfl, by rw [part_0]; exact HO2.out, below_of HB1.out HB2.out HB1.out.size⟩
        case round =>
          obtain ⟨k, hk, rfl, hown, hbw⟩ := hrel
          have HO := Lib.hid hown
          have HB := Lib.hid hbw
          by_cases hlt : k < n
          · have hf := hown.frozenAt k
            have hat : wr.cell? ⟨g1, k, none⟩ = (i64s (partL st root k))[k]? := hown.cellAt k (by omega)
            rw [i64s_get _ k (by rw [part_len, HN.out]; exact hlt), part_get st root k (by rw [HN.out]; exact hlt)] at hat
            obtain ⟨z0, z1⟩ := HIN.out k (by rw [HN.out]; exact hlt)
            have HS := Lib.hid (HO.out.stored k (.int .i64 (st.getD k 0 + root)))
            have HN2 := Lib.hid (part_next st root k (by rw [HN.out]; exact hlt))
            clear hown hbw
            generalize st.getD k 0 = z at *
            go_wp2
            go_roundw
            case rel => exact ⟨k + 1, by omega, by go_num, by rw [← HN2.out]; exact HS.out.1, HB.out.setCell (by exact hB1) _⟩
            case measure => simp [intOf]; omega
          · obtain rfl : k = n := by omega
            clear hown hbw
            have HP := Lib.hid (show i64s (partL st root k) = i64s (scaleL root kind) by rw [part_all st root k HN.out, HL.out])
            rw [HP.out] at HO
            go_wp2
            go_ret2
            exact ⟨HB.out, .inr ⟨_, HC.out, rfl, row_own (by rw [HL.out, List.length_map, HN.out]) HO.out⟩⟩
      · have HC := Lib.hid (sn_6 h1 h2 h3)
        have HK := Lib.hid h2
        go_enter Tryd.func21, Tryd.ntmps21
        go_wp2_with fail
        refine (implSteps_any kind _ HK.out).mono ?_
        rintro e w1 ⟨v1, rfl, ⟨g1, c1, rfl, hB1, hlt1, -⟩, hb1⟩
        have hnz : (((stepsL kind).length : Int) == 0) = false := beq_eq_false_iff_ne.2 (by have := HLEN.out; omega)
        generalize stepsL kind = st at *
        have HB1 := Lib.hid hb1
        clear hb1 h2
        go_wp2_with fail
        refine (areNotes1_any _ _ _ (cellA1 _ _ _ _ (by simp))).mono ?_
        rintro e w2 ⟨rfl, rfl⟩
        rw [h1]
        go_wp2_with fail
        refine (areNotes1_any _ _ _ (cellA1 _ _ _ _ (by simp))).mono ?_
        rintro e w2 ⟨rfl, rfl⟩
        rw [h3]
        clear h1 h3
        go_wp2
        go_ret2
        exact ⟨below_of HB1.out (((Below.refl _ _).alloc (Nat.le_refl _) _).alloc (by simp) _) HB1.out.size, .inl ⟨by rw [HC.out]; decide, ret_err HC.out.symm⟩⟩
    · have HC := Lib.hid (sn_2a (kind := kind) h1)
      have HK := Lib.hid h2
      go_enter Tryd.func21, Tryd.ntmps21
      go_wp2_with fail
      refine (implSteps_any kind _ HK.out).mono ?_
      rintro e w1 ⟨v1, rfl, ⟨g1, c1, rfl, hB1, hlt1, -⟩, hb1⟩
      generalize stepsL kind = st at *
      have HB1 := Lib.hid hb1
      clear hb1 h2
      go_wp2_with fail
      refine (areNotes1_any _ _ _ (cellA1 _ _ _ _ (by simp))).mono ?_
      rintro e w2 ⟨rfl, rfl⟩
      rw [h1]
      go_wp2
      go_ret2
      exact ⟨below_of HB1.out ((Below.refl _ _).alloc (Nat.le_refl _) _) HB1.out.size, .inl ⟨by rw [HC.out]; decide, ret_err HC.out.symm⟩⟩
  · have HC := Lib.hid (sn_2b (root := root) h2)
    have HK := Lib.hid h2
    clear h2
    go_enter Tryd.func21, Tryd.ntmps21
    go_wp2_with fail
    refine (implSteps0 kind _ HK.out).mono ?_
    rintro e w1 ⟨rfl, rfl⟩
    go_wp2_with fail
    refine (areNotes1_any _ _ _ (cellA1 _ _ _ _ (by simp))).mono ?_
    rintro e w2 ⟨rfl, rfl⟩
    rcases t_cases (noteB root) with h1 | h1
    · rw [h1]
      go_wp2
      go_ret2
      exact ⟨(Below.refl _ _).alloc (Nat.le_refl _) _, .inl ⟨by rw [HC.out]; decide, ret_err HC.out.symm⟩⟩
    · rw [h1]
      go_wp2
      go_ret2
      exact ⟨(Below.refl _ _).alloc (Nat.le_refl _) _, .inl ⟨by rw [HC.out]; decide, ret_err HC.out.symm⟩⟩
theorem row_keep {w w' : World} {B : Nat} {e : TypeId} {v : Value} {n : Nat} {xs : List Value} (hb : Below w.heap.size w w') (h : w.ownsRow B e 1 v n xs) : w'.ownsRow B e 1 v n xs :=
  h.kept (row := none) ⟨hb.os, hb.tape, hb.output, hb.size, fun k hk _ => hb.block k hk⟩ (by cases hv : v.ownBlock <;> simp)
end Go.Proofs.YtmkopmdeelfmgabDoor
