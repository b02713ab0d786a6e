/- The law on notes, walked: at every pair of inputs it answers true. -/
import Derived.Test.YtmkopmdeelfmgabDoorDrawTem
import Derived.Test.YtmkopmdeelfmgabDoorHelp8
import Derived.Test.YtmkopmdeelfmgabDoorNoteFind
import Derived.Test.YtmkopmdeelfmgabDoorNoteIv
import Derived.Test.YtmkopmdeelfmgabDoorScaleImpl
namespace Go.Proofs.YtmkopmdeelfmgabDoor
open Go.ChangeShapes Go.WideShapes Go.ChangeAt Go.RowKit

theorem nt_all : ((List.range 128).all fun k => decide (ntFind (ntT k) = some k)) = true := by decide +kernel
theorem nt_back {n : Int} (h0 : 0 ≤ n) (h1 : n ≤ 127) : ntVal (ntT n.toNat) = n ∧ ntHas (ntT n.toNat) = true := by
  have h := List.all_eq_true.1 nt_all n.toNat (by simp; omega)
  have h := of_decide_eq_true h
  unfold ntVal ntHas
  rw [h]
  exact ⟨by show ((n.toNat : Nat) : Int) = n; omega, rfl⟩
theorem scale_get (n k : Int) (j : Nat) (h : j < (stepsL k).length) : (scaleL n k).getD j 0 = n + (stepsL k).getD j 0 := by
  simp [scaleL, List.getD, h]
theorem scale_ok (n : Int) {k : Int} (hk : kindB k = true) : ∃ q : Nat, (scaleL n k).length = q + 1 ∧ 1 ≤ q ∧ q ≤ 12 ∧ (scaleL n k).getD 0 0 = n ∧ (scaleL n k).getD q 0 = n + 12 ∧ ∀ j, j < q → (scaleL n k).getD j 0 < (scaleL n k).getD (j + 1) 0 := by
  have key : ∃ q : Nat, (stepsL k).length = q + 1 ∧ 1 ≤ q ∧ q ≤ 12 ∧ (stepsL k).getD 0 0 = 0 ∧ (stepsL k).getD q 0 = 12 ∧ ∀ j, j < q → (stepsL k).getD j 0 < (stepsL k).getD (j + 1) 0 := by
    rcases kind_cases hk with rfl | rfl | rfl | rfl
    · exact ⟨7, rfl, by omega, by omega, rfl, rfl, by decide⟩
    · exact ⟨7, rfl, by omega, by omega, rfl, rfl, by decide⟩
    · exact ⟨12, rfl, by omega, by omega, rfl, rfl, by decide⟩
    · exact ⟨5, rfl, by omega, by omega, rfl, rfl, by decide⟩
  obtain ⟨q, h1, h2, h3, h4, h5, h6⟩ := key
  have hl : (scaleL n k).length = q + 1 := by unfold scaleL; rw [List.length_map, h1]
  refine ⟨q, hl, h2, h3, ?_, ?_, fun j hj => ?_⟩
  · rw [scale_get n k 0 (by omega), h4]; omega
  · rw [scale_get n k q (by omega), h5]
  · rw [scale_get n k j (by omega), scale_get n k (j + 1) (by omega)]
    have := h6 j hj
    omega
theorem row_cellsN {E : TypeId} {w : World} {B g cap n m : Nat} {zs : List Int} (hn : zs.length = n) (hown : w.ownsRow B E 1 (.slice (some ⟨g, 0, none⟩) m cap) zs.length (i64s zs)) : ∀ j, j < n → w.cell? ⟨g, j, none⟩ = some (.int .i64 (zs.getD j 0)) := by
  intro j hj
  obtain ⟨c, cur, e, h1, h2, h3, h4, h5, h6⟩ : ∃ c cur, (Value.slice (some ⟨g, 0, none⟩) m cap) = .slice (some ⟨g, 0, none⟩) zs.length c ∧ B ≤ g ∧ w.heap[g]? = some (.cells cur E (0, 0)) ∧ zs.length ≤ c ∧ c ≤ maxLen ∧ cur.size = c * 1 ∧ cur.toList.take (zs.length * 1) = i64s zs := by
    rcases hown.2 with ⟨h, -⟩ | ⟨g', c, cur, h, hr⟩
    · cases h
    · simp only [Value.slice.injEq, Option.some.injEq, Addr.mk.injEq, and_true] at h
      obtain ⟨rfl, rfl, rfl⟩ := h
      exact ⟨_, cur, rfl, hr⟩
  simp only [Value.slice.injEq, true_and] at e
  obtain ⟨rfl, rfl⟩ := e
  rw [hown.cellAt j (by omega)]
  exact i64s_get zs j (by omega)
theorem octave {s : ByteArray} {zs : List Int} {n : Int} (h : tempB s zs = true) (h0 : 0 ≤ n) (h1 : n ≤ 115) : niR s zs n (n + 12) = 12000 ∧ niC s zs n (n + 12) = 0 := by
  have a : noteB n = true := inB_iff.2 (by omega)
  have b : noteB (n + 12) = true := inB_iff.2 (by omega)
  unfold niR niC
  rw [if_pos ⟨h, a, b⟩, if_pos h, if_pos ⟨a, b⟩]
  refine ⟨?_, rfl⟩
  unfold ivI ivN
  have e : (n + 12).toNat = n.toNat + 12 := by omega
  rw [e, Nat.add_mod_right]
  omega

theorem temp_len {s : ByteArray} {zs : List Int} (h : tempB s zs = true) : zs.length = 12 := by
  unfold tempB at h
  rw [Bool.and_eq_true, Bool.and_eq_true, decide_eq_true_eq] at h
  exact h.2.1
theorem temp_size {s : ByteArray} {zs : List Int} (h : tempB s zs = true) : s.size ≤ 9223372036854775807 := by
  unfold tempB at h
  rw [Bool.and_eq_true] at h
  have := (of_decide_eq_true h.1 : NameP s).2.1
  omega

set_option maxRecDepth 100000 in
set_option maxHeartbeats 4000000 in
theorem notes_walk (a0 a1 : Option Addr) (n0 c0 n1 c1 : Nat) (w : World) (hI0 : n0 ≤ 1048576 → BytesAt w w.heap.size (.slice a0 n0 c0)) (hI1 : n1 ≤ 1048576 → BytesAt w w.heap.size (.slice a1 n1 c1)) (hF : Hid (PowOk w ∧ NoteOk w)) :
    Calls Tryd.prog 6 #[.slice a0 n0 c0, .slice a1 n1 c1] w fun e w' => e = .returned (.bool true) ∧ Below w.heap.size w w' := by
  rcases t_cases (tooLong n0 n1) with hT | hT
  · have hh : n0 ≤ 1048576 ∧ n1 ≤ 1048576 → False := fun h => by
      have := of_decide_eq_true hT
      omega
    have HT := Lib.hid hT
    clear hI0 hI1 hT hh
    go_enter Tryd.func6, Tryd.ntmps6
    go_wp2_with fail
    refine (r8Long_any a0 a1 n0 n1 c0 c1 _).mono ?_
    rintro e w1 ⟨rfl, rfl⟩
    rw [HT.out]
    go_wp2
    go_ret
    exact ⟨rfl, Below.refl _ _⟩
  · have hh := of_decide_eq_false hT
    have HB0 := Lib.hid (hI0 (by omega))
    have HB1 := Lib.hid (hI1 (by omega))
    have HT := Lib.hid hT
    clear hI0 hI1 hT hh
    go_enter Tryd.func6, Tryd.ntmps6
    go_wp2_with fail
    refine (r8Long_any a0 a1 n0 n1 c0 c1 _).mono ?_
    rintro e w1 ⟨rfl, rfl⟩
    rw [HT.out]
    go_wp2_with fail
    refine (r8Tem_any _ _ HB0.out).mono ?_
    rintro e w1 ⟨nm, u, zs, rfl, ht, ⟨b, cap, rfl, ho1, ho2, ho3⟩, hb⟩
    have HTB := Lib.hid ht
    have HI := Lib.hid (own_ints (by rw [temp_len ht]; omega) (⟨b, cap, rfl, ho1, ho2, ho3⟩ : OwnInts w1 w.heap.size (.slice (some ⟨b, 0, none⟩) zs.length cap) zs))
    have HBw := Lib.hid hb
    have hnms := temp_size ht
    clear ht hb ho1 ho2 ho3
    obtain ⟨m12, hm12⟩ : ∃ m, zs.length = m := ⟨_, rfl⟩
    rw [hm12] at HI
    rw [hm12]
    clear hm12
    go_wp2_with fail
    have hbA : Below w1.heap.size w1 (w1.alloc (.cells #[.string nm, .slice (some ⟨b, 0, none⟩) m12 cap] 38)) := (Below.refl _ _).alloc (Nat.le_refl _) _
    have ca0 : (w1.alloc (.cells #[.string nm, .slice (some ⟨b, 0, none⟩) m12 cap] 38)).cell? ⟨w1.heap.size, 0, none⟩ = some (.string nm) := by go_simp
    have ca1 : (w1.alloc (.cells #[.string nm, .slice (some ⟨b, 0, none⟩) m12 cap] 38)).cell? ⟨w1.heap.size, 1, none⟩ = some (.slice (some ⟨b, 0, none⟩) m12 cap) := by go_simp
    have hlA := alloc_lt w1 (.cells #[.string nm, .slice (some ⟨b, 0, none⟩) m12 cap] 38)
    generalize w1.alloc (.cells #[.string nm, .slice (some ⟨b, 0, none⟩) m12 cap] 38) = wA at *
    have HIA := Lib.hid (ints_kept hbA HI.out)
    have HBA := Lib.hid (below_of HBw.out hbA HBw.out.size)
    have hw1 : w.heap.size ≤ w1.heap.size := HBw.out.size
    clear hbA HI HBw
    refine (r8At_any (.slice a1 n1 c1) 0 128 _ (bytes_kept HBA.out HB1.out) (by omega) (by omega) (by omega) (by omega)).mono ?_
    rintro e w2 ⟨n, n_0, n_1, rfl, rfl⟩
    have n_2 : n ≤ 127 := by omega
    clear n_1
    go_wp2_with fail
    refine (implNoteName_any n _ (Lib.hid (pow_kept HBA.out hF.out.1)) (Lib.hid (note_kept HBA.out hF.out.2))).mono ?_
    rw [if_pos (inB_iff.2 ⟨n_0, n_2⟩)]
    rintro e w2 ⟨rfl, hb2⟩
    have HN := Lib.hid (nt_back n_0 n_2)
    have c20 := (below_cell hb2 _ _ hlA).trans ca0
    have c21 := (below_cell hb2 _ _ hlA).trans ca1
    have hl2 := Nat.lt_of_lt_of_le hlA hb2.size
    have HI2 := Lib.hid (ints_kept hb2 HIA.out)
    have HB2 := Lib.hid (below_of HBA.out hb2 HBA.out.size)
    clear hb2 ca0 ca1 hlA HIA HBA
    generalize ntT n.toNat = s at *
    go_wp2_with fail
    refine (implNoteNamed_any s _ (Lib.hid (pow_kept HB2.out hF.out.1)) (Lib.hid (note_kept HB2.out hF.out.2))).mono ?_
    rw [HN.out.1, HN.out.2]
    rintro e w3 ⟨rfl, hb3⟩
    have c30 := (below_cell hb3 _ _ hl2).trans c20
    have c31 := (below_cell hb3 _ _ hl2).trans c21
    have hl3 := Nat.lt_of_lt_of_le hl2 hb3.size
    have HI3 := Lib.hid (ints_kept hb3 HI2.out)
    have HB3 := Lib.hid (below_of HB2.out hb3 HB2.out.size)
    clear hb3 c20 c21 hl2 HI2 HB2 HN
    go_wp2_with fail
    refine (r8At_any (.slice a1 n1 c1) 1 4 _ (bytes_kept HB3.out HB1.out) (by omega) (by omega) (by omega) (by omega)).mono ?_
    rintro e w4 ⟨k, k_0, k_1, rfl, rfl⟩
    have k_2 : k ≤ 3 := by omega
    clear k_1
    have hkw : IntKind.i64.wrap (1 + k) = 1 + k := IntWalk.i64_in _ (by omega)
    go_wp2_with fail
    refine (implScale_any n (1 + k) _ (by omega) (by omega)).mono ?_
    have HK := Lib.hid (show kindB (1 + k) = true from inB_iff.2 (by omega))
    have hnn : (n != n) = false := by simp
    rintro e w4 ⟨hb4, h4⟩
    have c40 := (below_cell hb4 _ _ hl3).trans c30
    have c41 := (below_cell hb4 _ _ hl3).trans c31
    have hl4 := Nat.lt_of_lt_of_le hl3 hb4.size
    have HI4 := Lib.hid (ints_kept hb4 HI3.out)
    have HB4 := Lib.hid (below_of HB3.out hb4 HB3.out.size)
    clear hb4 c30 c31 HI3
    by_cases hn : n ≤ 115
    · have hs0 : snC n (1 + k) = 0 := sn_0 (inB_iff.2 (by omega)) HK.out (inB_iff.2 (by omega))
      rcases h4 with ⟨h, -⟩ | ⟨v, -, rfl, g4, cap4, rfl, hg4, hg4l, hrow⟩
      · exact absurd hs0 h
      have hgt : decide (115 < n) = false := decide_eq_false (by omega)
      clear hs0
      obtain ⟨q, hq, q1, q2, e0, eq, hup⟩ := scale_ok n HK.out
      have HUP := Lib.hid hup
      have HC := Lib.hid (row_cellsN hq hrow)
      have hq0 : (0 : Int) ≤ (q : Int) := by omega
      have hn12 : IntKind.i64.wrap (n + 12) = n + 12 := IntWalk.i64_in _ (by omega)
      rw [hq]
      obtain ⟨m, hm⟩ : ∃ m, q + 1 = m := ⟨_, rfl⟩
      rw [hm]
      have hm2 : decide ((m : Int) < 2) = false := decide_eq_false (by omega)
      have hmq : (m : Int) - 1 = (q : Int) := by omega
      have hqm : (q : Int) < (m : Int) := by omega
      have hqw : IntKind.i64.wrap (q : Int) = (q : Int) := IntWalk.i64_in _ (by omega)
      have hm0 : (0 : Int) < (m : Int) := by omega
      have HOC := Lib.hid (octave HTB.out n_0 hn)
      clear hup hrow hq
      go_wp2_with fail
      refine (implNI_any nm (.slice (some ⟨b, 0, none⟩) m12 cap) zs n (n + 12) _ HI4.out hnms).mono ?_
      rw [HOC.out.1, HOC.out.2]
      rintro e w5 ⟨rfl, hb5⟩
      have HB5 := Lib.hid (below_of HB4.out hb5 HB4.out.size)
      have HC5 := Lib.hid (show ∀ j, j < q + 1 → w5.cell? ⟨g4, j, none⟩ = some (.int .i64 ((scaleL n (1 + k)).getD j 0)) from fun j hj => (below_cell hb5 _ _ hg4l).trans (HC.out j hj))
      have hx0 : w5.cell? ⟨g4, 0, none⟩ = some (.int .i64 n) := by rw [HC5.out 0 (by omega), e0]
      have hxq : w5.cell? ⟨g4, q, none⟩ = some (.int .i64 (n + 12)) := by rw [HC5.out q (by omega), eq]
      have hnn2 : (n + 12 != n + 12) = false := by simp
      clear hb5 HC c40 c41 HI4 HB4 hg4
      go_wp2
      go_loopw [14] (fun i wr => ∃ j r : Nat, 1 ≤ j ∧ j ≤ q + 1 ∧ i = .int .i64 j ∧ wr = w5.drewN r) (fun i _ => q + 1 - (intOf i).toNat)
      case atStart => exact ⟨1, 0, by omega, by omega, rfl, rfl⟩
      case round =>
        obtain ⟨j, r, hj1, hj2, rfl, rfl⟩ := hrel
        by_cases hlt : j < q + 1
        · obtain ⟨p, hp⟩ : ∃ p, p + 1 = j := ⟨j - 1, by omega⟩
          have hlo := HUP.out p (by omega)
          have hx := HC5.out p (by omega)
          have hy := HC5.out (p + 1) (by omega)
          rw [hp] at hlo hy
          generalize (scaleL n (1 + k)).getD p 0 = x at *
          generalize (scaleL n (1 + k)).getD j 0 = y at *
          have hjm : (j : Int) < (m : Int) := by omega
          have hj0 : (0 : Int) ≤ (j : Int) := by omega
          have hjp : (j : Int) - 1 = (p : Int) := by omega
          have hp0 : (0 : Int) ≤ (p : Int) := by omega
          have hpm : (p : Int) < (m : Int) := by omega
          have hpw : IntKind.i64.wrap (p : Int) = (p : Int) := IntWalk.i64_in _ (by omega)
          have hle : decide (y ≤ x) = false := decide_eq_false (by omega)
          clear hp hlo
          go_wp2
          go_quiet (fail)
          go_wp2
          go_roundw
          case rel => exact ⟨j + 1, _, by omega, by omega, by go_num, rfl⟩
          case measure => simp [intOf]; omega
        · obtain rfl : j = m := by omega
          go_wp2
          go_ret
          exact ⟨rfl, HB5.out.os, HB5.out.tape, HB5.out.output, HB5.out.size, HB5.out.block⟩
    · have hs6 : snC n (1 + k) = 6 := sn_6 (inB_iff.2 (by omega)) HK.out (inB_false (by omega))
      rcases h4 with ⟨-, rfl⟩ | ⟨v, h, -⟩
      · rw [hs6]
        have hgt : decide (115 < n) = true := decide_eq_true (by omega)
        clear hs6
        go_wp2
        go_ret
        exact ⟨rfl, HB4.out⟩
      · rw [hs6] at h; cases h
end Go.Proofs.YtmkopmdeelfmgabDoor
