/- The mean of a list of frequencies: the program's answer and the reference model's, for every list that the law looks at. -/
import Derived.Test.YtpfpdhgdeaoemaaBeats
import Derived.Test.YtpfpdhgdeaoemaaInts
namespace Go.Proofs.Ytpfpdhgdeaoemaa
open Go.ChangeShapes Go.WideShapes Go.ChangeAt Go.RowKit

theorem row_kept {w w' : World} {B : Nat} {e : TypeId} {v : Value} {n : Nat} {xs : List Value} (hb : Below w.heap.size w w') (h : w.ownsRow B e 1 v n xs) : w'.ownsRow B e 1 v n xs :=
  h.kept (row := none) ⟨hb.os, hb.tape, hb.output, hb.size, fun k hk _ => hb.block k hk⟩ (by cases hv : v.ownBlock <;> simp)
theorem tf_cases (b : Bool) : b = true ∨ b = false := by cases b <;> simp
def lsum (zs : List Int) : Int := zs.foldl (· + ·) 0
theorem lsum_next (zs : List Int) (k : Nat) (h : k < zs.length) : lsum (zs.take (k + 1)) = lsum (zs.take k) + zs.getD k 0 := by
  unfold lsum
  rw [List.take_succ_eq_append_getElem h, List.foldl_append, List.getD_eq_getElem?_getD, List.getElem?_eq_getElem h]; rfl
theorem lsum_all (zs : List Int) (k : Nat) (h : zs.length ≤ k) : lsum (zs.take k) = lsum zs := by rw [List.take_of_length_le h]
/-- What the sum of k frequencies lies between. -/
def SumIn (zs : List Int) (k : Nat) : Prop := 0 ≤ lsum (zs.take k) ∧ lsum (zs.take k) ≤ 20000000 * (k : Int)
theorem sum_start (zs : List Int) : SumIn zs 0 := by unfold SumIn lsum; simp
theorem sum_next {zs : List Int} {k : Nat} (h : SumIn zs k) (hk : k < zs.length) (hz : 10000 ≤ zs.getD k 0 ∧ zs.getD k 0 ≤ 20000000) : SumIn zs (k + 1) := by
  unfold SumIn at *
  rw [lsum_next zs k hk]
  omega
theorem allF_get {zs : List Int} (h : allIn 10000 20000000 zs = true) (j : Nat) (hj : j < zs.length) : 10000 ≤ zs.getD j 0 ∧ zs.getD j 0 ≤ 20000000 := by
  unfold allIn at h
  rw [List.all_eq_true] at h
  have := h zs[j] (List.getElem_mem hj)
  rw [List.getD_eq_getElem?_getD, List.getElem?_eq_getElem hj]
  exact inB_iff.1 this
theorem sum_all {zs : List Int} (h : allIn 10000 20000000 zs = true) : ∀ k, k ≤ zs.length → SumIn zs k
  | 0, _ => sum_start zs
  | k + 1, hk => sum_next (sum_all h k (by omega)) (by omega) (allF_get h k (by omega))

def meanR (zs : List Int) : Int := if allIn 10000 20000000 zs = true ∧ zs.length ≤ 64 ∧ zs.length ≠ 0 then nq (lsum zs) zs.length else 0
def meanC (zs : List Int) : Int := if allIn 10000 20000000 zs = true then (if 64 < zs.length then 5 else if zs.length = 0 then 6 else 0) else 2

set_option maxHeartbeats 1000000 in
theorem specMean_any (zs : List Int) (b off n cap : Nat) (w : World) (hn : Hid (zs.length = n)) (hbig : n ≤ 1048576)
    (hc : ∀ j, j < n → w.cell? ⟨b, off + j, none⟩ = some (.int .i64 (zs.getD j 0))) :
    Calls Try.prog 32 #[.slice (some ⟨b, off, none⟩) n cap] w fun e w' => e = .returned (.tuple #[.int .i64 (meanR zs), .int .i64 (meanC zs)]) ∧ w = w' := by
  have HC := Lib.hid hc
  clear hc
  go_enter Try.func32, Try.ntmps32
  go_wp2
  go_loop [4, 5] (fun s i => ∃ k : Nat, k ≤ n ∧ i = .int .i64 k ∧ s = .int .i64 (lsum (zs.take k)) ∧ Hid (SumIn zs k) ∧ Hid (∀ j, j < k → inB (zs.getD j 0) 10000 20000000 = true)) (fun _ i => n - (intOf i).toNat)
  case atStart => exact ⟨0, by omega, rfl, rfl, Lib.hid (sum_start zs), Lib.hid (fun j hj => by omega)⟩
  case round =>
    obtain ⟨k, hk, rfl, rfl, HS, HA⟩ := hrel
    obtain ⟨s0, s1⟩ := HS.out
    by_cases hlt : k < n
    · have hcell := HC.out k hlt
      have HX := Lib.hid (lsum_next zs k (by rw [hn.out]; exact hlt))
      have HY := Lib.hid (fun h => sum_next HS.out (by rw [hn.out]; exact hlt) h)
      have HP := Lib.hid (fun h => allIn_false (lo := 10000) (hi := 20000000) (zs := zs) (k := k) (by rw [hn.out]; exact hlt) h)
      have HQ := Lib.hid (show inB (zs.getD k 0) 10000 20000000 = true → ∀ j, j < k + 1 → inB (zs.getD j 0) 10000 20000000 = true from fun h j hj => by
        by_cases e : j = k
        · subst e; exact h
        · exact HA.out j (by omega))
      generalize zs.getD k 0 = z at *
      generalize lsum (zs.take k) = s at *
      by_cases h1 : okF z = true
      · have hb := okF_iff.1 h1
        go_wp2_with (go_at_call 42; refine (l02Ok_any _ _).mono ?_; rintro e w' ⟨rfl, rfl⟩)
        go_round
        case rel => exact ⟨k + 1, by omega, by go_num, by rw [HX.out], Lib.hid (HY.out hb), Lib.hid (HQ.out h1)⟩
        case measure => simp [intOf]; omega
      · have h1' : okF z = false := by simpa using h1
        have HF := Lib.hid (HP.out h1')
        have R1 := Lib.hid (show meanR zs = 0 by unfold meanR; rw [if_neg (fun h => by rw [HF.out] at h; cases h.1)])
        have R2 := Lib.hid (show meanC zs = 2 by unfold meanC; rw [HF.out]; rfl)
        clear h1
        go_wp2_with (go_at_call 42; refine (l02Ok_any _ _).mono ?_; rintro e w' ⟨rfl, rfl⟩)
        go_ret2
        exact ⟨ret_two R1.out.symm R2.out.symm, rfl⟩
    · obtain rfl : k = n := by omega
      have HT := Lib.hid (allIn_true (lo := 10000) (hi := 20000000) (zs := zs) (fun j hj => HA.out j (by have := hn.out; omega)))
      have HX := Lib.hid (lsum_all zs k (by rw [hn.out]; omega))
      generalize lsum (zs.take k) = s at *
      by_cases h64 : 64 < k
      · have R1 := Lib.hid (show meanR zs = 0 by unfold meanR; rw [if_neg (fun h => by have := h.2.1; have := hn.out; omega)])
        have R2 := Lib.hid (show meanC zs = 5 by unfold meanC; rw [if_pos HT.out, if_pos (by rw [hn.out]; exact h64)])
        go_wp2
        go_ret2
        exact ⟨ret_two R1.out.symm R2.out.symm, rfl⟩
      · by_cases h0 : k = 0
        · have R1 := Lib.hid (show meanR zs = 0 by unfold meanR; rw [if_neg (fun h => h.2.2 (by rw [hn.out]; exact h0))])
          have R2 := Lib.hid (show meanC zs = 6 by unfold meanC; rw [if_pos HT.out, if_neg (by rw [hn.out]; omega), if_pos (by rw [hn.out]; exact h0)])
          have hz : ((k : Int) == 0) = true := beq_iff_eq.2 (by omega)
          clear h0
          go_wp2
          go_ret2
          exact ⟨ret_two R1.out.symm R2.out.symm, rfl⟩
        · have R1 := Lib.hid (show meanR zs = nq s k by unfold meanR; rw [if_pos ⟨HT.out, by rw [hn.out]; omega, by rw [hn.out]; exact h0⟩, hn.out, HX.out])
          have R2 := Lib.hid (show meanC zs = 0 by unfold meanC; rw [if_pos HT.out, if_neg (by rw [hn.out]; omega), if_neg (by rw [hn.out]; exact h0)])
          have hz : ((k : Int) == 0) = false := beq_eq_false_iff_ne.2 (by omega)
          go_wp2_with (go_at_call 48; refine (specDiv_any s k _ (by omega) (by omega) (by omega)).mono ?_; rintro e w' ⟨rfl, rfl⟩)
          go_ret2
          exact ⟨ret_two R1.out.symm R2.out.symm, rfl⟩

set_option maxHeartbeats 1000000 in
theorem implMean_any (zs : List Int) (b off n cap : Nat) (w : World) (hn : Hid (zs.length = n)) (hbig : n ≤ 1048576)
    (hc : ∀ j, j < n → w.cell? ⟨b, off + j, none⟩ = some (.int .i64 (zs.getD j 0))) :
    Calls Try.prog 16 #[.slice (some ⟨b, off, none⟩) n cap] w fun e w' => e = .returned (.tuple #[.int .i64 (meanR zs), .int .i64 (meanC zs)]) ∧ Below w.heap.size w w' := by
  have HC := Lib.hid hc
  clear hc
  rcases tf_cases (allIn 10000 20000000 zs) with h1 | h1
  · have HT := Lib.hid h1
    have HSA := Lib.hid (sum_all h1)
    by_cases h64 : 64 < n
    · have R1 := Lib.hid (show meanR zs = 0 by unfold meanR; rw [if_neg (fun h => by have := h.2.1; have := hn.out; omega)])
      have R2 := Lib.hid (show meanC zs = 5 by unfold meanC; rw [if_pos HT.out, if_pos (by rw [hn.out]; exact h64)])
      clear h1
      go_enter Try.func16, Try.ntmps16
      go_wp2_with fail
      refine (within_i64 _ _ zs b off n cap _ hn.out (by omega) HC.out).mono ?_
      rintro e w' ⟨rfl, rfl⟩
      rw [HT.out]
      go_wp2
      go_ret2
      exact ⟨ret_two R1.out.symm R2.out.symm, Below.refl _ _⟩
    · by_cases h0 : n = 0
      · have R1 := Lib.hid (show meanR zs = 0 by unfold meanR; rw [if_neg (fun h => h.2.2 (by rw [hn.out]; exact h0))])
        have R2 := Lib.hid (show meanC zs = 6 by unfold meanC; rw [if_pos HT.out, if_neg (by rw [hn.out]; omega), if_pos (by rw [hn.out]; exact h0)])
        have hz : ((n : Int) == 0) = true := beq_iff_eq.2 (by omega)
        clear h0 h1
        go_enter Try.func16, Try.ntmps16
        go_wp2_with fail
        refine (within_i64 _ _ zs b off n cap _ hn.out (by omega) HC.out).mono ?_
        rintro e w' ⟨rfl, rfl⟩
        rw [HT.out]
        go_wp2
        go_ret2
        exact ⟨ret_two R1.out.symm R2.out.symm, Below.refl _ _⟩
      · have R1 := Lib.hid (show meanR zs = nq (lsum zs) n by unfold meanR; rw [if_pos ⟨HT.out, by rw [hn.out]; omega, by rw [hn.out]; exact h0⟩, hn.out])
        have R2 := Lib.hid (show meanC zs = 0 by unfold meanC; rw [if_pos HT.out, if_neg (by rw [hn.out]; omega), if_neg (by rw [hn.out]; exact h0)])
        have hz : ((n : Int) == 0) = false := beq_eq_false_iff_ne.2 (by omega)
        clear h1
        go_enter Try.func16, Try.ntmps16
        go_wp2_with fail
        refine (within_i64 _ _ zs b off n cap _ hn.out (by omega) HC.out).mono ?_
        rintro e w' ⟨rfl, rfl⟩
        rw [HT.out]
        go_wp2
        go_loop [4, 21] (fun s i => ∃ k : Nat, k ≤ n ∧ i = .int .i64 k ∧ s = .int .i64 (lsum (zs.take k))) (fun _ i => n - (intOf i).toNat)
        case atStart => exact ⟨0, by omega, rfl, rfl⟩
        case round =>
          obtain ⟨k, hk, rfl, rfl⟩ := hrel
          obtain ⟨s0, s1⟩ := HSA.out k (by rw [hn.out]; exact hk)
          by_cases hlt : k < n
          · have hcell := HC.out k hlt
            have hb := allF_get HT.out k (by rw [hn.out]; exact hlt)
            have HX := Lib.hid (lsum_next zs k (by rw [hn.out]; exact hlt))
            generalize zs.getD k 0 = z at *
            generalize lsum (zs.take k) = s at *
            go_wp2
            go_round
            case rel => exact ⟨k + 1, by omega, by go_num, by rw [HX.out]⟩
            case measure => simp [intOf]; omega
          · obtain rfl : k = n := by omega
            have HX := Lib.hid (lsum_all zs k (by rw [hn.out]; omega))
            generalize lsum (zs.take k) = s at *
            have HD := Lib.hid (show divRound s k = nq s k by unfold divRound; rw [if_pos ⟨by omega, inB_iff.2 (by omega), inB_iff.2 (by omega)⟩])
            go_wp2_with fail
            refine (implDivRound_any s k _).mono ?_
            rintro e w2 ⟨rfl, hb⟩
            have HB := Lib.hid hb
            clear hb
            go_wp2
            go_ret2
            exact ⟨ret_two (by rw [R1.out, HD.out, HX.out]) R2.out.symm, HB.out⟩
  · have R1 := Lib.hid (show meanR zs = 0 by unfold meanR; rw [if_neg (fun h => by rw [h1] at h; cases h.1)])
    have R2 := Lib.hid (show meanC zs = 2 by unfold meanC; rw [h1]; rfl)
    have HT := Lib.hid h1
    clear h1
    go_enter Try.func16, Try.ntmps16
    go_wp2_with fail
    refine (within_i64 _ _ zs b off n cap _ hn.out (by omega) HC.out).mono ?_
    rintro e w' ⟨rfl, rfl⟩
    rw [HT.out]
    go_wp2
    go_ret2
    exact ⟨ret_two R1.out.symm R2.out.symm, Below.refl _ _⟩
end Go.Proofs.Ytpfpdhgdeaoemaa
