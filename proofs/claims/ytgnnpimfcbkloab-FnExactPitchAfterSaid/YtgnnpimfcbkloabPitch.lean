/- The pitch of a bell of another size: both walks. -/
import Derived.Test.YtgnnpimfcbkloabRatio
import Derived.Test.YtgnnpimfcbkloabFreq
set_option linter.unusedVariables false
namespace Go.Proofs.Ytgnnpimfcbkloab
open Go.ChangeShapes Go.WideShapes Go.ChangeAt Go.RowKit

def scB (a b : Int) : Bool := inB a 1 1000 && inB b 1 1000
def pitC (f a b : Int) : Int := if okF f = true then (if scB a b = true then (if okF (nq (f * b) a) = true then 0 else 6) else 2) else 2
def pitV (f a b : Int) : Int := if pitC f a b = 0 then nq (f * b) a else 0
theorem pit_1 {f a b : Int} (h : okF f = false) : pitC f a b = 2 ∧ pitV f a b = 0 := by
  have : pitC f a b = 2 := by unfold pitC; rw [h]; rfl
  exact ⟨this, by unfold pitV; rw [this]; rfl⟩
theorem pit_2 {f a b : Int} (h : okF f = true) (h2 : scB a b = false) : pitC f a b = 2 ∧ pitV f a b = 0 := by
  have : pitC f a b = 2 := by unfold pitC; rw [if_pos h, h2]; rfl
  exact ⟨this, by unfold pitV; rw [this]; rfl⟩
theorem pit_3 {f a b : Int} (h : okF f = true) (h2 : scB a b = true) (h3 : okF (nq (f * b) a) = false) : pitC f a b = 6 ∧ pitV f a b = 0 := by
  have : pitC f a b = 6 := by unfold pitC; rw [if_pos h, if_pos h2, h3]; rfl
  exact ⟨this, by unfold pitV; rw [this]; rfl⟩
theorem pit_0 {f a b : Int} (h : okF f = true) (h2 : scB a b = true) (h3 : okF (nq (f * b) a) = true) : pitC f a b = 0 ∧ pitV f a b = nq (f * b) a := by
  have : pitC f a b = 0 := by unfold pitC; rw [if_pos h, if_pos h2, if_pos h3]
  exact ⟨this, by unfold pitV; rw [if_pos this]⟩
theorem sc_iff {a b : Int} : scB a b = true ↔ (1 ≤ a ∧ a ≤ 1000) ∧ (1 ≤ b ∧ b ≤ 1000) := by simp [scB, inB_iff]
theorem pit_bd {f a b : Int} (h : okF f = true) (h2 : scB a b = true) : 0 ≤ f * b ∧ f * b ≤ 20000000000 := by
  have h3 := okF_iff.1 h
  have h4 := (sc_iff.1 h2).2
  exact ⟨Int.mul_nonneg (by omega) (by omega), Int.le_trans (Int.mul_le_mul_of_nonneg_right h3.2 (by omega)) (by omega)⟩
theorem l07Scale_any (a b : Int) (w : World) : Calls Try.prog 61 #[.int .i64 a, .int .i64 b] w fun e w' => e = .returned (.bool (scB a b)) ∧ w = w' := by
  rcases Bool.eq_false_or_eq_true (inB a 1 1000) with h | h
  · have HR := Lib.hid (show scB a b = inB b 1 1000 by unfold scB; rw [h]; rfl)
    go_enter Try.func61, Try.ntmps61
    go_wp2_with fail
    refine (l00In_any a 1 1000 _).mono ?_
    rintro e w' ⟨rfl, rfl⟩
    rw [h]
    go_wp2_with (go_at_call 68; refine (l00In_any b 1 1000 _).mono ?_; rintro e w' ⟨rfl, rfl⟩)
    go_ret
    exact ⟨ret_bool HR.out.symm, rfl⟩
  · have HR := Lib.hid (show scB a b = false by unfold scB; rw [h]; rfl)
    go_enter Try.func61, Try.ntmps61
    go_wp2_with fail
    refine (l00In_any a 1 1000 _).mono ?_
    rintro e w' ⟨rfl, rfl⟩
    rw [h]
    go_wp2
    go_ret
    exact ⟨ret_bool HR.out.symm, rfl⟩
theorem areScales_any (a b : Int) (w : World) (g : Nat) (h : ∀ j, j < 2 → w.cell? ⟨g, 0 + j, none⟩ = some (.int .i64 ([a, b].getD j 0))) : Calls Try.prog 64 #[.slice (some ⟨g, 0, none⟩) 2 2] w fun e w' => e = .returned (.bool (scB a b)) ∧ w = w' := by
  have HS := Lib.hid (show allIn 1 1000 [a, b] = scB a b by simp [allIn, scB])
  have HW := Lib.hid (within_i64 1 1000 [a, b] g 0 2 2 w rfl (by omega) h)
  go_enter Try.func64, Try.ntmps64
  go_wp2_with fail
  refine HW.out.mono ?_
  rintro e w' ⟨rfl, rfl⟩
  rw [HS.out]
  go_wp2
  go_ret
  exact ⟨rfl, rfl⟩
set_option maxHeartbeats 1000000 in
theorem specPitch_any (f a b : Int) (w : World) : Calls Try.prog 14 #[.int .i64 f, .int .i64 a, .int .i64 b] w fun e w' => e = .returned (.tuple #[.int .i64 (pitV f a b), .int .i64 (pitC f a b)]) ∧ Below w.heap.size w w' := by
  rcases Bool.eq_false_or_eq_true (okF f) with h1 | h1
  · rcases Bool.eq_false_or_eq_true (scB a b) with h2 | h2
    · have hb := pit_bd h1 h2
      have hs := sc_iff.1 h2
      have HT := Lib.hid (fun w => specDiv_any (f * b) a w (by omega) (by omega) (by omega))
      rcases Bool.eq_false_or_eq_true (okF (nq (f * b) a)) with h3 | h3
      · have HR := Lib.hid (pit_0 h1 h2 h3)
        generalize nq (f * b) a = q at *
        go_enter Try.func14, Try.ntmps14
        go_wp2_with fail
        refine (l02Ok_any f _).mono ?_
        rintro e w' ⟨rfl, rfl⟩
        rw [h1]
        go_wp2_with fail
        refine (l07Scale_any a b _).mono ?_
        rintro e w' ⟨rfl, rfl⟩
        rw [h2]
        go_wp2_with fail
        refine (HT.out _).mono ?_
        rintro e w' ⟨rfl, rfl⟩
        go_wp2_with fail
        refine (l02Ok_any q _).mono ?_
        rintro e w' ⟨rfl, rfl⟩
        rw [h3]
        go_wp2
        go_ret2
        exact ⟨ret_two HR.out.2.symm HR.out.1.symm, Below.refl _ _⟩
      · have HR := Lib.hid (pit_3 h1 h2 h3)
        generalize nq (f * b) a = q at *
        go_enter Try.func14, Try.ntmps14
        go_wp2_with fail
        refine (l02Ok_any f _).mono ?_
        rintro e w' ⟨rfl, rfl⟩
        rw [h1]
        go_wp2_with fail
        refine (l07Scale_any a b _).mono ?_
        rintro e w' ⟨rfl, rfl⟩
        rw [h2]
        go_wp2_with fail
        refine (HT.out _).mono ?_
        rintro e w' ⟨rfl, rfl⟩
        go_wp2_with fail
        refine (l02Ok_any q _).mono ?_
        rintro e w' ⟨rfl, rfl⟩
        rw [h3]
        go_wp2
        go_ret2
        exact ⟨ret_two HR.out.2.symm HR.out.1.symm, Below.refl _ _⟩
    · have HR := Lib.hid (pit_2 h1 h2)
      go_enter Try.func14, Try.ntmps14
      go_wp2_with fail
      refine (l02Ok_any f _).mono ?_
      rintro e w' ⟨rfl, rfl⟩
      rw [h1]
      go_wp2_with fail
      refine (l07Scale_any a b _).mono ?_
      rintro e w' ⟨rfl, rfl⟩
      rw [h2]
      go_wp2
      go_ret2
      exact ⟨ret_two HR.out.2.symm HR.out.1.symm, Below.refl _ _⟩
  · have HR := Lib.hid (pit_1 (a := a) (b := b) h1)
    go_enter Try.func14, Try.ntmps14
    go_wp2_with fail
    refine (l02Ok_any f _).mono ?_
    rintro e w' ⟨rfl, rfl⟩
    rw [h1]
    go_wp2
    go_ret2
    exact ⟨ret_two HR.out.2.symm HR.out.1.symm, Below.refl _ _⟩
theorem cellF2n (w : World) (x y : Int) (T : TypeId) (n : Nat) (hn : n = w.heap.size) : ∀ j, j < 2 → (w.alloc (.cells #[.int .i64 x, .int .i64 y] T)).cell? ⟨n, 0 + j, none⟩ = some (.int .i64 ([x, y].getD j 0)) := by
  subst hn
  exact cellF2 w x y T
set_option maxHeartbeats 1000000 in
theorem implPitch_any (f a b : Int) (w : World) : Calls Try.prog 15 #[.int .i64 f, .int .i64 a, .int .i64 b] w fun e w' => e = .returned (.tuple #[.int .i64 (pitV f a b), .int .i64 (pitC f a b)]) ∧ Below w.heap.size w w' := by
  rcases Bool.eq_false_or_eq_true (okF f) with h1 | h1
  · rcases Bool.eq_false_or_eq_true (scB a b) with h2 | h2
    · have hbd := pit_bd h1 h2
      have hs := sc_iff.1 h2
      obtain ⟨q, hq⟩ : ∃ q, nq (f * b) a = q := ⟨_, rfl⟩
      have HT := Lib.hid (show ∀ (g1 g2 : Nat) (w : World), w.cell? ⟨g1, 0, none⟩ = some (.int .i64 b) → w.cell? ⟨g2, 0, none⟩ = some (.int .i64 a) → Calls Try.prog 121 #[.int .i64 f, .pointer (some ⟨g1, 0, none⟩), .pointer (some ⟨g2, 0, none⟩)] w fun e w' => e = .returned (.int .i64 q) ∧ Below w.heap.size w w' from fun g1 g2 w c1 c2 => by rw [← hq]; exact ratio_any f b a g1 g2 w c1 c2 (by omega) (by omega))
      have HR := Lib.hid (show (okF q = true → pitC f a b = 0 ∧ pitV f a b = q) ∧ (okF q = false → pitC f a b = 6 ∧ pitV f a b = 0) from by rw [← hq]; exact ⟨pit_0 h1 h2, pit_3 h1 h2⟩)
      clear hq hbd
      go_enter Try.func15, Try.ntmps15
      go_wp2_with fail
      refine (implIsFrequency_any f _).mono ?_
      rintro e w1 ⟨rfl, hb⟩
      rw [h1]
      have HB1 := Lib.hid hb
      clear hb
      go_wp2_with fail
      refine (areScales_any a b _ _ (cellF2n _ _ _ _ _ (by simp))).mono ?_
      rintro e w2 ⟨rfl, rfl⟩
      rw [h2]
      have HB2 := Lib.hid (HB1.out.alloc HB1.out.size (.cells #[.int .i64 a, .int .i64 b] 2))
      generalize w1.alloc (.cells #[.int .i64 a, .int .i64 b] 2) = w2 at *
      go_wp2_with fail
      refine (byRatio_any b a _).mono ?_
      rintro e w3 ⟨rfl, rfl⟩
      have k1 : ((w2.alloc (.cells #[.int .i64 b] 2)).alloc (.cells #[.int .i64 a] 2)).cell? ⟨w2.heap.size, 0, none⟩ = some (.int .i64 b) := by go_simp
      have k2 : ((w2.alloc (.cells #[.int .i64 b] 2)).alloc (.cells #[.int .i64 a] 2)).cell? ⟨w2.heap.size + 1, 0, none⟩ = some (.int .i64 a) := by go_simp
      have HB3 := Lib.hid ((HB2.out.alloc HB2.out.size (.cells #[.int .i64 b] 2)).alloc (by simp; have := HB2.out.size; omega) (.cells #[.int .i64 a] 2))
      generalize (w2.alloc (.cells #[.int .i64 b] 2)).alloc (.cells #[.int .i64 a] 2) = w3 at *
      go_wp2_with fail
      refine (HT.out _ _ _ k1 k2).mono ?_
      rintro e w4 ⟨rfl, hb⟩
      have HB4 := Lib.hid (below_of HB3.out hb HB3.out.size)
      clear hb k1 k2
      go_wp2_with fail
      refine (implIsFrequency_any q _).mono ?_
      rintro e w5 ⟨rfl, hb⟩
      have HB5 := Lib.hid (below_of HB4.out hb HB4.out.size)
      clear hb
      rcases Bool.eq_false_or_eq_true (okF q) with h3 | h3
      · have HX := Lib.hid (HR.out.1 h3)
        rw [h3]
        go_wp2
        go_ret2
        exact ⟨ret_two HX.out.2.symm HX.out.1.symm, HB5.out⟩
      · have HX := Lib.hid (HR.out.2 h3)
        rw [h3]
        go_wp2
        go_ret2
        exact ⟨ret_two HX.out.2.symm HX.out.1.symm, HB5.out⟩
    · have HR := Lib.hid (pit_2 h1 h2)
      go_enter Try.func15, Try.ntmps15
      go_wp2_with fail
      refine (implIsFrequency_any f _).mono ?_
      rintro e w1 ⟨rfl, hb⟩
      rw [h1]
      have HB1 := Lib.hid hb
      clear hb
      go_wp2_with fail
      refine (areScales_any a b _ _ (cellF2n _ _ _ _ _ (by simp))).mono ?_
      rintro e w2 ⟨rfl, rfl⟩
      rw [h2]
      go_wp2
      go_ret2
      exact ⟨ret_two HR.out.2.symm HR.out.1.symm, HB1.out.alloc HB1.out.size _⟩
  · have HR := Lib.hid (pit_1 (a := a) (b := b) h1)
    go_enter Try.func15, Try.ntmps15
    go_wp2_with fail
    refine (implIsFrequency_any f _).mono ?_
    rintro e w1 ⟨rfl, hb⟩
    rw [h1]
    have HB1 := Lib.hid hb
    clear hb
    go_wp2
    go_ret2
    exact ⟨ret_two HR.out.2.symm HR.out.1.symm, HB1.out⟩
end Go.Proofs.Ytgnnpimfcbkloab
