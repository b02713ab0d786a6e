/- Frequencies and intervals: the program's answers and the reference model's, number by number: ranges, logarithms, intervals. -/
import Derived.Test.YtpfpdhgdeaoemaaFineSpec
import Derived.Test.YtpfpdhgdeaoemaaFineImpl
import Derived.Test.YtpfpdhgdeaoemaaLen64
namespace Go.Proofs.Ytpfpdhgdeaoemaa
open Go.ChangeShapes Go.WideShapes Go.ChangeAt Go.RowKit

theorem specIsFrequency_any (f : Int) (w : World) :
    Calls Try.prog 21 #[.int .i64 f] w fun e w' => e = .returned (.bool (okF f)) ∧ w = w' := by
  go_enter Try.func21, Try.ntmps21
  go_wp2_with fail
  refine (l02Ok_any _ _).mono ?_
  rintro e w' ⟨rfl, rfl⟩
  go_wp2
  go_ret
  exact ⟨rfl, rfl⟩
theorem l02Log_any (n : Int) (w : World) (h0 : 1 ≤ n) (h1 : n ≤ 1000000000000) :
    Calls Try.prog 46 #[.int .i64 n] w fun e w' => e = .returned (.int .i64 (logV n)) ∧ w = w' := by
  have hb := fine_bd (show 0 < n by omega) h1
  have HL := Lib.hid (show logV n = 12000 * fineV n / 16777216 from rfl)
  go_enter Try.func46, Try.ntmps46
  go_wp2_with fail
  refine (l02Fine_any n _ h0 h1).mono ?_
  rintro e w' ⟨rfl, rfl⟩
  generalize fineV n = v at *
  go_wp2
  go_ret
  exact ⟨ret_i64 HL.out.symm, rfl⟩
theorem implLog_any (n : Int) (w : World) (h0 : 1 ≤ n) (h1 : n ≤ 1000000000000) :
    Calls Try.prog 41 #[.int .i64 n] w fun e w' => e = .returned (.int .i64 (logV n)) ∧ w = w' := by
  have hb := fine_bd (show 0 < n by omega) h1
  have HL := Lib.hid (show logV n = 12000 * fineV n / 16777216 from rfl)
  go_enter Try.func41, Try.ntmps41
  go_wp2_with fail
  refine (fineLog_any len64_any n _ h0 h1).mono ?_
  rintro e w' ⟨rfl, rfl⟩
  generalize fineV n = v at *
  go_wp2
  go_ret
  exact ⟨ret_i64 HL.out.symm, rfl⟩
theorem l02Between_any (f g : Int) (w : World) (h0 : 1 ≤ f) (h1 : f ≤ 1000000000000) (k0 : 1 ≤ g) (k1 : g ≤ 1000000000000) :
    Calls Try.prog 47 #[.int .i64 f, .int .i64 g] w fun e w' => e = .returned (.int .i64 (logV g - logV f)) ∧ w = w' := by
  have hb := log_bd (show 0 < f by omega) h1
  have hc := log_bd (show 0 < g by omega) k1
  go_enter Try.func47, Try.ntmps47
  go_wp2_with (first | (go_at_call 46; refine (l02Log_any _ _ (by omega) (by omega)).mono ?_; rintro e w' ⟨rfl, rfl⟩))
  go_ret
  exact ⟨rfl, rfl⟩

def fineR (n : Int) : Int := if inB n 1 1000000000000 = true then fineV n else 0
def logR (n : Int) : Int := if inB n 1 1000000000000 = true then logV n else 0
def okV (n : Int) : Bool := inB n 1 1000000000000
theorem specFineLog_any (n : Int) (w : World) :
    Calls Try.prog 23 #[.int .i64 n] w fun e w' => e = .returned (.tuple #[.int .i64 (fineR n), .int .i64 (codeOf (okV n))]) ∧ w = w' := by
  by_cases h : inB n 1 1000000000000 = true
  · have H1 := Lib.hid (show fineR n = fineV n by unfold fineR; rw [if_pos h])
    have H2 := Lib.hid (show codeOf (okV n) = 0 by unfold codeOf okV; rw [if_pos h])
    obtain ⟨b0, b1⟩ := inB_iff.1 h
    go_enter Try.func23, Try.ntmps23
    go_wp2_with fail
    refine (l00In_any _ _ _ _).mono ?_
    rintro e w' ⟨rfl, rfl⟩
    go_wp2_with fail
    refine (l02Fine_any n _ b0 b1).mono ?_
    rintro e w' ⟨rfl, rfl⟩
    go_wp2
    go_ret2
    exact ⟨ret_two H1.out.symm H2.out.symm, rfl⟩
  · have H1 := Lib.hid (show fineR n = 0 by unfold fineR; rw [if_neg h])
    have H2 := Lib.hid (show codeOf (okV n) = 2 by unfold codeOf okV; rw [if_neg h])
    have h' : inB n 1 1000000000000 = false := by simpa using h
    clear h
    go_enter Try.func23, Try.ntmps23
    go_wp2_with fail
    refine (l00In_any _ _ _ _).mono ?_
    rintro e w' ⟨rfl, rfl⟩
    go_wp2
    go_ret2
    exact ⟨ret_two H1.out.symm H2.out.symm, rfl⟩
theorem specLogTenths_any (n : Int) (w : World) :
    Calls Try.prog 25 #[.int .i64 n] w fun e w' => e = .returned (.tuple #[.int .i64 (logR n), .int .i64 (codeOf (okV n))]) ∧ w = w' := by
  by_cases h : inB n 1 1000000000000 = true
  · have H1 := Lib.hid (show logR n = logV n by unfold logR; rw [if_pos h])
    have H2 := Lib.hid (show codeOf (okV n) = 0 by unfold codeOf okV; rw [if_pos h])
    obtain ⟨b0, b1⟩ := inB_iff.1 h
    go_enter Try.func25, Try.ntmps25
    go_wp2_with fail
    refine (l00In_any _ _ _ _).mono ?_
    rintro e w' ⟨rfl, rfl⟩
    go_wp2_with fail
    refine (l02Log_any n _ b0 b1).mono ?_
    rintro e w' ⟨rfl, rfl⟩
    go_wp2
    go_ret2
    exact ⟨ret_two H1.out.symm H2.out.symm, rfl⟩
  · have H1 := Lib.hid (show logR n = 0 by unfold logR; rw [if_neg h])
    have H2 := Lib.hid (show codeOf (okV n) = 2 by unfold codeOf okV; rw [if_neg h])
    have h' : inB n 1 1000000000000 = false := by simpa using h
    clear h
    go_enter Try.func25, Try.ntmps25
    go_wp2_with fail
    refine (l00In_any _ _ _ _).mono ?_
    rintro e w' ⟨rfl, rfl⟩
    go_wp2
    go_ret2
    exact ⟨ret_two H1.out.symm H2.out.symm, rfl⟩
theorem implFineLog_any (n : Int) (w : World) :
    Calls Try.prog 24 #[.int .i64 n] w fun e w' => e = .returned (.tuple #[.int .i64 (fineR n), .int .i64 (codeOf (okV n))]) ∧ Below w.heap.size w w' := by
  by_cases h : inB n 1 1000000000000 = true
  · have H1 := Lib.hid (show fineR n = fineV n by unfold fineR; rw [if_pos h])
    have H2 := Lib.hid (show codeOf (okV n) = 0 by unfold codeOf okV; rw [if_pos h])
    obtain ⟨b0, b1⟩ := inB_iff.1 h
    go_enter Try.func24, Try.ntmps24
    go_wp2_with fail
    refine (within_i64 _ _ [n] _ 0 1 1 _ rfl (by omega) (cellF1 _ _ _)).mono ?_
    rintro e w' ⟨rfl, rfl⟩
    rw [all1, h]
    go_wp2_with fail
    refine (fineLog_any len64_any n _ b0 b1).mono ?_
    rintro e w' ⟨rfl, rfl⟩
    go_wp2
    go_ret2
    exact ⟨ret_two H1.out.symm H2.out.symm, (Below.refl _ _).alloc (Nat.le_refl _) _⟩
  · have H1 := Lib.hid (show fineR n = 0 by unfold fineR; rw [if_neg h])
    have H2 := Lib.hid (show codeOf (okV n) = 2 by unfold codeOf okV; rw [if_neg h])
    have h' : inB n 1 1000000000000 = false := by simpa using h
    clear h
    go_enter Try.func24, Try.ntmps24
    go_wp2_with fail
    refine (within_i64 _ _ [n] _ 0 1 1 _ rfl (by omega) (cellF1 _ _ _)).mono ?_
    rintro e w' ⟨rfl, rfl⟩
    rw [all1, h']
    go_wp2
    go_ret2
    exact ⟨ret_two H1.out.symm H2.out.symm, (Below.refl _ _).alloc (Nat.le_refl _) _⟩
theorem implLogTenths_any (n : Int) (w : World) :
    Calls Try.prog 26 #[.int .i64 n] w fun e w' => e = .returned (.tuple #[.int .i64 (logR n), .int .i64 (codeOf (okV n))]) ∧ Below w.heap.size w w' := by
  by_cases h : inB n 1 1000000000000 = true
  · have H1 := Lib.hid (show logR n = logV n by unfold logR; rw [if_pos h])
    have H2 := Lib.hid (show codeOf (okV n) = 0 by unfold codeOf okV; rw [if_pos h])
    obtain ⟨b0, b1⟩ := inB_iff.1 h
    go_enter Try.func26, Try.ntmps26
    go_wp2_with fail
    refine (within_i64 _ _ [n] _ 0 1 1 _ rfl (by omega) (cellF1 _ _ _)).mono ?_
    rintro e w' ⟨rfl, rfl⟩
    rw [all1, h]
    go_wp2_with fail
    refine (implLog_any n _ b0 b1).mono ?_
    rintro e w' ⟨rfl, rfl⟩
    go_wp2
    go_ret2
    exact ⟨ret_two H1.out.symm H2.out.symm, (Below.refl _ _).alloc (Nat.le_refl _) _⟩
  · have H1 := Lib.hid (show logR n = 0 by unfold logR; rw [if_neg h])
    have H2 := Lib.hid (show codeOf (okV n) = 2 by unfold codeOf okV; rw [if_neg h])
    have h' : inB n 1 1000000000000 = false := by simpa using h
    clear h
    go_enter Try.func26, Try.ntmps26
    go_wp2_with fail
    refine (within_i64 _ _ [n] _ 0 1 1 _ rfl (by omega) (cellF1 _ _ _)).mono ?_
    rintro e w' ⟨rfl, rfl⟩
    rw [all1, h']
    go_wp2
    go_ret2
    exact ⟨ret_two H1.out.symm H2.out.symm, (Below.refl _ _).alloc (Nat.le_refl _) _⟩
end Go.Proofs.Ytpfpdhgdeaoemaa
