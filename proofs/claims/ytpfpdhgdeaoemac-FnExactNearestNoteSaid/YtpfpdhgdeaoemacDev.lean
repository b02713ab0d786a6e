/- DeviationFrom: the program's answer and the reference model's. -/
import Derived.Test.YtpfpdhgdeaoemacNoteIv
import Derived.Test.YtpfpdhgdeaoemacApart
namespace Go.Proofs.Ytpfpdhgdeaoemac
open Go.ChangeShapes Go.WideShapes Go.ChangeAt Go.RowKit

/-- How far f is from a note. -/
def devN (zs : List Int) (p f : Int) (n : Nat) : Int := logV f - logV p - ivN zs 69 n
def dfB (p n f : Int) : Bool := okF p && (noteB n && okF f)
def dfR (s : ByteArray) (zs : List Int) (p n f : Int) : Int := if tempB s zs = true ∧ dfB p n f = true then devN zs p f n.toNat else 0
def dfC (s : ByteArray) (zs : List Int) (p n f : Int) : Int := if tempB s zs = true then (if dfB p n f = true then 0 else 2) else 1
theorem df_0 {s : ByteArray} {zs : List Int} {p n f : Int} (h : tempB s zs = false) : dfR s zs p n f = 0 ∧ dfC s zs p n f = 1 := by
  unfold dfR dfC; rw [h]; exact ⟨if_neg (fun h => by cases h.1), if_neg (by decide)⟩
theorem df_1 {s : ByteArray} {zs : List Int} {p n f : Int} (h : tempB s zs = true) (h1 : dfB p n f = false) : dfR s zs p n f = 0 ∧ dfC s zs p n f = 2 := by
  unfold dfR dfC; rw [h, h1]; exact ⟨if_neg (fun h => by cases h.2), by decide⟩
theorem df_2 {s : ByteArray} {zs : List Int} {p n f : Int} (h : tempB s zs = true) (h1 : dfB p n f = true) : dfR s zs p n f = devN zs p f n.toNat ∧ dfC s zs p n f = 0 := by
  unfold dfR dfC; rw [h, h1]; exact ⟨if_pos ⟨rfl, rfl⟩, by decide⟩
theorem dev_bd {zs : List Int} {p f : Int} {n : Nat} (h : allIn (-500) 500 zs = true) (hl : zs.length = 12) (hn : n ≤ 127) (p0 : 10000 ≤ p) (p1 : p ≤ 20000000) (f0 : 10000 ≤ f) (f1 : f ≤ 20000000) : -1000000 ≤ devN zs p f n ∧ devN zs p f n ≤ 1000000 := by
  have a := iv_bd h hl 69 n (by omega) hn
  have b := log_bd (show 0 < p by omega) (by omega)
  have c := log_bd (show 0 < f by omega) (by omega)
  unfold devN
  omega

set_option maxHeartbeats 1000000 in
theorem l03Dev_any (zs : List Int) (g bb off cap : Nat) (p f : Int) (n : Nat) (w : World) (hn : n ≤ 127) (p0 : 10000 ≤ p) (p1 : p ≤ 20000000) (f0 : 10000 ≤ f) (f1 : f ≤ 20000000) (hl : zs.length = 12) (hin : allIn (-500) 500 zs = true) (hp : w.cell? ⟨g, 1, none⟩ = some (.slice (some ⟨bb, off, none⟩) 12 cap)) (hc : ∀ j, j < 12 → w.cell? ⟨bb, off + j, none⟩ = some (.int .i64 (zs.getD j 0))) :
    Calls Try.prog 21 #[.pointer (some ⟨g, 0, none⟩), .int .i64 p, .int .i64 n, .int .i64 f] w fun e w' => e = .returned (.int .i64 (devN zs p f n)) ∧ Below w.heap.size w w' := by
  have HV := Lib.hid (show devN zs p f n = logV f - logV p - ivN zs 69 n from rfl)
  have b1 := log_bd (show 0 < p by omega) (by omega)
  have b2 := log_bd (show 0 < f by omega) (by omega)
  have b3 := iv_bd hin hl 69 n (by omega) hn
  have HL := Lib.hid hl
  have HIN := Lib.hid hin
  have HP := Lib.hid hp
  have HC := Lib.hid hc
  clear hl hin hp hc
  go_enter Try.func21, Try.ntmps21
  go_wp2_with fail
  refine (l02Between_any p f _ (by omega) (by omega) (by omega) (by omega)).mono ?_
  rintro e w1 ⟨rfl, rfl⟩
  go_wp2_with fail
  refine (l03Interval_any zs g bb off cap 69 n _ (by omega) hn HL.out HIN.out HP.out HC.out).mono ?_
  rintro e w2 ⟨rfl, hb⟩
  have HB := Lib.hid hb
  clear hb
  generalize ivN zs 69 n = i at *
  go_wp2
  go_ret
  exact ⟨ret_i64 HV.out.symm, HB.out⟩

set_option maxHeartbeats 2000000 in
theorem specDF_any (s : ByteArray) (v : Value) (zs : List Int) (p n f : Int) (w : World) (h : IntsAt w v zs) (hs : s.size ≤ 9223372036854775807) :
    Calls Try.prog 11 #[.agg #[.string s, v], .int .i64 p, .int .i64 n, .int .i64 f] w fun e w' => e = .returned (.tuple #[.int .i64 (dfR s zs p n f), .int .i64 (dfC s zs p n f)]) ∧ Below w.heap.size w w' := by
  have HI := Lib.hid h
  clear h
  rcases t_cases (tempB s zs) with h0 | h0
  · rcases t_cases (okF p) with h1 | h1
    · rcases t_cases (noteB n) with h2 | h2
      · rcases t_cases (okF f) with h3 | h3
        · have R := Lib.hid (df_2 (s := s) (zs := zs) (p := p) (n := n) (f := f) h0 (by unfold dfB; rw [h1, h2, h3]; rfl))
          obtain ⟨hl, hin⟩ := temp_parts h0
          obtain ⟨bb, off, cap, rfl, hbb, hc⟩ := temp_some hl HI.out
          have HL := Lib.hid hl
          have HIN := Lib.hid hin
          have HC := Lib.hid hc
          obtain ⟨p0, p1⟩ := okF_iff.1 h1
          obtain ⟨f0, f1⟩ := okF_iff.1 h3
          obtain ⟨q, q1, rfl⟩ := note_nat h2
          clear hl hin hc
          go_enter Try.func11, Try.ntmps11
          go_wp2_with fail
          refine (l03Ok_any s _ zs _ _ ⟨by go_simp, by go_simp, ints_kept ((Below.refl _ _).alloc (Nat.le_refl _) _) HI.out⟩ hs).mono ?_
          rintro e w1 ⟨rfl, rfl⟩
          rw [h0]
          go_wp2_with fail
          refine (l02Ok_any _ _).mono ?_
          rintro e w1 ⟨rfl, rfl⟩
          rw [h1]
          go_wp2_with fail
          refine (l03Note_any _ _).mono ?_
          rintro e w1 ⟨rfl, rfl⟩
          rw [h2]
          go_wp2_with fail
          refine (l02Ok_any _ _).mono ?_
          rintro e w1 ⟨rfl, rfl⟩
          rw [h3]
          go_wp2_with fail
          refine (l03Dev_any zs _ bb off cap p f q _ q1 p0 p1 f0 f1 HL.out HIN.out (by go_simp) (fun j hj => by rw [below_cell ((Below.refl _ _).alloc (Nat.le_refl _) _) _ _ hbb]; exact HC.out j hj)).mono ?_
          rintro e w1 ⟨rfl, hb⟩
          have HB := Lib.hid (below_of ((Below.refl _ _).alloc (Nat.le_refl _) _) hb (by simp))
          clear hb
          go_wp2
          go_ret2
          exact ⟨ret_pair2 R.out.1.symm R.out.2.symm, HB.out⟩
        · have R := Lib.hid (df_1 (s := s) (zs := zs) (p := p) (n := n) (f := f) h0 (by unfold dfB; rw [h3]; simp))
          go_enter Try.func11, Try.ntmps11
          go_wp2_with fail
          refine (l03Ok_any s v zs _ _ ⟨by go_simp, by go_simp, ints_kept ((Below.refl _ _).alloc (Nat.le_refl _) _) HI.out⟩ hs).mono ?_
          rintro e w1 ⟨rfl, rfl⟩
          rw [h0]
          go_wp2_with fail
          refine (l02Ok_any _ _).mono ?_
          rintro e w1 ⟨rfl, rfl⟩
          rw [h1]
          go_wp2_with fail
          refine (l03Note_any _ _).mono ?_
          rintro e w1 ⟨rfl, rfl⟩
          rw [h2]
          go_wp2_with fail
          refine (l02Ok_any _ _).mono ?_
          rintro e w1 ⟨rfl, rfl⟩
          rw [h3]
          go_wp2
          go_ret2
          exact ⟨ret_pair2 R.out.1.symm R.out.2.symm, (Below.refl _ _).alloc (Nat.le_refl _) _⟩
      · have R := Lib.hid (df_1 (s := s) (zs := zs) (p := p) (n := n) (f := f) h0 (by unfold dfB; rw [h2]; simp))
        go_enter Try.func11, Try.ntmps11
        go_wp2_with fail
        refine (l03Ok_any s v zs _ _ ⟨by go_simp, by go_simp, ints_kept ((Below.refl _ _).alloc (Nat.le_refl _) _) HI.out⟩ hs).mono ?_
        rintro e w1 ⟨rfl, rfl⟩
        rw [h0]
        go_wp2_with fail
        refine (l02Ok_any _ _).mono ?_
        rintro e w1 ⟨rfl, rfl⟩
        rw [h1]
        go_wp2_with fail
        refine (l03Note_any _ _).mono ?_
        rintro e w1 ⟨rfl, rfl⟩
        rw [h2]
        go_wp2
        go_ret2
        exact ⟨ret_pair2 R.out.1.symm R.out.2.symm, (Below.refl _ _).alloc (Nat.le_refl _) _⟩
    · have R := Lib.hid (df_1 (s := s) (zs := zs) (p := p) (n := n) (f := f) h0 (by unfold dfB; rw [h1]; simp))
      go_enter Try.func11, Try.ntmps11
      go_wp2_with fail
      refine (l03Ok_any s v zs _ _ ⟨by go_simp, by go_simp, ints_kept ((Below.refl _ _).alloc (Nat.le_refl _) _) HI.out⟩ hs).mono ?_
      rintro e w1 ⟨rfl, rfl⟩
      rw [h0]
      go_wp2_with fail
      refine (l02Ok_any _ _).mono ?_
      rintro e w1 ⟨rfl, rfl⟩
      rw [h1]
      go_wp2
      go_ret2
      exact ⟨ret_pair2 R.out.1.symm R.out.2.symm, (Below.refl _ _).alloc (Nat.le_refl _) _⟩
  · have R := Lib.hid (df_0 (p := p) (n := n) (f := f) h0)
    go_enter Try.func11, Try.ntmps11
    go_wp2_with fail
    refine (l03Ok_any s v zs _ _ ⟨by go_simp, by go_simp, ints_kept ((Below.refl _ _).alloc (Nat.le_refl _) _) HI.out⟩ hs).mono ?_
    rintro e w1 ⟨rfl, rfl⟩
    rw [h0]
    go_wp2
    go_ret2
    exact ⟨ret_pair2 R.out.1.symm R.out.2.symm, (Below.refl _ _).alloc (Nat.le_refl _) _⟩

theorem note_69 : noteB 69 = true := by decide
set_option maxHeartbeats 2000000 in
theorem implDF_any (s : ByteArray) (v : Value) (zs : List Int) (p n f : Int) (w : World) (h : IntsAt w v zs) (hs : s.size ≤ 9223372036854775807) :
    Calls Try.prog 12 #[.agg #[.string s, v], .int .i64 p, .int .i64 n, .int .i64 f] w fun e w' => e = .returned (.tuple #[.int .i64 (dfR s zs p n f), .int .i64 (dfC s zs p n f)]) ∧ Below w.heap.size w w' := by
  have HI := Lib.hid h
  obtain ⟨av, cv, rfl⟩ := ints_form h
  clear h
  rcases t_cases (tempB s zs) with h0 | h0
  · rcases t_cases (noteB n) with h2 | h2
    · have HNI := Lib.hid (ni_3 (s := s) (zs := zs) (a := 69) (b := n) h0 note_69 h2)
      rcases t_cases (ok2 p f) with h1 | h1
      · have HD : dfB p n f = true := by
          unfold ok2 at h1
          rw [Bool.and_eq_true] at h1
          unfold dfB; rw [h1.1, h1.2, h2]; rfl
        have R := Lib.hid (df_2 (s := s) (zs := zs) (p := p) (n := n) (f := f) h0 HD)
        have HCR := Lib.hid (show centsR p f = logV f - logV p by unfold centsR; rw [if_pos h1])
        have HCC := Lib.hid (show codeOf (ok2 p f) = 0 by rw [h1]; rfl)
        obtain ⟨⟨p0, p1⟩, f0, f1⟩ := ok2_iff.1 h1
        obtain ⟨hl, hin⟩ := temp_parts h0
        obtain ⟨q, q1, rfl⟩ := note_nat h2
        have HE := Lib.hid (show devN zs p f (q : Int).toNat = logV f - logV p - ivI zs 69 q from rfl)
        have b1 := log_bd (show 0 < p by omega) (by omega)
        have b2 := log_bd (show 0 < f by omega) (by omega)
        have b3 : -128000 ≤ ivI zs 69 q ∧ ivI zs 69 q ≤ 128000 := iv_bd hin hl 69 q (by omega) q1
        clear hl hin HD h0 h1 h2
        generalize ivI zs 69 q = i at *
        go_enter Try.func12, Try.ntmps12
        go_wp2_with fail
        refine (implNI_any s _ zs 69 q _ (ints_kept ((Below.refl _ _).alloc (Nat.le_refl _) _) HI.out) hs).mono ?_
        rintro e w1 ⟨rfl, hb⟩
        rw [HNI.out.1, HNI.out.2]
        have HB1 := Lib.hid (below_of ((Below.refl _ _).alloc (Nat.le_refl _) _) hb (by simp))
        clear hb
        go_wp2_with fail
        refine (implCentsBetween_any p f _).mono ?_
        rintro e w2 ⟨rfl, hb⟩
        rw [HCR.out, HCC.out]
        have HB2 := Lib.hid (below_of HB1.out hb HB1.out.size)
        clear hb
        go_wp2
        go_ret2
        exact ⟨ret_pair2 (by rw [R.out.1, HE.out]) R.out.2.symm, HB2.out⟩
      · have R := Lib.hid (df_1 (s := s) (zs := zs) (p := p) (n := n) (f := f) h0 (by
          unfold dfB
          rcases t_cases (okF p) with g | g
          · unfold ok2 at h1
            rw [g] at h1
            have : okF f = false := by simpa using h1
            rw [this]; simp
          · rw [g]; rfl))
        have HCR := Lib.hid (show centsR p f = 0 by unfold centsR; rw [h1]; rfl)
        have HCC := Lib.hid (show codeOf (ok2 p f) = 2 by rw [h1]; rfl)
        clear h0 h1 h2
        generalize ivI zs 69 n = i at *
        go_enter Try.func12, Try.ntmps12
        go_wp2_with fail
        refine (implNI_any s _ zs 69 n _ (ints_kept ((Below.refl _ _).alloc (Nat.le_refl _) _) HI.out) hs).mono ?_
        rintro e w1 ⟨rfl, hb⟩
        rw [HNI.out.1, HNI.out.2]
        have HB1 := Lib.hid (below_of ((Below.refl _ _).alloc (Nat.le_refl _) _) hb (by simp))
        clear hb
        go_wp2_with fail
        refine (implCentsBetween_any p f _).mono ?_
        rintro e w2 ⟨rfl, hb⟩
        rw [HCR.out, HCC.out]
        have HB2 := Lib.hid (below_of HB1.out hb HB1.out.size)
        clear hb
        go_wp2
        go_ret2
        exact ⟨ret_pair2 R.out.1.symm R.out.2.symm, HB2.out⟩
    · have HNI := Lib.hid (ni_2 (s := s) (zs := zs) (a := 69) (b := n) h0 h2)
      have R := Lib.hid (df_1 (s := s) (zs := zs) (p := p) (n := n) (f := f) h0 (by unfold dfB; rw [h2]; simp))
      go_enter Try.func12, Try.ntmps12
      go_wp2_with fail
      refine (implNI_any s _ zs 69 n _ (ints_kept ((Below.refl _ _).alloc (Nat.le_refl _) _) HI.out) hs).mono ?_
      rintro e w1 ⟨rfl, hb⟩
      rw [HNI.out.1, HNI.out.2]
      have HB1 := Lib.hid (below_of ((Below.refl _ _).alloc (Nat.le_refl _) _) hb (by simp))
      clear hb
      go_wp2
      go_ret2
      exact ⟨ret_pair2 R.out.1.symm R.out.2.symm, HB1.out⟩
  · have HNI := Lib.hid (ni_0 (s := s) (zs := zs) (a := 69) (b := n) h0)
    have R := Lib.hid (df_0 (p := p) (n := n) (f := f) h0)
    go_enter Try.func12, Try.ntmps12
    go_wp2_with fail
    refine (implNI_any s _ zs 69 n _ (ints_kept ((Below.refl _ _).alloc (Nat.le_refl _) _) HI.out) hs).mono ?_
    rintro e w1 ⟨rfl, hb⟩
    rw [HNI.out.1, HNI.out.2]
    have HB1 := Lib.hid (below_of ((Below.refl _ _).alloc (Nat.le_refl _) _) hb (by simp))
    clear hb
    go_wp2
    go_ret2
    exact ⟨ret_pair2 R.out.1.symm R.out.2.symm, HB1.out⟩
end Go.Proofs.Ytpfpdhgdeaoemac
