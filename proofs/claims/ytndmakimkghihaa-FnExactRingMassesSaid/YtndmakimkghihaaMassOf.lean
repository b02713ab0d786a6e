/- The mass of a profile: both walks. -/
import Derived.Test.YtndmakimkghihaaSumRVol
set_option linter.unusedVariables false
namespace Go.Proofs.Ytndmakimkghihaa
open Go.ChangeShapes Go.WideShapes Go.ChangeAt Go.RowKit

def askD (s : ByteArray) (rs : List Rg) (d : Int) : Int := if profB s rs = true then (if inB d 1000 20000 = true then 0 else 2) else 1
theorem askD_1 {s : ByteArray} {rs : List Rg} {d : Int} (h : profB s rs = false) : askD s rs d = 1 := by unfold askD; rw [h]; rfl
theorem askD_2 {s : ByteArray} {rs : List Rg} {d : Int} (h : profB s rs = true) (h2 : inB d 1000 20000 = false) : askD s rs d = 2 := by unfold askD; rw [if_pos h, h2]; rfl
theorem askD_0 {s : ByteArray} {rs : List Rg} {d : Int} (h : profB s rs = true) (h2 : inB d 1000 20000 = true) : askD s rs d = 0 := by unfold askD; rw [if_pos h, if_pos h2]
theorem askD_ok {s : ByteArray} {rs : List Rg} {d : Int} (h : askD s rs d = 0) : profB s rs = true ∧ 1000 ≤ d ∧ d ≤ 20000 := by
  unfold askD at h
  split at h
  · rename_i h1
    split at h
    · rename_i h2; exact ⟨h1, inB_iff.1 h2⟩
    · cases h
  · cases h
def massC (s : ByteArray) (rs : List Rg) (d : Int) : Int := if askD s rs d = 0 then massV (volP rs) d else 0
theorem prof_vol {s : ByteArray} {rs : List Rg} (h : profB s rs = true) : 3 ≤ volP rs ∧ volP rs ≤ 678584088000 := by
  obtain ⟨-, ⟨n1, n2⟩, -, -⟩ := prof_iff.1 h
  exact volP_bd (fun i hi => prof_ring h i hi) n1 n2
theorem l06Density_any (d : Int) (w : World) : Calls Try.prog 148 #[.int .i64 d] w fun e w' => e = .returned (.bool (inB d 1000 20000)) ∧ w = w' := by
  go_enter Try.func148, Try.ntmps148
  go_wp2_with (go_at_call 89; refine (l00In_any _ _ _ _).mono ?_; rintro e w' ⟨rfl, rfl⟩)
  go_ret
  exact ⟨rfl, rfl⟩
set_option maxRecDepth 20000 in
theorem l06Ask_any (p : Nat) (s : ByteArray) (v : Value) (rs : List Rg) (d : Int) (w : World) (hp : ProfIn w p s v) (HI : Hid (RingsAt w v rs)) (hs : s.size ≤ maxLen) :
    Calls Try.prog 101 #[.pointer (some ⟨p, 0, none⟩), .int .i64 d] w fun e w' => e = .returned (.int .i64 (askD s rs d)) ∧ Below w.heap.size w w' := by
  have HC := Lib.hid (l05Ok_any p s v rs w hp HI.out hs)
  rcases Bool.eq_false_or_eq_true (profB s rs) with h1 | h1
  · rcases Bool.eq_false_or_eq_true (inB d 1000 20000) with h2 | h2
    · have HR := Lib.hid (askD_0 h1 h2)
      clear hp
      go_enter Try.func101, Try.ntmps101
      go_wp2_with fail
      refine HC.out.mono ?_
      rintro e w1 ⟨rfl, hb⟩
      rw [h1]
      go_wp2_with (go_at_call 148; refine (l06Density_any d _).mono ?_; rintro e w' ⟨rfl, rfl⟩; rw [h2])
      go_ret
      exact ⟨ret_i64 HR.out.symm, hb⟩
    · have HR := Lib.hid (askD_2 h1 h2)
      clear hp
      go_enter Try.func101, Try.ntmps101
      go_wp2_with fail
      refine HC.out.mono ?_
      rintro e w1 ⟨rfl, hb⟩
      rw [h1]
      go_wp2_with (go_at_call 148; refine (l06Density_any d _).mono ?_; rintro e w' ⟨rfl, rfl⟩; rw [h2])
      go_ret
      exact ⟨ret_i64 HR.out.symm, hb⟩
  · have HR := Lib.hid (askD_1 (d := d) h1)
    clear hp
    go_enter Try.func101, Try.ntmps101
    go_wp2_with fail
    refine HC.out.mono ?_
    rintro e w1 ⟨rfl, hb⟩
    rw [h1]
    go_wp2
    go_ret
    exact ⟨ret_i64 HR.out.symm, hb⟩
set_option maxRecDepth 20000 in
theorem weighing_any (s : ByteArray) (v : Value) (rs : List Rg) (d : Int) (w : World) (h : RingsAt w v rs) (hs : s.size ≤ maxLen) :
    Calls Try.prog 103 #[.agg #[.string s, v], .int .i64 d] w fun e w' => e = .returned (.int .i64 (askD s rs d)) ∧ Below w.heap.size w w' := by
  have HI := Lib.hid h
  obtain ⟨a, c, rfl⟩ := rings_form h
  clear h
  have hall : allIn 1000 20000 [d] = inB d 1000 20000 := all_one _ _ _
  have HC := Lib.hid (implValidP_any s (.slice a rs.length c) rs _ (rings_kept (below_al w (.cells #[.string s, .slice a rs.length c] 48)) HI.out) hs)
  generalize hn : rs.length = n at *
  clear hn
  rcases Bool.eq_false_or_eq_true (profB s rs) with h1 | h1
  · rcases Bool.eq_false_or_eq_true (inB d 1000 20000) with h2 | h2
    · have HR := Lib.hid (askD_0 h1 h2)
      go_enter Try.func103, Try.ntmps103
      go_wp2_with fail
      refine HC.out.mono ?_
      rintro e w1 ⟨rfl, hb⟩
      rw [h1]
      have HB := Lib.hid (below_of (below_al _ _) hb (by simp))
      clear hb
      go_wp2_with fail
      refine (within_i64 _ _ [d] _ 0 1 1 _ rfl (by omega) (cell_int _ _ _ _ (by simp))).mono ?_
      rintro e w2 ⟨rfl, rfl⟩
      rw [hall, h2]
      go_wp2
      go_ret
      exact ⟨ret_i64 HR.out.symm, HB.out.alloc HB.out.size _⟩
    · have HR := Lib.hid (askD_2 h1 h2)
      go_enter Try.func103, Try.ntmps103
      go_wp2_with fail
      refine HC.out.mono ?_
      rintro e w1 ⟨rfl, hb⟩
      rw [h1]
      have HB := Lib.hid (below_of (below_al _ _) hb (by simp))
      clear hb
      go_wp2_with fail
      refine (within_i64 _ _ [d] _ 0 1 1 _ rfl (by omega) (cell_int _ _ _ _ (by simp))).mono ?_
      rintro e w2 ⟨rfl, rfl⟩
      rw [hall, h2]
      go_wp2
      go_ret
      exact ⟨ret_i64 HR.out.symm, HB.out.alloc HB.out.size _⟩
  · have HR := Lib.hid (askD_1 (d := d) h1)
    go_enter Try.func103, Try.ntmps103
    go_wp2_with fail
    refine HC.out.mono ?_
    rintro e w1 ⟨rfl, hb⟩
    rw [h1]
    have HB := Lib.hid (below_of (below_al _ _) hb (by simp))
    clear hb
    go_wp2
    go_ret
    exact ⟨ret_i64 HR.out.symm, HB.out⟩
theorem mass_ok {s : ByteArray} {rs : List Rg} {d : Int} (h : askD s rs d = 0) : massC s rs d = massV (volP rs) d := by unfold massC; rw [if_pos h]
theorem mass_no {s : ByteArray} {rs : List Rg} {d : Int} (h : askD s rs d ≠ 0) : massC s rs d = 0 := by unfold massC; rw [if_neg h]
end Go.Proofs.Ytndmakimkghihaa
