/- The mass of a profile: both walks. -/
import Derived.Test.YtgnnpimfcbkloaaSumRVol
set_option linter.unusedVariables false
namespace Go.Proofs.Ytgnnpimfcbkloaa
open Go.ChangeShapes Go.WideShapes Go.ChangeAt Go.RowKit

def askD (s : ByteArray) (rs : List Rg) (d : Int) : Int := if profB s rs = true then (if inB d 1000 20000 = true then 0 else 2) else 1
theorem askD_1 {s : ByteArray} {rs : List Rg} {d : Int} (h : profB s rs = false) : askD s rs d = 1 := by unfold askD; rw [h]; rfl
theorem askD_2 {s : ByteArray} {rs : List Rg} {d : Int} (h : profB s rs = true) (h2 : inB d 1000 20000 = false) : askD s rs d = 2 := by unfold askD; rw [if_pos h, h2]; rfl
theorem askD_0 {s : ByteArray} {rs : List Rg} {d : Int} (h : profB s rs = true) (h2 : inB d 1000 20000 = true) : askD s rs d = 0 := by unfold askD; rw [if_pos h, if_pos h2]
theorem askD_ok {s : ByteArray} {rs : List Rg} {d : Int} (h : askD s rs d = 0) : profB s rs = true ∧ 1000 ≤ d ∧ d ≤ 20000 := by
  unfold askD at h
  split at h
  · rename_i h1
    split at h
    · rename_i h2; exact ⟨h1, inB_iff.1 h2⟩
    · cases h
  · cases h
def massC (s : ByteArray) (rs : List Rg) (d : Int) : Int := if askD s rs d = 0 then massV (volP rs) d else 0
theorem prof_vol {s : ByteArray} {rs : List Rg} (h : profB s rs = true) : 3 ≤ volP rs ∧ volP rs ≤ 678584088000 := by
  obtain ⟨-, ⟨n1, n2⟩, -, -⟩ := prof_iff.1 h
  exact volP_bd (fun i hi => prof_ring h i hi) n1 n2
theorem l06Density_any (d : Int) (w : World) : Calls Try.prog 103 #[.int .i64 d] w fun e w' => e = .returned (.bool (inB d 1000 20000)) ∧ w = w' := by
  go_enter Try.func103, Try.ntmps103
  go_wp2_with (go_at_call 79; refine (l00In_any _ _ _ _).mono ?_; rintro e w' ⟨rfl, rfl⟩)
  go_ret
  exact ⟨rfl, rfl⟩
set_option maxRecDepth 20000 in
theorem l06Ask_any (p : Nat) (s : ByteArray) (v : Value) (rs : List Rg) (d : Int) (w : World) (hp : ProfIn w p s v) (HI : Hid (RingsAt w v rs)) (hs : s.size ≤ maxLen) :
    Calls Try.prog 65 #[.pointer (some ⟨p, 0, none⟩), .int .i64 d] w fun e w' => e = .returned (.int .i64 (askD s rs d)) ∧ Below w.heap.size w w' := by
  have HC := Lib.hid (l05Ok_any p s v rs w hp HI.out hs)
  rcases Bool.eq_false_or_eq_true (profB s rs) with h1 | h1
  · rcases Bool.eq_false_or_eq_true (inB d 1000 20000) with h2 | h2
    · have HR := Lib.hid (askD_0 h1 h2)
      clear hp
      go_enter Try.func65, Try.ntmps65
      go_wp2_with fail
      refine HC.out.mono ?_
      rintro e w1 ⟨rfl, hb⟩
      rw [h1]
      go_wp2_with (go_at_call 103; refine (l06Density_any d _).mono ?_; rintro e w' ⟨rfl, rfl⟩; rw [h2])
      go_ret
      exact ⟨ret_i64 HR.out.symm, hb⟩
    · have HR := Lib.hid (askD_2 h1 h2)
      clear hp
      go_enter Try.func65, Try.ntmps65
      go_wp2_with fail
      refine HC.out.mono ?_
      rintro e w1 ⟨rfl, hb⟩
      rw [h1]
      go_wp2_with (go_at_call 103; refine (l06Density_any d _).mono ?_; rintro e w' ⟨rfl, rfl⟩; rw [h2])
      go_ret
      exact ⟨ret_i64 HR.out.symm, hb⟩
  · have HR := Lib.hid (askD_1 (d := d) h1)
    clear hp
    go_enter Try.func65, Try.ntmps65
    go_wp2_with fail
    refine HC.out.mono ?_
    rintro e w1 ⟨rfl, hb⟩
    rw [h1]
    go_wp2
    go_ret
    exact ⟨ret_i64 HR.out.symm, hb⟩
theorem l06Mass_some (p b off cap n : Nat) (s : ByteArray) (rs : List Rg) (d : Int) (w : World) (hn : rs.length = n) (h1 : 1 ≤ n) (hn1 : n ≤ 32) (hpl : p < w.heap.size) (hbl : b < w.heap.size) (hp : ProfIn w p s (.slice (some ⟨b, off, none⟩) n cap)) (hc : ∀ i, i < n → RingIn w b (off + i * 3) (rs.getD i zR)) (hR : ∀ i, i < rs.length → ringB (rs.getD i zR) = true) (d0 : 0 ≤ d) (d1 : d ≤ 20000) :
    Calls Try.prog 66 #[.pointer (some ⟨p, 0, none⟩), .int .i64 d] w fun e w' => e = .returned (.int .i64 (massV (volP rs) d)) ∧ Below w.heap.size w w' := by
  have HC := Lib.hid (l06Volume_some p b off cap n s rs w hn hn1 hpl hbl hp hc hR)
  have hv := volP_bd hR (by omega) (by omega)
  obtain ⟨⟨m0, m1⟩, -⟩ := mass_bd (v := volP rs) (M := 678584088000) (by omega) hv.2 d0 d1
  have HM := Lib.hid (show massV (volP rs) d = nq (volP rs * d) 1000000 from rfl)
  have HT := Lib.hid (fun w => specDiv_any (volP rs * d) 1000000 w (by omega) (by omega) (by omega))
  clear hp hc hR
  generalize volP rs = q at *
  go_enter Try.func66, Try.ntmps66
  go_wp2_with fail
  refine HC.out.mono ?_
  rintro e w1 ⟨rfl, hb⟩
  go_wp2_with (go_at_call 49; refine (HT.out _).mono ?_; rintro e w' ⟨rfl, rfl⟩)
  go_ret
  exact ⟨ret_i64 HM.out.symm, hb⟩
set_option maxRecDepth 20000 in
theorem weighing_any (s : ByteArray) (v : Value) (rs : List Rg) (d : Int) (w : World) (h : RingsAt w v rs) (hs : s.size ≤ maxLen) :
    Calls Try.prog 67 #[.agg #[.string s, v], .int .i64 d] w fun e w' => e = .returned (.int .i64 (askD s rs d)) ∧ Below w.heap.size w w' := by
  have HI := Lib.hid h
  obtain ⟨a, c, rfl⟩ := rings_form h
  clear h
  have hall : allIn 1000 20000 [d] = inB d 1000 20000 := all_one _ _ _
  have HC := Lib.hid (implValidP_any s (.slice a rs.length c) rs _ (rings_kept (below_al w (.cells #[.string s, .slice a rs.length c] 36)) HI.out) hs)
  generalize hn : rs.length = n at *
  clear hn
  rcases Bool.eq_false_or_eq_true (profB s rs) with h1 | h1
  · rcases Bool.eq_false_or_eq_true (inB d 1000 20000) with h2 | h2
    · have HR := Lib.hid (askD_0 h1 h2)
      go_enter Try.func67, Try.ntmps67
      go_wp2_with fail
      refine HC.out.mono ?_
      rintro e w1 ⟨rfl, hb⟩
      rw [h1]
      have HB := Lib.hid (below_of (below_al _ _) hb (by simp))
      clear hb
      go_wp2_with fail
      refine (within_i64 _ _ [d] _ 0 1 1 _ rfl (by omega) (cell_int _ _ _ _ (by simp))).mono ?_
      rintro e w2 ⟨rfl, rfl⟩
      rw [hall, h2]
      go_wp2
      go_ret
      exact ⟨ret_i64 HR.out.symm, HB.out.alloc HB.out.size _⟩
    · have HR := Lib.hid (askD_2 h1 h2)
      go_enter Try.func67, Try.ntmps67
      go_wp2_with fail
      refine HC.out.mono ?_
      rintro e w1 ⟨rfl, hb⟩
      rw [h1]
      have HB := Lib.hid (below_of (below_al _ _) hb (by simp))
      clear hb
      go_wp2_with fail
      refine (within_i64 _ _ [d] _ 0 1 1 _ rfl (by omega) (cell_int _ _ _ _ (by simp))).mono ?_
      rintro e w2 ⟨rfl, rfl⟩
      rw [hall, h2]
      go_wp2
      go_ret
      exact ⟨ret_i64 HR.out.symm, HB.out.alloc HB.out.size _⟩
  · have HR := Lib.hid (askD_1 (d := d) h1)
    go_enter Try.func67, Try.ntmps67
    go_wp2_with fail
    refine HC.out.mono ?_
    rintro e w1 ⟨rfl, hb⟩
    rw [h1]
    have HB := Lib.hid (below_of (below_al _ _) hb (by simp))
    clear hb
    go_wp2
    go_ret
    exact ⟨ret_i64 HR.out.symm, HB.out⟩
theorem mass_ok {s : ByteArray} {rs : List Rg} {d : Int} (h : askD s rs d = 0) : massC s rs d = massV (volP rs) d := by unfold massC; rw [if_pos h]
theorem mass_no {s : ByteArray} {rs : List Rg} {d : Int} (h : askD s rs d ≠ 0) : massC s rs d = 0 := by unfold massC; rw [if_neg h]
set_option maxRecDepth 20000 in
set_option maxHeartbeats 1000000 in
theorem specMassOf_any (s : ByteArray) (v : Value) (rs : List Rg) (d : Int) (w : World) (h : RingsAt w v rs) (hs : s.size ≤ maxLen) :
    Calls Try.prog 27 #[.agg #[.string s, v], .int .i64 d] w fun e w' => e = .returned (.tuple #[.int .i64 (massC s rs d), .int .i64 (askD s rs d)]) ∧ Below w.heap.size w w' := by
  have HI := Lib.hid h
  obtain ⟨a, c, rfl⟩ := rings_form h
  clear h
  have hal := alloc_lt2 w (.cells #[.string s, .slice a rs.length c] 36)
  have hpa := prof_alloc w s (.slice a rs.length c) 36
  have HBA := Lib.hid (below_al w (.cells #[.string s, .slice a rs.length c] 36))
  have HIA := Lib.hid (rings_kept HBA.out HI.out)
  by_cases hk : askD s rs d = 0
  · obtain ⟨hp, d0, d1⟩ := askD_ok hk
    have HK := Lib.hid hk
    have HM := Lib.hid (mass_ok hk)
    have HP := Lib.hid hp
    obtain ⟨-, ⟨n1, n2⟩, -, -⟩ := prof_iff.1 hp
    clear hp hk
    generalize hn : rs.length = n at *
    have HN := Lib.hid hn
    clear hn
    go_enter Try.func27, Try.ntmps27
    go_wp2_with fail
    generalize w.alloc (.cells #[.string s, .slice a n c] 36) = wA at *
    refine (l06Ask_any _ s _ rs d _ hpa HIA hs).mono ?_
    rintro e w1 ⟨rfl, hb⟩
    rw [HK.out]
    have hp1 := prof_keep hb hal hpa
    have HI1 := Lib.hid (rings_kept hb HIA.out)
    have HB := Lib.hid (below_of HBA.out hb HBA.out.size)
    have hl1 := Nat.lt_of_lt_of_le hal hb.size
    clear hb hpa
    obtain ⟨b, off, rfl, hbl, hr⟩ := rings_lie HN.out n1 HI1.out
    have HC := Lib.hid (l06Mass_some _ b off c n s rs d _ HN.out n1 n2 hl1 hbl hp1 hr (fun i hi => prof_ring HP.out i hi) (by omega) d1)
    clear hr
    go_wp2_with fail
    refine HC.out.mono ?_
    rintro e w2 ⟨rfl, hb⟩
    have HB2 := Lib.hid (below_of HB.out hb HB.out.size)
    clear hb
    rw [← HM.out]
    obtain ⟨y, hy⟩ : ∃ y, massC s rs d = y := ⟨_, rfl⟩
    have HY := Lib.hid hy
    rw [hy]
    clear hy
    go_wp2
    go_ret2
    exact ⟨ret_two HY.out.symm HK.out.symm, HB2.out⟩
  · have HM := Lib.hid (mass_no hk)
    obtain ⟨k, hk2⟩ : ∃ k, askD s rs d = k := ⟨_, rfl⟩
    rw [hk2] at hk
    have HK := Lib.hid hk2
    clear hk2
    have hkb : (k != 0) = true := by simpa using hk
    generalize hn : rs.length = n at *
    clear hn
    go_enter Try.func27, Try.ntmps27
    go_wp2_with fail
    generalize w.alloc (.cells #[.string s, .slice a n c] 36) = wA at *
    refine (l06Ask_any _ s _ rs d _ hpa HIA hs).mono ?_
    rintro e w1 ⟨rfl, hb⟩
    rw [HK.out]
    have HB := Lib.hid (below_of HBA.out hb HBA.out.size)
    clear hb hpa
    go_wp2
    go_ret2
    exact ⟨ret_two HM.out.symm HK.out.symm, HB.out⟩
set_option maxRecDepth 20000 in
set_option maxHeartbeats 1000000 in
theorem implMassOf_any (s : ByteArray) (v : Value) (rs : List Rg) (d : Int) (w : World) (h : RingsAt w v rs) (hs : s.size ≤ maxLen) :
    Calls Try.prog 28 #[.agg #[.string s, v], .int .i64 d] w fun e w' => e = .returned (.tuple #[.int .i64 (massC s rs d), .int .i64 (askD s rs d)]) ∧ Below w.heap.size w w' := by
  have HI := Lib.hid h
  obtain ⟨a, c, rfl⟩ := rings_form h
  clear h
  have hal := alloc_lt2 w (.cells #[.string s, .slice a rs.length c] 36)
  have hpa := prof_alloc w s (.slice a rs.length c) 36
  have HBA := Lib.hid (below_al w (.cells #[.string s, .slice a rs.length c] 36))
  have HIA := Lib.hid (rings_kept HBA.out HI.out)
  by_cases hk : askD s rs d = 0
  · obtain ⟨hp, d0, d1⟩ := askD_ok hk
    have HK := Lib.hid hk
    have HM := Lib.hid (mass_ok hk)
    have HV := Lib.hid (show volC s rs = volP rs ∧ codeP s rs = 0 by unfold volC codeP; rw [if_pos hp, if_pos hp]; exact ⟨rfl, rfl⟩)
    have hv := prof_vol hp
    have HT := Lib.hid (fun w => massOf_any (volP rs) d w (by omega) (by omega) (by omega) d1)
    clear hp hk
    generalize hn : rs.length = n at *
    clear hn
    go_enter Try.func28, Try.ntmps28
    go_wp2_with fail
    generalize w.alloc (.cells #[.string s, .slice a n c] 36) = wA at *
    refine (weighing_any s _ rs d _ HIA.out hs).mono ?_
    rintro e w1 ⟨rfl, hb⟩
    rw [HK.out]
    obtain ⟨q0, q1⟩ := prof_keep hb hal hpa
    have HI1 := Lib.hid (rings_kept hb HIA.out)
    have HB := Lib.hid (below_of HBA.out hb HBA.out.size)
    clear hb hpa
    go_wp2_with fail
    refine (implVolumeOf_any s _ rs _ HI1.out hs).mono ?_
    rintro e w2 ⟨rfl, hb⟩
    rw [HV.out.1, HV.out.2]
    have HB2 := Lib.hid (below_of HB.out hb HB.out.size)
    clear hb
    go_wp2_with (go_at_call 68; refine (HT.out _).mono ?_; rintro e w3 ⟨rfl, hb⟩; rw [← HM.out]; have HB3 := Lib.hid (below_of HB2.out hb HB2.out.size); clear hb; obtain ⟨y, hy⟩ : ∃ y, massC s rs d = y := ⟨_, rfl⟩; have HY := Lib.hid hy; rw [hy]; clear hy)
    go_ret2
    exact ⟨ret_two HY.out.symm HK.out.symm, HB3.out⟩
  · have HM := Lib.hid (mass_no hk)
    obtain ⟨k, hk2⟩ : ∃ k, askD s rs d = k := ⟨_, rfl⟩
    rw [hk2] at hk
    have HK := Lib.hid hk2
    clear hk2
    have hkb : (k != 0) = true := by simpa using hk
    generalize hn : rs.length = n at *
    clear hn
    go_enter Try.func28, Try.ntmps28
    go_wp2_with fail
    generalize w.alloc (.cells #[.string s, .slice a n c] 36) = wA at *
    refine (weighing_any s _ rs d _ HIA.out hs).mono ?_
    rintro e w1 ⟨rfl, hb⟩
    rw [HK.out]
    have HB := Lib.hid (below_of HBA.out hb HBA.out.size)
    clear hb hpa
    go_wp2
    go_ret2
    exact ⟨ret_two HM.out.symm HK.out.symm, HB.out⟩
end Go.Proofs.Ytgnnpimfcbkloaa
