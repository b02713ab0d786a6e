/- SoundOf: the program's answer. -/
import Derived.Test.YtpjopfhkgegahaaGreatModPart
import Derived.Test.YtpjopfhkgegahaaGreatSndValid
import Derived.Test.YtpjopfhkgegahaaGreatSndPart
set_option linter.unusedVariables false
namespace Go.Proofs.YtpjopfhkgegahaaGreat
open Go.ChangeShapes Go.WideShapes Go.ChangeAt Go.RowKit

theorem sofV_form (zs : List Int) (ws : List (List Int)) (bs : List Int) (s : ByteArray) (rs : List Rg) : ∃ a b c e f : Int, sofV zs ws bs s rs = .agg #[.int .i64 a, .int .i64 b, .int .i64 c, .int .i64 e, .int .i64 f] := by
  unfold sofV
  split
  · exact ⟨_, _, _, _, _, rfl⟩
  · exact ⟨0, 0, 0, 0, 0, rfl⟩
set_option maxRecDepth 20000 in
set_option maxHeartbeats 4000000 in
theorem implSO_any (v0 v1 v2 v : Value) (zs : List Int) (ws : List (List Int)) (bs : List Int) (s : ByteArray) (rs : List Rg) (w : World) (h0 : IntsAt w v0 zs) (h1 : RowsAt w v1 ws) (h2 : IntsAt w v2 bs) (hv : RingsW w v rs) (hs : s.size ≤ maxLen) :
    Calls Tryz.prog 56 #[.agg #[v0, v1, v2], .agg #[.string s, v]] w fun e w' => e = .returned (.tuple #[sofV zs ws bs s rs, .int .i64 (sofC zs ws bs s rs)]) ∧ Below w.heap.size w w' := by
  have hba : Below w.heap.size w (((w.alloc (.cells #[v0, v1, v2] 38)).alloc (.cells #[.string s, v] 42)).alloc (.cells #[.int .i64 0, .int .i64 0, .int .i64 0, .int .i64 0, .int .i64 0] 44)) := ((below_al _ _).alloc (by simp) _).alloc (by simp; omega) _
  have hcl : CleanZ (((w.alloc (.cells #[v0, v1, v2] 38)).alloc (.cells #[.string s, v] 42)).alloc (.cells #[.int .i64 0, .int .i64 0, .int .i64 0, .int .i64 0, .int .i64 0] 44)) (w.heap.size + 2) := ⟨⟨by go_simp, by go_simp, by go_simp, by go_simp, by go_simp⟩, by go_simp, by go_simp, by go_simp, by go_simp, by go_simp⟩
  have hml : w.heap.size + 2 < (((w.alloc (.cells #[v0, v1, v2] 38)).alloc (.cells #[.string s, v] 42)).alloc (.cells #[.int .i64 0, .int .i64 0, .int .i64 0, .int .i64 0, .int .i64 0] 44)).heap.size := by simp
  have HBA := Lib.hid hba
  have HCL := Lib.hid (fun W (hW : Below (((w.alloc (.cells #[v0, v1, v2] 38)).alloc (.cells #[.string s, v] 42)).alloc (.cells #[.int .i64 0, .int .i64 0, .int .i64 0, .int .i64 0, .int .i64 0] 44)).heap.size (((w.alloc (.cells #[v0, v1, v2] 38)).alloc (.cells #[.string s, v] 42)).alloc (.cells #[.int .i64 0, .int .i64 0, .int .i64 0, .int .i64 0, .int .i64 0] 44)) W) => cleanZ_kept hW hml hcl)
  by_cases h : askM zs ws bs s rs = 0
  · obtain ⟨q1, q2, q3⟩ := askM_ok h
    have HMD := Lib.hid (modelled_ok v0 v1 v2 v zs ws bs s rs _ (ints_kept hba h0) (mrows_kept hba h1) (ints_kept hba h2) (rings_kept hba hv.1) hs (Lib.hid q1) q2 q3)
    have HPT := Lib.hid (fun W (hW : Below w.heap.size w W) => partials_any s v v0 v1 v2 zs ws bs rs W (ringsW_kept hW hv) hs (ints_kept hW h0) (mrows_kept hW h1) (ints_kept hW h2) q1 q2 q3)
    have HSB := Lib.hid (show sofB zs ws bs rs = sndB (rawK zs ws bs rs 0) (rawK zs ws bs rs 1) (rawK zs ws bs rs 2) (rawK zs ws bs rs 3) (rawK zs ws bs rs 4) from rfl)
    have HS0 := Lib.hid (fun h2 => sof_0 (zs := zs) (ws := ws) (bs := bs) (rs := rs) h h2)
    have HS6 := Lib.hid (fun h2 => sof_6 (zs := zs) (ws := ws) (bs := bs) (rs := rs) h h2)
    obtain ⟨a0, k0, rfl⟩ := ints_form h0
    obtain ⟨a1, k1, rfl⟩ := mrows_form h1
    obtain ⟨a2, k2, rfl⟩ := ints_form h2
    obtain ⟨av, cv, rfl⟩ := rings_form hv.1
    clear hba hcl h0 h1 h2 hv h q1 q2 q3
    generalize zs.length = nz at *
    generalize ws.length = nw at *
    generalize bs.length = nb at *
    generalize rs.length = nr at *
    generalize rawK zs ws bs rs 0 = r0 at *
    generalize rawK zs ws bs rs 1 = r1 at *
    generalize rawK zs ws bs rs 2 = r2 at *
    generalize rawK zs ws bs rs 3 = r3 at *
    generalize rawK zs ws bs rs 4 = r4 at *
    go_enter Tryz.func56, Tryz.ntmps56
    go_wp2_with fail
    generalize (((w.alloc (.cells #[.slice a0 nz k0, .slice a1 nw k1, .slice a2 nb k2] 38)).alloc (.cells #[.string s, .slice av nr cv] 42)).alloc (.cells #[.int .i64 0, .int .i64 0, .int .i64 0, .int .i64 0, .int .i64 0] 44)) = wA at *
    refine HMD.out.mono ?_
    rintro e w1 ⟨rfl, hb⟩
    have HB1 := Lib.hid hb
    have hbx := below_al w1 (.cells #[.string s, .slice av nr cv, .slice a0 nz k0, .slice a0 nz k0, .slice a1 nw k1, .slice a2 nb k2] 95)
    have HBX := Lib.hid (below_of HB1.out hbx HB1.out.size)
    clear hb hbx
    go_wp2_with fail
    refine (HPT.out _ (below_of HBA.out HBX.out HBA.out.size)).mono ?_
    rintro e w3 ⟨rfl, hb⟩
    have HB3 := Lib.hid (below_of HBX.out hb HBX.out.size)
    have HB4 := Lib.hid (HB3.out.alloc HB3.out.size (.cells #[.int .i64 r0, .int .i64 r1, .int .i64 r2, .int .i64 r3, .int .i64 r4] 101))
    have e0 : (w3.alloc (.cells #[.int .i64 r0, .int .i64 r1, .int .i64 r2, .int .i64 r3, .int .i64 r4] 101)).cell? ⟨w3.heap.size, 0, none⟩ = some (.int .i64 r0) := by go_simp
    have e1 : (w3.alloc (.cells #[.int .i64 r0, .int .i64 r1, .int .i64 r2, .int .i64 r3, .int .i64 r4] 101)).cell? ⟨w3.heap.size, 1, none⟩ = some (.int .i64 r1) := by go_simp
    have e2 : (w3.alloc (.cells #[.int .i64 r0, .int .i64 r1, .int .i64 r2, .int .i64 r3, .int .i64 r4] 101)).cell? ⟨w3.heap.size, 2, none⟩ = some (.int .i64 r2) := by go_simp
    have e3 : (w3.alloc (.cells #[.int .i64 r0, .int .i64 r1, .int .i64 r2, .int .i64 r3, .int .i64 r4] 101)).cell? ⟨w3.heap.size, 3, none⟩ = some (.int .i64 r3) := by go_simp
    have e4 : (w3.alloc (.cells #[.int .i64 r0, .int .i64 r1, .int .i64 r2, .int .i64 r3, .int .i64 r4] 101)).cell? ⟨w3.heap.size, 4, none⟩ = some (.int .i64 r4) := by go_simp
    have hl4 := alloc_lt2 w3 (.cells #[.int .i64 r0, .int .i64 r1, .int .i64 r2, .int .i64 r3, .int .i64 r4] 101)
    clear hb
    go_wp2_with fail
    generalize w3.alloc (.cells #[.int .i64 r0, .int .i64 r1, .int .i64 r2, .int .i64 r3, .int .i64 r4] 101) = w4 at *
    refine (pvalid_any r0 r1 r2 r3 r4 _).mono ?_
    rintro e w5 ⟨rfl, hb⟩
    have k0 := (below_cell hb _ _ hl4).trans e0
    have k1 := (below_cell hb _ _ hl4).trans e1
    have k2 := (below_cell hb _ _ hl4).trans e2
    have k3 := (below_cell hb _ _ hl4).trans e3
    have k4 := (below_cell hb _ _ hl4).trans e4
    have HB5 := Lib.hid (below_of HB4.out hb HB4.out.size)
    clear hb e0 e1 e2 e3 e4
    rcases Bool.eq_false_or_eq_true (sndB r0 r1 r2 r3 r4) with h5 | h5
    · have HR := Lib.hid (HS0.out (by rw [HSB.out]; exact h5))
      rw [h5]
      clear h5
      go_wp2_with fail
      refine (psound_any r0 r1 r2 r3 r4 _).mono ?_
      rintro e w6 ⟨rfl, hb⟩
      have HB6 := Lib.hid (below_of HB5.out hb HB5.out.size)
      obtain ⟨⟨b0, b1, b2, b3, b4⟩, f0, f1, f2, f3, f4⟩ := HCL.out _ HB6.out
      have HBF := Lib.hid (below_of HBA.out HB6.out HBA.out.size)
      clear hb
      go_wp2
      try simp only [Exit.inBlock, Exit.then]
      refine bodyPost_ret_by (v := .tuple #[.agg #[.int .i64 r0, .int .i64 r1, .int .i64 r2, .int .i64 r3, .int .i64 r4], .int .i64 0]) (by rw [results_cell_tmp rfl]; go_simp) rfl ?_
      exact ⟨ret_sof HR.out.2.symm HR.out.1.symm, set5 HBF.out (by omega) _ _ _ _ _⟩
    · have HR := Lib.hid (HS6.out (by rw [HSB.out]; exact h5))
      rw [h5]
      clear h5
      obtain ⟨⟨b0, b1, b2, b3, b4⟩, f0, f1, f2, f3, f4⟩ := HCL.out _ HB5.out
      have HBF := Lib.hid (below_of HBA.out HB5.out HBA.out.size)
      go_wp2
      try simp only [Exit.inBlock, Exit.then]
      refine bodyPost_ret_by (v := .tuple #[.agg #[.int .i64 0, .int .i64 0, .int .i64 0, .int .i64 0, .int .i64 0], .int .i64 6]) (by rw [results_cell_tmp rfl]; go_simp) rfl ?_
      exact ⟨ret_sof HR.out.2.symm HR.out.1.symm, set5 HBF.out (by omega) _ _ _ _ _⟩
  · have HR := Lib.hid (sof_n h)
    have HMD : Hid (Calls Tryz.prog 54 #[.agg #[v0, v1, v2], .agg #[.string s, v]] (((w.alloc (.cells #[v0, v1, v2] 38)).alloc (.cells #[.string s, v] 42)).alloc (.cells #[.int .i64 0, .int .i64 0, .int .i64 0, .int .i64 0, .int .i64 0] 44)) fun e w' => e = .returned (.tuple #[.agg #[.string ⟨#[]⟩, .slice none 0 0, .slice none 0 0, .slice none 0 0, .slice none 0 0, .slice none 0 0], .int .i64 (askM zs ws bs s rs)]) ∧ Below (((w.alloc (.cells #[v0, v1, v2] 38)).alloc (.cells #[.string s, v] 42)).alloc (.cells #[.int .i64 0, .int .i64 0, .int .i64 0, .int .i64 0, .int .i64 0] 44)).heap.size (((w.alloc (.cells #[v0, v1, v2] 38)).alloc (.cells #[.string s, v] 42)).alloc (.cells #[.int .i64 0, .int .i64 0, .int .i64 0, .int .i64 0, .int .i64 0] 44)) w') := by
      rcases Bool.eq_false_or_eq_true (modB zs ws bs) with q1 | q1
      · have hC : ¬ (profB s rs = true ∧ fitB rs.length zs = true) := fun hc => h (askM_0 q1 hc.1 hc.2)
        have e : askM zs ws bs s rs = zwC s rs zs := by unfold askM zwC; rcases Bool.eq_false_or_eq_true (profB s rs) with q2 | q2 <;> simp [q1, q2]
        rw [e]
        exact Lib.hid (modelled_no v0 v1 v2 v zs ws bs s rs _ (ints_kept hba h0) (mrows_kept hba h1) (ints_kept hba h2) (rings_kept hba hv.1) hs (Lib.hid q1) hC)
      · have e : askM zs ws bs s rs = 1 := askM_1 (fun hc => by rw [q1] at hc; exact absurd hc.1 (by simp))
        rw [e]
        obtain ⟨av, cv, hvv⟩ := rings_form hv.1
        exact Lib.hid (modelled_bad v0 v1 v2 v zs ws bs s _ (ints_kept hba h0) (mrows_kept hba h1) (ints_kept hba h2) ⟨_, _, _, hvv⟩ (Lib.hid q1))
    obtain ⟨z, hz⟩ : ∃ z, askM zs ws bs s rs = z := ⟨_, rfl⟩
    rw [hz] at h HR HMD
    have hne : (z != 0) = true := bne_iff_ne.2 h
    obtain ⟨a0, k0, rfl⟩ := ints_form h0
    obtain ⟨a1, k1, rfl⟩ := mrows_form h1
    obtain ⟨a2, k2, rfl⟩ := ints_form h2
    obtain ⟨av, cv, rfl⟩ := rings_form hv.1
    clear hba hcl h0 h1 h2 hv h hz
    generalize zs.length = nz at *
    generalize ws.length = nw at *
    generalize bs.length = nb at *
    generalize rs.length = nr at *
    go_enter Tryz.func56, Tryz.ntmps56
    go_wp2_with fail
    generalize (((w.alloc (.cells #[.slice a0 nz k0, .slice a1 nw k1, .slice a2 nb k2] 38)).alloc (.cells #[.string s, .slice av nr cv] 42)).alloc (.cells #[.int .i64 0, .int .i64 0, .int .i64 0, .int .i64 0, .int .i64 0] 44)) = wA at *
    refine HMD.out.mono ?_
    rintro e w1 ⟨rfl, hb⟩
    have hbx := below_of hb (below_al w1 (.cells #[.string ⟨#[]⟩, .slice none 0 0, .slice none 0 0, .slice none 0 0, .slice none 0 0, .slice none 0 0] 95)) hb.size
    obtain ⟨⟨b0, b1, b2, b3, b4⟩, f0, f1, f2, f3, f4⟩ := HCL.out _ hbx
    have HBF := Lib.hid (below_of HBA.out hbx HBA.out.size)
    clear hb hbx
    go_wp2
    try simp only [Exit.inBlock, Exit.then]
    refine bodyPost_ret_by (v := .tuple #[.agg #[.int .i64 0, .int .i64 0, .int .i64 0, .int .i64 0, .int .i64 0], .int .i64 z]) (by rw [results_cell_tmp rfl]; go_simp) rfl ?_
    exact ⟨ret_sof HR.out.2.symm HR.out.1.symm, set5 HBF.out (by omega) _ _ _ _ _⟩
end Go.Proofs.YtpjopfhkgegahaaGreat
