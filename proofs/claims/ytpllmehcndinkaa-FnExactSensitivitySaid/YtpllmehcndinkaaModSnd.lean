/- The sound of a profile by a model: the reference model's answer. -/
import Derived.Test.YtpllmehcndinkaaModPar
import Derived.Test.YtpllmehcndinkaaSndSpec
set_option linter.unusedVariables false
namespace Go.Proofs.Ytpllmehcndinkaa
open Go.ChangeShapes Go.WideShapes Go.ChangeAt Go.RowKit

/-- Block g holds nothing yet, and may be written. -/
def CleanZ (w : World) (g : Nat) : Prop := Five w g 0 0 0 0 0 ∧ w.frozen? ⟨g, 0, none⟩ = false ∧ w.frozen? ⟨g, 1, none⟩ = false ∧ w.frozen? ⟨g, 2, none⟩ = false ∧ w.frozen? ⟨g, 3, none⟩ = false ∧ w.frozen? ⟨g, 4, none⟩ = false
theorem cleanZ_kept {w w' : World} {B g : Nat} (hb : Below B w w') (hg : g < B) (h : CleanZ w g) : CleanZ w' g :=
  ⟨⟨by rw [hb.cell (p := ⟨g, 0, none⟩) hg]; exact h.1.1, by rw [hb.cell (p := ⟨g, 1, none⟩) hg]; exact h.1.2.1, by rw [hb.cell (p := ⟨g, 2, none⟩) hg]; exact h.1.2.2.1, by rw [hb.cell (p := ⟨g, 3, none⟩) hg]; exact h.1.2.2.2.1, by rw [hb.cell (p := ⟨g, 4, none⟩) hg]; exact h.1.2.2.2.2⟩,
    by rw [hb.frozen (p := ⟨g, 0, none⟩) hg]; exact h.2.1, by rw [hb.frozen (p := ⟨g, 1, none⟩) hg]; exact h.2.2.1, by rw [hb.frozen (p := ⟨g, 2, none⟩) hg]; exact h.2.2.2.1, by rw [hb.frozen (p := ⟨g, 3, none⟩) hg]; exact h.2.2.2.2.1, by rw [hb.frozen (p := ⟨g, 4, none⟩) hg]; exact h.2.2.2.2.2⟩
theorem cleanZ_alloc (w : World) (T : TypeId) : CleanZ (w.alloc (.cells #[.int .i64 0, .int .i64 0, .int .i64 0, .int .i64 0, .int .i64 0] T)) w.heap.size :=
  ⟨five_alloc w 0 0 0 0 0 T, by go_simp, by go_simp, by go_simp, by go_simp, by go_simp⟩
set_option maxHeartbeats 400000 in
theorem l04Sound_capZ (g cap : Nat) (a b c e f : Int) (w : World) (hg : g < w.heap.size) (h0 : w.cell? ⟨g, 0, none⟩ = some (.int .i64 a)) (h1 : w.cell? ⟨g, 1, none⟩ = some (.int .i64 b)) (h2 : w.cell? ⟨g, 2, none⟩ = some (.int .i64 c)) (h3 : w.cell? ⟨g, 3, none⟩ = some (.int .i64 e)) (h4 : w.cell? ⟨g, 4, none⟩ = some (.int .i64 f)) :
    Calls Try.prog 63 #[.slice (some ⟨g, 0, none⟩) 5 cap] w fun en w' => en = .returned (.agg #[.int .i64 a, .int .i64 b, .int .i64 c, .int .i64 e, .int .i64 f]) ∧ Below w.heap.size w w' := by
  go_enter Try.func63, Try.ntmps63
  go_wp2
  have k0 := (below_cell (w1 := w.alloc (.cells #[.int .i64 0, .int .i64 0, .int .i64 0, .int .i64 0, .int .i64 0] 51)) ((Below.refl _ _).alloc (Nat.le_refl _) _) g 0 hg).trans h0
  have k1 := (below_cell (w1 := w.alloc (.cells #[.int .i64 0, .int .i64 0, .int .i64 0, .int .i64 0, .int .i64 0] 51)) ((Below.refl _ _).alloc (Nat.le_refl _) _) g 1 hg).trans h1
  have k2 := (below_cell (w1 := w.alloc (.cells #[.int .i64 0, .int .i64 0, .int .i64 0, .int .i64 0, .int .i64 0] 51)) ((Below.refl _ _).alloc (Nat.le_refl _) _) g 2 hg).trans h2
  have k3 := (below_cell (w1 := w.alloc (.cells #[.int .i64 0, .int .i64 0, .int .i64 0, .int .i64 0, .int .i64 0] 51)) ((Below.refl _ _).alloc (Nat.le_refl _) _) g 3 hg).trans h3
  have k4 := (below_cell (w1 := w.alloc (.cells #[.int .i64 0, .int .i64 0, .int .i64 0, .int .i64 0, .int .i64 0] 51)) ((Below.refl _ _).alloc (Nat.le_refl _) _) g 4 hg).trans h4
  go_region
  go_wp2
  refine bodyPost_ret (v := .agg #[.int .i64 a, .int .i64 b, .int .i64 c, .int .i64 e, .int .i64 f]) (by simp [results, Try.results63, go_sem]) rfl ⟨rfl, ?_⟩
  exact below_dr ((Below.refl _ _).alloc (Nat.le_refl _) _)
def sofB (zs : List Int) (ws : List (List Int)) (bs : List Int) (rs : List Rg) : Bool := sndB (rawK zs ws bs rs 0) (rawK zs ws bs rs 1) (rawK zs ws bs rs 2) (rawK zs ws bs rs 3) (rawK zs ws bs rs 4)
def sofC (zs : List Int) (ws : List (List Int)) (bs : List Int) (s : ByteArray) (rs : List Rg) : Int := if askM zs ws bs s rs = 0 then (if sofB zs ws bs rs = true then 0 else 6) else askM zs ws bs s rs
def sofV (zs : List Int) (ws : List (List Int)) (bs : List Int) (s : ByteArray) (rs : List Rg) : Value := if sofC zs ws bs s rs = 0 then .agg #[.int .i64 (rawK zs ws bs rs 0), .int .i64 (rawK zs ws bs rs 1), .int .i64 (rawK zs ws bs rs 2), .int .i64 (rawK zs ws bs rs 3), .int .i64 (rawK zs ws bs rs 4)] else .agg #[.int .i64 0, .int .i64 0, .int .i64 0, .int .i64 0, .int .i64 0]
theorem sof_0 {zs : List Int} {ws : List (List Int)} {bs : List Int} {s : ByteArray} {rs : List Rg} (h : askM zs ws bs s rs = 0) (h2 : sofB zs ws bs rs = true) : sofC zs ws bs s rs = 0 ∧ sofV zs ws bs s rs = .agg #[.int .i64 (rawK zs ws bs rs 0), .int .i64 (rawK zs ws bs rs 1), .int .i64 (rawK zs ws bs rs 2), .int .i64 (rawK zs ws bs rs 3), .int .i64 (rawK zs ws bs rs 4)] := by
  have e : sofC zs ws bs s rs = 0 := by unfold sofC; rw [if_pos h, if_pos h2]
  exact ⟨e, by unfold sofV; rw [if_pos e]⟩
theorem sof_6 {zs : List Int} {ws : List (List Int)} {bs : List Int} {s : ByteArray} {rs : List Rg} (h : askM zs ws bs s rs = 0) (h2 : sofB zs ws bs rs = false) : sofC zs ws bs s rs = 6 ∧ sofV zs ws bs s rs = .agg #[.int .i64 0, .int .i64 0, .int .i64 0, .int .i64 0, .int .i64 0] := by
  have e : sofC zs ws bs s rs = 6 := by unfold sofC; rw [if_pos h, h2]; rfl
  exact ⟨e, by unfold sofV; rw [if_neg (by rw [e]; decide)]⟩
theorem sof_n {zs : List Int} {ws : List (List Int)} {bs : List Int} {s : ByteArray} {rs : List Rg} (h : askM zs ws bs s rs ≠ 0) : sofC zs ws bs s rs = askM zs ws bs s rs ∧ sofV zs ws bs s rs = .agg #[.int .i64 0, .int .i64 0, .int .i64 0, .int .i64 0, .int .i64 0] := by
  have e : sofC zs ws bs s rs = askM zs ws bs s rs := by unfold sofC; rw [if_neg h]
  exact ⟨e, by unfold sofV; rw [if_neg (by rw [e]; exact h)]⟩
theorem ret_sof {v v2 : Value} {a b : Int} (h : v = v2) (k : a = b) : Ending.returned (.tuple #[v, .int .i64 a]) = .returned (.tuple #[v2, .int .i64 b]) := by rw [h, k]
theorem set5 {w w1 : World} {g : Nat} (h : Below w.heap.size w w1) (hg : w.heap.size ≤ g) (a b c d e : Value) : Below w.heap.size w (((((w1.setCell ⟨g, 0, none⟩ a).setCell ⟨g, 1, none⟩ b).setCell ⟨g, 2, none⟩ c).setCell ⟨g, 3, none⟩ d).setCell ⟨g, 4, none⟩ e) :=
  ((((h.setCell (p := ⟨g, 0, none⟩) hg _).setCell (p := ⟨g, 1, none⟩) hg _).setCell (p := ⟨g, 2, none⟩) hg _).setCell (p := ⟨g, 3, none⟩) hg _).setCell (p := ⟨g, 4, none⟩) hg _
set_option maxRecDepth 20000 in
set_option maxHeartbeats 4000000 in
theorem specSO_any (v0 v1 v2 v : Value) (zs : List Int) (ws : List (List Int)) (bs : List Int) (s : ByteArray) (rs : List Rg) (w : World) (h0 : IntsAt w v0 zs) (h1 : RowsAt w v1 ws) (h2 : IntsAt w v2 bs) (hv : RingsAt w v rs) (hs : s.size ≤ maxLen) :
    Calls Try.prog 27 #[.agg #[v0, v1, v2], .agg #[.string s, v]] w fun e w' => e = .returned (.tuple #[sofV zs ws bs s rs, .int .i64 (sofC zs ws bs s rs)]) ∧ Below w.heap.size w w' := by
  have hba : Below w.heap.size w (((w.alloc (.cells #[v0, v1, v2] 25)).alloc (.cells #[.string s, v] 45)).alloc (.cells #[.int .i64 0, .int .i64 0, .int .i64 0, .int .i64 0, .int .i64 0] 51)) := ((below_al _ _).alloc (by simp) _).alloc (by simp; omega) _
  have hm : ModIn (((w.alloc (.cells #[v0, v1, v2] 25)).alloc (.cells #[.string s, v] 45)).alloc (.cells #[.int .i64 0, .int .i64 0, .int .i64 0, .int .i64 0, .int .i64 0] 51)) w.heap.size v0 v1 v2 := ⟨by go_simp, by go_simp, by go_simp⟩
  have hp : ProfIn (((w.alloc (.cells #[v0, v1, v2] 25)).alloc (.cells #[.string s, v] 45)).alloc (.cells #[.int .i64 0, .int .i64 0, .int .i64 0, .int .i64 0, .int .i64 0] 51)) (w.heap.size + 1) s v := ⟨by go_simp, by go_simp⟩
  have hcl : CleanZ (((w.alloc (.cells #[v0, v1, v2] 25)).alloc (.cells #[.string s, v] 45)).alloc (.cells #[.int .i64 0, .int .i64 0, .int .i64 0, .int .i64 0, .int .i64 0] 51)) (w.heap.size + 2) := ⟨⟨by go_simp, by go_simp, by go_simp, by go_simp, by go_simp⟩, by go_simp, by go_simp, by go_simp, by go_simp, by go_simp⟩
  have hml : w.heap.size + 2 < (((w.alloc (.cells #[v0, v1, v2] 25)).alloc (.cells #[.string s, v] 45)).alloc (.cells #[.int .i64 0, .int .i64 0, .int .i64 0, .int .i64 0, .int .i64 0] 51)).heap.size := by simp
  have HAK := Lib.hid (l08Ask_any w.heap.size (w.heap.size + 1) v0 v1 v2 v zs ws bs s rs _ (by omega) (by omega) hm (ints_kept hba h0) (mrows_kept hba h1) (ints_kept hba h2) hp (rings_kept hba hv) hs)
  have HBA := Lib.hid hba
  by_cases h : askM zs ws bs s rs = 0
  · obtain ⟨q1, q2, q3⟩ := askM_ok h
    have HRW := Lib.hid (fun W (hW : Below (((w.alloc (.cells #[v0, v1, v2] 25)).alloc (.cells #[.string s, v] 45)).alloc (.cells #[.int .i64 0, .int .i64 0, .int .i64 0, .int .i64 0, .int .i64 0] 51)).heap.size (((w.alloc (.cells #[v0, v1, v2] 25)).alloc (.cells #[.string s, v] 45)).alloc (.cells #[.int .i64 0, .int .i64 0, .int .i64 0, .int .i64 0, .int .i64 0] 51)) W) => l08Raw_any w.heap.size (w.heap.size + 1) v0 v1 v2 v zs ws bs s rs W (Nat.lt_of_lt_of_le (by omega) hW.size) (Nat.lt_of_lt_of_le (by omega) hW.size) (modIn_keep hW (by omega) hm) (ints_kept hW (ints_kept hba h0)) (mrows_kept hW (mrows_kept hba h1)) (ints_kept hW (ints_kept hba h2)) (prof_keep hW (by omega) hp) (rings_kept hW (rings_kept hba hv)) hs q1 q2 q3)
    have HCL := Lib.hid (fun W (hW : Below (((w.alloc (.cells #[v0, v1, v2] 25)).alloc (.cells #[.string s, v] 45)).alloc (.cells #[.int .i64 0, .int .i64 0, .int .i64 0, .int .i64 0, .int .i64 0] 51)).heap.size (((w.alloc (.cells #[v0, v1, v2] 25)).alloc (.cells #[.string s, v] 45)).alloc (.cells #[.int .i64 0, .int .i64 0, .int .i64 0, .int .i64 0, .int .i64 0] 51)) W) => cleanZ_kept hW hml hcl)
    have HQ := Lib.hid h
    have HLN := Lib.hid (raw_len zs ws bs rs)
    have HSB := Lib.hid (show sofB zs ws bs rs = sndB (rawK zs ws bs rs 0) (rawK zs ws bs rs 1) (rawK zs ws bs rs 2) (rawK zs ws bs rs 3) (rawK zs ws bs rs 4) from rfl)
    have HLI := Lib.hid (show rawL zs ws bs rs = [rawK zs ws bs rs 0, rawK zs ws bs rs 1, rawK zs ws bs rs 2, rawK zs ws bs rs 3, rawK zs ws bs rs 4] by simp [rawL, List.range, List.range.loop])
    have HS0 := Lib.hid (fun h2 => sof_0 (zs := zs) (ws := ws) (bs := bs) (rs := rs) h h2)
    have HS6 := Lib.hid (fun h2 => sof_6 (zs := zs) (ws := ws) (bs := bs) (rs := rs) h h2)
    clear hba hm hp hcl h0 h1 h2 hv h q1 q2 q3
    go_enter Try.func27, Try.ntmps27
    go_wp2_with fail
    generalize (((w.alloc (.cells #[v0, v1, v2] 25)).alloc (.cells #[.string s, v] 45)).alloc (.cells #[.int .i64 0, .int .i64 0, .int .i64 0, .int .i64 0, .int .i64 0] 51)) = wA at *
    refine HAK.out.mono ?_
    rintro e w1 ⟨rfl, hb⟩
    rw [HQ.out]
    have HB1 := Lib.hid hb
    clear hb
    go_wp2_with fail
    refine (HRW.out _ HB1.out).mono ?_
    rintro e w2 ⟨⟨vr, rfl, ho⟩, hb⟩
    have HB2 := Lib.hid (below_of HB1.out hb HB1.out.size)
    clear hb
    rcases ho with ⟨-, hnil⟩ | ⟨g, cap, T, rfl, hg, hrow⟩
    · have := HLN.out; rw [hnil] at this; simp at this
    rw [HLN.out] at hrow ⊢
    have hgl := (hrow.lt _ rfl).2
    rw [HLI.out] at hrow
    have c0 := hrow.cellAt 0 (by omega)
    have c1 := hrow.cellAt 1 (by omega)
    have c2 := hrow.cellAt 2 (by omega)
    have c3 := hrow.cellAt 3 (by omega)
    have c4 := hrow.cellAt 4 (by omega)
    simp only [i64s, List.map_cons, List.map_nil, List.getElem?_cons_zero, List.getElem?_cons_succ] at c0 c1 c2 c3 c4
    have HSD := Lib.hid (l04Sound_capZ g cap _ _ _ _ _ w2 hgl c0 c1 c2 c3 c4)
    clear hrow c0 c1 c2 c3 c4
    generalize rawK zs ws bs rs 0 = r0 at *
    generalize rawK zs ws bs rs 1 = r1 at *
    generalize rawK zs ws bs rs 2 = r2 at *
    generalize rawK zs ws bs rs 3 = r3 at *
    generalize rawK zs ws bs rs 4 = r4 at *
    go_wp2_with fail
    refine HSD.out.mono ?_
    rintro e w3 ⟨rfl, hb⟩
    have HB3 := Lib.hid (below_of HB2.out hb HB2.out.size)
    clear hb
    have HB4 := Lib.hid (HB3.out.alloc HB3.out.size (.cells #[.int .i64 r0, .int .i64 r1, .int .i64 r2, .int .i64 r3, .int .i64 r4] 51))
    have H5 := Lib.hid (l04Ok_any w3.heap.size r0 r1 r2 r3 r4 (w3.alloc (.cells #[.int .i64 r0, .int .i64 r1, .int .i64 r2, .int .i64 r3, .int .i64 r4] 51)) (by go_simp) (by go_simp) (by go_simp) (by go_simp) (by go_simp))
    have e0 : (w3.alloc (.cells #[.int .i64 r0, .int .i64 r1, .int .i64 r2, .int .i64 r3, .int .i64 r4] 51)).cell? ⟨w3.heap.size, 0, none⟩ = some (.int .i64 r0) := by go_simp
    have e1 : (w3.alloc (.cells #[.int .i64 r0, .int .i64 r1, .int .i64 r2, .int .i64 r3, .int .i64 r4] 51)).cell? ⟨w3.heap.size, 1, none⟩ = some (.int .i64 r1) := by go_simp
    have e2 : (w3.alloc (.cells #[.int .i64 r0, .int .i64 r1, .int .i64 r2, .int .i64 r3, .int .i64 r4] 51)).cell? ⟨w3.heap.size, 2, none⟩ = some (.int .i64 r2) := by go_simp
    have e3 : (w3.alloc (.cells #[.int .i64 r0, .int .i64 r1, .int .i64 r2, .int .i64 r3, .int .i64 r4] 51)).cell? ⟨w3.heap.size, 3, none⟩ = some (.int .i64 r3) := by go_simp
    have e4 : (w3.alloc (.cells #[.int .i64 r0, .int .i64 r1, .int .i64 r2, .int .i64 r3, .int .i64 r4] 51)).cell? ⟨w3.heap.size, 4, none⟩ = some (.int .i64 r4) := by go_simp
    have hl4 := alloc_lt2 w3 (.cells #[.int .i64 r0, .int .i64 r1, .int .i64 r2, .int .i64 r3, .int .i64 r4] 51)
    go_wp2_with fail
    generalize w3.alloc (.cells #[.int .i64 r0, .int .i64 r1, .int .i64 r2, .int .i64 r3, .int .i64 r4] 51) = w4 at *
    refine H5.out.mono ?_
    rintro e w5 ⟨rfl, hb⟩
    have k0 := (below_cell hb _ _ hl4).trans e0
    have k1 := (below_cell hb _ _ hl4).trans e1
    have k2 := (below_cell hb _ _ hl4).trans e2
    have k3 := (below_cell hb _ _ hl4).trans e3
    have k4 := (below_cell hb _ _ hl4).trans e4
    have HB5 := Lib.hid (below_of HB4.out hb HB4.out.size)
    obtain ⟨⟨b0, b1, b2, b3, b4⟩, f0, f1, f2, f3, f4⟩ := HCL.out _ HB5.out
    have HBF := Lib.hid (below_of HBA.out HB5.out HBA.out.size)
    clear hb e0 e1 e2 e3 e4
    rcases Bool.eq_false_or_eq_true (sndB r0 r1 r2 r3 r4) with h5 | h5
    · have HR := Lib.hid (HS0.out (by rw [HSB.out]; exact h5))
      rw [h5]
      clear h5
      go_wp2
      try simp only [Exit.inBlock, Exit.then]
      refine bodyPost_ret_by (v := .tuple #[.agg #[.int .i64 r0, .int .i64 r1, .int .i64 r2, .int .i64 r3, .int .i64 r4], .int .i64 0]) (by rw [results_cell_tmp rfl]; go_simp) rfl ?_
      exact ⟨ret_sof HR.out.2.symm HR.out.1.symm, set5 HBF.out (by omega) _ _ _ _ _⟩
    · have HR := Lib.hid (HS6.out (by rw [HSB.out]; exact h5))
      rw [h5]
      clear h5
      go_wp2
      try simp only [Exit.inBlock, Exit.then]
      refine bodyPost_ret_by (v := .tuple #[.agg #[.int .i64 0, .int .i64 0, .int .i64 0, .int .i64 0, .int .i64 0], .int .i64 6]) (by rw [results_cell_tmp rfl]; go_simp) rfl ?_
      exact ⟨ret_sof HR.out.2.symm HR.out.1.symm, set5 HBF.out (by omega) _ _ _ _ _⟩
  · have HR := Lib.hid (sof_n h)
    have HCL := Lib.hid (fun W (hW : Below (((w.alloc (.cells #[v0, v1, v2] 25)).alloc (.cells #[.string s, v] 45)).alloc (.cells #[.int .i64 0, .int .i64 0, .int .i64 0, .int .i64 0, .int .i64 0] 51)).heap.size (((w.alloc (.cells #[v0, v1, v2] 25)).alloc (.cells #[.string s, v] 45)).alloc (.cells #[.int .i64 0, .int .i64 0, .int .i64 0, .int .i64 0, .int .i64 0] 51)) W) => cleanZ_kept hW hml hcl)
    obtain ⟨z, hz⟩ : ∃ z, askM zs ws bs s rs = z := ⟨_, rfl⟩
    have HZ := Lib.hid hz
    rw [hz] at h HR
    have hne : (z != 0) = true := bne_iff_ne.2 h
    clear hba hm hp hcl h0 h1 h2 hv h hz
    go_enter Try.func27, Try.ntmps27
    go_wp2_with fail
    generalize (((w.alloc (.cells #[v0, v1, v2] 25)).alloc (.cells #[.string s, v] 45)).alloc (.cells #[.int .i64 0, .int .i64 0, .int .i64 0, .int .i64 0, .int .i64 0] 51)) = wA at *
    refine HAK.out.mono ?_
    rintro e w1 ⟨rfl, hb⟩
    rw [HZ.out]
    obtain ⟨⟨b0, b1, b2, b3, b4⟩, f0, f1, f2, f3, f4⟩ := HCL.out _ hb
    have HBF := Lib.hid (below_of HBA.out hb HBA.out.size)
    clear hb
    go_wp2
    try simp only [Exit.inBlock, Exit.then]
    refine bodyPost_ret_by (v := .tuple #[.agg #[.int .i64 0, .int .i64 0, .int .i64 0, .int .i64 0, .int .i64 0], .int .i64 z]) (by rw [results_cell_tmp rfl]; go_simp) rfl ?_
    exact ⟨ret_sof HR.out.2.symm HR.out.1.symm, set5 HBF.out (by omega) _ _ _ _ _⟩
end Go.Proofs.Ytpllmehcndinkaa
