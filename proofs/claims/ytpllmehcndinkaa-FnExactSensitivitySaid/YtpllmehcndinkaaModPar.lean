/- The partials of a profile by a model: the reference model's answers. -/
import Derived.Test.YtpllmehcndinkaaModRaw
set_option linter.unusedVariables false
namespace Go.Proofs.Ytpllmehcndinkaa
open Go.ChangeShapes Go.WideShapes Go.ChangeAt Go.RowKit

def parL (zs : List Int) (ws : List (List Int)) (bs : List Int) (s : ByteArray) (rs : List Rg) : List Int := if askM zs ws bs s rs = 0 then rawL zs ws bs rs else []
theorem par_ok {zs : List Int} {ws : List (List Int)} {bs : List Int} {s : ByteArray} {rs : List Rg} (h : askM zs ws bs s rs = 0) : parL zs ws bs s rs = rawL zs ws bs rs := by unfold parL; rw [if_pos h]
theorem par_no {zs : List Int} {ws : List (List Int)} {bs : List Int} {s : ByteArray} {rs : List Rg} (h : askM zs ws bs s rs ≠ 0) : parL zs ws bs s rs = [] := by unfold parL; rw [if_neg h]
theorem askM_ok {zs : List Int} {ws : List (List Int)} {bs : List Int} {s : ByteArray} {rs : List Rg} (h : askM zs ws bs s rs = 0) : modB zs ws bs = true ∧ profB s rs = true ∧ fitB rs.length zs = true := by
  unfold askM at h
  split at h
  · rename_i h1
    split at h
    · rename_i h2; exact ⟨h1.1, h1.2, h2⟩
    · cases h
  · cases h
theorem par_len (zs : List Int) (ws : List (List Int)) (bs : List Int) (s : ByteArray) (rs : List Rg) : (parL zs ws bs s rs).length ≤ 64 := by
  by_cases h : askM zs ws bs s rs = 0
  · rw [par_ok h, raw_len]; omega
  · rw [par_no h]; simp
set_option maxRecDepth 20000 in
set_option maxHeartbeats 2000000 in
theorem specRP_any (v0 v1 v2 v : Value) (zs : List Int) (ws : List (List Int)) (bs : List Int) (s : ByteArray) (rs : List Rg) (w : World) (h0 : IntsAt w v0 zs) (h1 : RowsAt w v1 ws) (h2 : IntsAt w v2 bs) (hv : RingsAt w v rs) (hs : s.size ≤ maxLen) :
    Calls Try.prog 20 #[.agg #[v0, v1, v2], .agg #[.string s, v]] w (IntU (parL zs ws bs s rs) (askM zs ws bs s rs) w) := by
  have hba : Below w.heap.size w ((w.alloc (.cells #[v0, v1, v2] 25)).alloc (.cells #[.string s, v] 45)) := (below_al _ _).alloc (by simp) _
  have hm : ModIn ((w.alloc (.cells #[v0, v1, v2] 25)).alloc (.cells #[.string s, v] 45)) w.heap.size v0 v1 v2 := ⟨by go_simp, by go_simp, by go_simp⟩
  have hp : ProfIn ((w.alloc (.cells #[v0, v1, v2] 25)).alloc (.cells #[.string s, v] 45)) (w.heap.size + 1) s v := ⟨by go_simp, by go_simp⟩
  have hml : w.heap.size < ((w.alloc (.cells #[v0, v1, v2] 25)).alloc (.cells #[.string s, v] 45)).heap.size := by simp; omega
  have hpl : w.heap.size + 1 < ((w.alloc (.cells #[v0, v1, v2] 25)).alloc (.cells #[.string s, v] 45)).heap.size := by simp
  have HAK := Lib.hid (l08Ask_any w.heap.size (w.heap.size + 1) v0 v1 v2 v zs ws bs s rs _ hml hpl hm (ints_kept hba h0) (mrows_kept hba h1) (ints_kept hba h2) hp (rings_kept hba hv) hs)
  have HBA := Lib.hid hba
  by_cases h : askM zs ws bs s rs = 0
  · obtain ⟨q1, q2, q3⟩ := askM_ok h
    have HRW := Lib.hid (fun W (hW : Below ((w.alloc (.cells #[v0, v1, v2] 25)).alloc (.cells #[.string s, v] 45)).heap.size ((w.alloc (.cells #[v0, v1, v2] 25)).alloc (.cells #[.string s, v] 45)) W) => l08Raw_any w.heap.size (w.heap.size + 1) v0 v1 v2 v zs ws bs s rs W (Nat.lt_of_lt_of_le hml hW.size) (Nat.lt_of_lt_of_le hpl hW.size) (modIn_keep hW hml hm) (ints_kept hW (ints_kept hba h0)) (mrows_kept hW (mrows_kept hba h1)) (ints_kept hW (ints_kept hba h2)) (prof_keep hW hpl hp) (rings_kept hW (rings_kept hba hv)) hs q1 q2 q3)
    have HP := Lib.hid (par_ok h)
    have HQ := Lib.hid h
    clear hba hm hp hml hpl h0 h1 h2 hv h q1 q2 q3
    go_enter Try.func20, Try.ntmps20
    go_wp2_with fail
    generalize (w.alloc (.cells #[v0, v1, v2] 25)).alloc (.cells #[.string s, v] 45) = wA at *
    refine HAK.out.mono ?_
    rintro e w1 ⟨rfl, hb⟩
    rw [HQ.out]
    have HB1 := Lib.hid hb
    clear hb
    go_wp2_with fail
    refine (HRW.out _ HB1.out).mono ?_
    rintro e w2 ⟨⟨vr, rfl, ho⟩, hb⟩
    have HO := Lib.hid (iv_base ho (show w.heap.size ≤ w1.heap.size from Nat.le_trans HBA.out.size HB1.out.size))
    have HB2 := Lib.hid (below_of (below_of HBA.out HB1.out HBA.out.size) hb (Nat.le_trans HBA.out.size HB1.out.size))
    clear hb ho
    go_wp2
    go_ret2
    exact ⟨vr, ret_iv HQ.out.symm, by rw [HP.out]; exact HO.out, HB2.out⟩
  · have HP := Lib.hid (par_no h)
    obtain ⟨z, hz⟩ : ∃ z, askM zs ws bs s rs = z := ⟨_, rfl⟩
    have HZ := Lib.hid hz
    rw [hz] at h
    have hne : (z != 0) = true := bne_iff_ne.2 h
    clear hba hm hp hml hpl h0 h1 h2 hv h hz
    go_enter Try.func20, Try.ntmps20
    go_wp2_with fail
    generalize (w.alloc (.cells #[v0, v1, v2] 25)).alloc (.cells #[.string s, v] 45) = wA at *
    refine HAK.out.mono ?_
    rintro e w1 ⟨rfl, hb⟩
    rw [HZ.out]
    have HB1 := Lib.hid (below_of HBA.out hb HBA.out.size)
    clear hb
    go_wp2
    go_ret2
    exact ⟨.slice none 0 0, ret_iv HZ.out.symm, .inl ⟨rfl, HP.out⟩, HB1.out⟩
end Go.Proofs.Ytpllmehcndinkaa
