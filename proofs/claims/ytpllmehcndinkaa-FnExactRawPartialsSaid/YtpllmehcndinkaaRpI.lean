/- RawPartials: the program's answer. -/
import Derived.Test.YtpllmehcndinkaaModPart
import Derived.Test.YtpllmehcndinkaaModErr
set_option linter.unusedVariables false
namespace Go.Proofs.Ytpllmehcndinkaa
open Go.ChangeShapes Go.WideShapes Go.ChangeAt Go.RowKit

set_option maxRecDepth 20000 in
set_option maxHeartbeats 4000000 in
theorem implRP_any (v0 v1 v2 v : Value) (zs : List Int) (ws : List (List Int)) (bs : List Int) (s : ByteArray) (rs : List Rg) (w : World) (h0 : IntsAt w v0 zs) (h1 : RowsAt w v1 ws) (h2 : IntsAt w v2 bs) (hv : RingsW w v rs) (hs : s.size ≤ maxLen) :
    Calls Try.prog 23 #[.agg #[v0, v1, v2], .agg #[.string s, v]] w (IntU (parL zs ws bs s rs) (askM zs ws bs s rs) w) := by
  have hba : Below w.heap.size w ((w.alloc (.cells #[v0, v1, v2] 25)).alloc (.cells #[.string s, v] 45)) := (below_al _ _).alloc (by simp) _
  have HBA := Lib.hid hba
  by_cases h : askM zs ws bs s rs = 0
  · obtain ⟨q1, q2, q3⟩ := askM_ok h
    have HMD := Lib.hid (modelled_ok v0 v1 v2 v zs ws bs s rs _ (ints_kept hba h0) (mrows_kept hba h1) (ints_kept hba h2) (rings_kept hba hv.1) hs (Lib.hid q1) q2 q3)
    have HPT := Lib.hid (fun W (hW : Below w.heap.size w W) => partials_any s v v0 v1 v2 zs ws bs rs W (ringsW_kept hW hv) hs (ints_kept hW h0) (mrows_kept hW h1) (ints_kept hW h2) q1 q2 q3)
    have HQ := Lib.hid h
    have HP := Lib.hid ((par_ok h).trans (rawL_list zs ws bs rs))
    obtain ⟨a0, k0, rfl⟩ := ints_form h0
    obtain ⟨a1, k1, rfl⟩ := mrows_form h1
    obtain ⟨a2, k2, rfl⟩ := ints_form h2
    obtain ⟨av, cv, rfl⟩ := rings_form hv.1
    clear hba h0 h1 h2 hv h q1 q2 q3
    generalize zs.length = nz at *
    generalize ws.length = nw at *
    generalize bs.length = nb at *
    generalize rs.length = nr at *
    generalize rawK zs ws bs rs 0 = r0 at *
    generalize rawK zs ws bs rs 1 = r1 at *
    generalize rawK zs ws bs rs 2 = r2 at *
    generalize rawK zs ws bs rs 3 = r3 at *
    generalize rawK zs ws bs rs 4 = r4 at *
    go_enter Try.func23, Try.ntmps23
    go_wp2_with fail
    generalize ((w.alloc (.cells #[.slice a0 nz k0, .slice a1 nw k1, .slice a2 nb k2] 25)).alloc (.cells #[.string s, .slice av nr cv] 45)) = wA at *
    refine HMD.out.mono ?_
    rintro e w1 ⟨rfl, hb⟩
    have HB1 := Lib.hid hb
    have hbx := below_al w1 (.cells #[.string s, .slice av nr cv, .slice a0 nz k0, .slice a0 nz k0, .slice a1 nw k1, .slice a2 nb k2] 88)
    have HBX := Lib.hid (below_of HB1.out hbx HB1.out.size)
    clear hb hbx
    go_wp2_with fail
    refine (HPT.out _ (below_of HBA.out HBX.out HBA.out.size)).mono ?_
    rintro e w3 ⟨rfl, hb⟩
    have HB3 := Lib.hid (below_of HBX.out hb HBX.out.size)
    have HB4 := Lib.hid (below_of HBA.out (HB3.out.alloc HB3.out.size (.cells #[.int .i64 r0, .int .i64 r1, .int .i64 r2, .int .i64 r3, .int .i64 r4] 92)) HBA.out.size)
    have HRW := Lib.hid (row_box w3 #[.int .i64 r0, .int .i64 r1, .int .i64 r2, .int .i64 r3, .int .i64 r4] 92 5 (i64s [r0, r1, r2, r3, r4]) rfl rfl (by unfold maxLen; omega))
    have HSZ := Lib.hid (Nat.le_trans HBA.out.size HB3.out.size)
    clear hb
    go_wp2
    go_ret2
    refine ⟨_, ret_iv HQ.out.symm, ?_, HB4.out⟩
    rw [HP.out]
    exact iv_base (iv_of_row rfl HRW.out) HSZ.out
  · have HMD := Lib.hid (modelled_err v0 v1 v2 v zs ws bs s rs _ (ints_kept hba h0) (mrows_kept hba h1) (ints_kept hba h2) (rings_kept hba hv.1) hs h)
    have HP := Lib.hid (par_no h)
    obtain ⟨z, hz⟩ : ∃ z, askM zs ws bs s rs = z := ⟨_, rfl⟩
    have HZ := Lib.hid hz
    rw [hz] at h HMD
    have hne : (z != 0) = true := bne_iff_ne.2 h
    obtain ⟨a0, k0, rfl⟩ := ints_form h0
    obtain ⟨a1, k1, rfl⟩ := mrows_form h1
    obtain ⟨a2, k2, rfl⟩ := ints_form h2
    obtain ⟨av, cv, rfl⟩ := rings_form hv.1
    clear hba h0 h1 h2 hv h hz
    generalize zs.length = nz at *
    generalize ws.length = nw at *
    generalize bs.length = nb at *
    generalize rs.length = nr at *
    go_enter Try.func23, Try.ntmps23
    go_wp2_with fail
    generalize ((w.alloc (.cells #[.slice a0 nz k0, .slice a1 nw k1, .slice a2 nb k2] 25)).alloc (.cells #[.string s, .slice av nr cv] 45)) = wA at *
    refine HMD.out.mono ?_
    rintro e w1 ⟨rfl, hb⟩
    have HBF := Lib.hid (below_of HBA.out (below_of hb (below_al w1 (.cells #[.string ⟨#[]⟩, .slice none 0 0, .slice none 0 0, .slice none 0 0, .slice none 0 0, .slice none 0 0] 88)) hb.size) HBA.out.size)
    clear hb
    go_wp2
    go_ret2
    exact ⟨_, ret_iv HZ.out.symm, by rw [HP.out]; exact .inl ⟨rfl, rfl⟩, HBF.out⟩
end Go.Proofs.Ytpllmehcndinkaa
