/- Masses: the reference model's functions that read one ring, or sum over a profile. -/
import Derived.Test.YtndmakimkghihaaProfFuns
import Derived.Test.YtndmakimkghihaaMassMath
import Derived.Test.YtndmakimkghihaaDiv
namespace Go.Proofs.Ytndmakimkghihaa
open Go.ChangeShapes Go.WideShapes Go.ChangeAt Go.RowKit

theorem volR_eq (x y z : Int) : volR (x, y, z) = tubeV (x * x - y * y) z := rfl
theorem holR_eq (x y z : Int) : holR (x, y, z) = tubeV (y * y) z := rfl
theorem l06Tube_any (sq h : Int) (w : World) (h0 : 0 ≤ sq) (h1 : sq ≤ 22500000000) (k0 : 0 ≤ h) (k1 : h ≤ 300000) :
    Calls Try.prog 171 #[.int .i64 sq, .int .i64 h] w fun e w' => e = .returned (.int .i64 (tubeV sq h)) ∧ w = w' := by
  obtain ⟨⟨a0, a1⟩, ⟨b0, b1⟩, -, -⟩ := tube_in h0 h1 k0 k1
  have HF := Lib.hid (show tubeV sq h = nq (nq (sq * h) 1000000 * 3141593) 1000000 from rfl)
  go_enter Try.func171, Try.ntmps171
  go_wp2_with (go_at_call 122; refine (specDiv_any _ _ _ (by omega) (by omega) (by omega)).mono ?_; rintro e w' ⟨rfl, rfl⟩)
  go_ret
  exact ⟨ret_i64 HF.out.symm, rfl⟩
theorem l06Ring_any (x y z : Int) (b o : Nat) (w : World) (h : RingIn w b o (x, y, z)) (hr : ringB (x, y, z) = true) :
    Calls Try.prog 149 #[.pointer (some ⟨b, o, none⟩)] w fun e w' => e = .returned (.int .i64 (volR (x, y, z))) ∧ ∃ n, w' = w.drewN n := by
  obtain ⟨c0, c1, c2⟩ := h
  obtain ⟨⟨r0, r1⟩, ⟨r2, r3⟩, r4, r5⟩ := ring_iff.1 hr
  have s0 := sec_bd hr
  simp only at r0 r1 r2 r3 r4 r5
  have s1 := sq_bd (x := x) (by omega) r1
  have s2 := sq_bd (x := y) r2 (by omega)
  have s3 : 90000 ≤ x * x - y * y ∧ x * x - y * y ≤ 22500000000 := s0
  have HV := Lib.hid (volR_eq x y z)
  clear hr s0
  go_enter Try.func149, Try.ntmps149
  have HT := Lib.hid (fun w => l06Tube_any (x * x - y * y) z w (by omega) (by omega) (by omega) (by omega))
  go_wp2
  go_quiet ((go_at_call 171; exact Calls.quiet_of_same ((HT.out _).mono (fun _ _ h => ⟨h.1, h.2.symm⟩))))
  go_wp2
  go_ret
  exact ⟨ret_i64 HV.out.symm, _, rfl⟩
end Go.Proofs.Ytndmakimkghihaa
