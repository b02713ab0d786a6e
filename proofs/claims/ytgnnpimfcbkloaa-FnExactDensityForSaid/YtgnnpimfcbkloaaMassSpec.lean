/- Masses: the reference model's functions that read one ring, or sum over a profile. -/
import Derived.Test.YtgnnpimfcbkloaaProfFuns
import Derived.Test.YtgnnpimfcbkloaaMassMath
import Derived.Test.YtgnnpimfcbkloaaDiv
namespace Go.Proofs.Ytgnnpimfcbkloaa
open Go.ChangeShapes Go.WideShapes Go.ChangeAt Go.RowKit

theorem volR_eq (x y z : Int) : volR (x, y, z) = tubeV (x * x - y * y) z := rfl
theorem holR_eq (x y z : Int) : holR (x, y, z) = tubeV (y * y) z := rfl
theorem l06Tube_any (sq h : Int) (w : World) (h0 : 0 ≤ sq) (h1 : sq ≤ 22500000000) (k0 : 0 ≤ h) (k1 : h ≤ 300000) :
    Calls Try.prog 62 #[.int .i64 sq, .int .i64 h] w fun e w' => e = .returned (.int .i64 (tubeV sq h)) ∧ w = w' := by
  obtain ⟨⟨a0, a1⟩, ⟨b0, b1⟩, -, -⟩ := tube_in h0 h1 k0 k1
  have HF := Lib.hid (show tubeV sq h = nq (nq (sq * h) 1000000 * 3141593) 1000000 from rfl)
  go_enter Try.func62, Try.ntmps62
  go_wp2_with (go_at_call 49; refine (specDiv_any _ _ _ (by omega) (by omega) (by omega)).mono ?_; rintro e w' ⟨rfl, rfl⟩)
  go_ret
  exact ⟨ret_i64 HF.out.symm, rfl⟩
theorem l06Ring_any (x y z : Int) (b o : Nat) (w : World) (h : RingIn w b o (x, y, z)) (hr : ringB (x, y, z) = true) :
    Calls Try.prog 53 #[.pointer (some ⟨b, o, none⟩)] w fun e w' => e = .returned (.int .i64 (volR (x, y, z))) ∧ ∃ n, w' = w.drewN n := by
  obtain ⟨c0, c1, c2⟩ := h
  obtain ⟨⟨r0, r1⟩, ⟨r2, r3⟩, r4, r5⟩ := ring_iff.1 hr
  have s0 := sec_bd hr
  simp only at r0 r1 r2 r3 r4 r5
  have s1 := sq_bd (x := x) (by omega) r1
  have s2 := sq_bd (x := y) r2 (by omega)
  have s3 : 90000 ≤ x * x - y * y ∧ x * x - y * y ≤ 22500000000 := s0
  have HV := Lib.hid (volR_eq x y z)
  clear hr s0
  go_enter Try.func53, Try.ntmps53
  have HT := Lib.hid (fun w => l06Tube_any (x * x - y * y) z w (by omega) (by omega) (by omega) (by omega))
  go_wp2
  go_quiet ((go_at_call 62; exact Calls.quiet_of_same ((HT.out _).mono (fun _ _ h => ⟨h.1, h.2.symm⟩))))
  go_wp2
  go_ret
  exact ⟨ret_i64 HV.out.symm, _, rfl⟩
set_option maxHeartbeats 1000000 in
theorem l06Volume_some (p b off cap n : Nat) (s : ByteArray) (rs : List Rg) (w : World) (hn : rs.length = n) (hn1 : n ≤ 32) (hpl : p < w.heap.size) (hbl : b < w.heap.size) (hp : ProfIn w p s (.slice (some ⟨b, off, none⟩) n cap)) (hc : ∀ i, i < n → RingIn w b (off + i * 3) (rs.getD i zR)) (hR : ∀ i, i < rs.length → ringB (rs.getD i zR) = true) :
    Calls Try.prog 57 #[.pointer (some ⟨p, 0, none⟩)] w fun e w' => e = .returned (.int .i64 (volP rs)) ∧ Below w.heap.size w w' := by
  have HP := Lib.hid hp
  obtain ⟨p0, p1⟩ := hp
  have HC := Lib.hid hc
  have HBD := Lib.hid (sumF_bd (fun _ r => volR r) rs 21205752750 (fun i hi => by have := vol_bd (hR i hi); omega))
  have HNX := Lib.hid (sumF_next (fun _ r => volR r) rs)
  have HRR := Lib.hid hR
  have HN := Lib.hid hn
  clear hc hR hn
  go_enter Try.func57, Try.ntmps57
  go_wp2
  clear p0 p1
  go_loopw [3, 4] (fun a i wr => ∃ k : Nat, k ≤ n ∧ i = .int .i64 k ∧ a = .int .i64 (sumF (fun _ r => volR r) 0 (rs.take k)) ∧ Below w.heap.size w wr) (fun _ i _ => n - (intOf i).toNat)
  case atStart => exact ⟨0, by omega, rfl, rfl, Below.refl _ _⟩
  case round =>
    obtain ⟨k, hk, rfl, rfl, hbw⟩ := hrel
    have HBW := Lib.hid hbw
    obtain ⟨p0, p1⟩ := prof_keep hbw hpl HP.out
    clear hbw
    by_cases hlt : k < n
    · have hr0 := HC.out k hlt
      have hr : RingIn wr b (off + k * 3) (rs.getD k zR) := ⟨(below_cell HBW.out _ _ hbl).trans hr0.c0, (below_cell HBW.out _ _ hbl).trans hr0.c1, (below_cell HBW.out _ _ hbl).trans hr0.c2⟩
      clear hr0
      have hrb := HRR.out k (by have := HN.out; omega)
      have b1 := HBD.out k (by have := HN.out; omega)
      have b2 := vol_bd hrb
      have hx := HNX.out k (by have := HN.out; omega)
      obtain ⟨⟨x, y, z⟩, hxyz⟩ : ∃ r, rs.getD k zR = r := ⟨_, rfl⟩
      rw [hxyz] at hr hrb hx b2
      have HX := Lib.hid hx
      have HRI := Lib.hid hr
      have HRB := Lib.hid hrb
      clear hx hr hrb hxyz
      generalize sumF (fun _ r => volR r) 0 (rs.take k) = t at *
      obtain ⟨v, hv⟩ : ∃ v, volR (x, y, z) = v := ⟨_, rfl⟩
      have HVV := Lib.hid hv
      rw [hv] at b2
      clear hv
      have hw : IntKind.i64.wrap (t + v) = t + v := IntWalk.i64_in _ (by omega)
      have hk1 : (k : Int) < (n : Int) := by omega
      have hk0 : (0 : Int) ≤ (k : Int) := by omega
      clear b1 b2
      go_wp2_with (go_at_call 53; refine (l06Ring_any x y z b (off + k * 3) _ HRI.out HRB.out).mono ?_; rintro e w' ⟨rfl, m, rfl⟩; rw [HVV.out])
      go_roundw
      case rel => exact ⟨k + 1, by omega, by go_num, by rw [HX.out, HVV.out], below_of HBW.out (below_drewN _ _) HBW.out.size⟩
      case measure => simp [intOf]; omega
    · obtain rfl : k = n := by omega
      have he : sumF (fun _ r => volR r) 0 (rs.take k) = volP rs := by rw [List.take_of_length_le (by have := HN.out; omega)]; rfl
      obtain ⟨y, hy⟩ : ∃ y, volP rs = y := ⟨_, rfl⟩
      have HY := Lib.hid hy
      rw [he, hy]
      clear hy he
      go_wp2
      go_ret
      exact ⟨ret_i64 HY.out.symm, HBW.out⟩
end Go.Proofs.Ytgnnpimfcbkloaa
