/- The program's mapRings with (impl.Profile).resized$1. -/
import Derived.Test.YtndmakimkghihabWithO
import Derived.OwnWalk
set_option linter.unusedVariables false
namespace Go.Proofs.Ytndmakimkghihab
open Go.ChangeShapes Go.WideShapes Go.ChangeAt Go.RowKit

set_option maxHeartbeats 2000000 in
set_option maxRecDepth 100000 in
theorem mapSiz_any (rs : List Rg) (f : Rg → Rg) (b off cap p : Nat) (w : World) (hl : rs.length ≤ 1048576) (hlt : b < w.heap.size) (hc : ∀ i, i < rs.length → RingIn w b (off + i * 3) (rs.getD i zR)) (n : Nat) (hn : Hid (rs.length = n))
    (hC : ∀ (i : Nat) (x y z : Int) (W : World), i < n → rs.getD i zR = (x, y, z) → Below w.heap.size w W → Calls Try.prog 83 #[.agg #[.int .i64 x, .int .i64 y, .int .i64 z], .pointer (some ⟨p, 0, none⟩)] W fun e W' => e = .returned (.agg #[.int .i64 (f (x, y, z)).1, .int .i64 (f (x, y, z)).2.1, .int .i64 (f (x, y, z)).2.2]) ∧ Below W.heap.size W W') :
    Calls Try.prog 82 #[.slice (some ⟨b, off, none⟩) n cap, .func (.func 83) #[] #[.pointer (some ⟨p, 0, none⟩)]] w fun e w' => ∃ g, e = .returned (.slice (some ⟨g, 0, none⟩) n n) ∧ w.heap.size ≤ g ∧ g < w'.heap.size ∧ w'.ownsRow w.heap.size 106 3 (.slice (some ⟨g, 0, none⟩) n n) n (i64s (flat (rs.map f))) ∧ Below w.heap.size w w' := by
  obtain ⟨i0, hi, hz0, hz1, hz2⟩ := info_parts infoRing
  have hn1 : n ≤ 1048576 := by rw [← hn.out]; exact hl
  have HC := Lib.hid hc
  have HCL := Lib.hid hC
  have HML := Lib.hid (show (rs.map f).length = n by rw [List.length_map]; exact hn.out)
  clear hc hl hC
  go_enter Try.func82, Try.ntmps82
  go_wp2_with (at_make; refine wpList_make_full _ rfl _ _ 28 rfl w.heap.size 106 i0 (.agg #[.int .i64 0, .int .i64 0, .int .i64 0]) 3 Try.underlying28 hi hz0 hz1 .i64 .i64 _ _ n rfl rfl rfl rfl (by rw [hz2]; omega) (by unfold maxLen; omega) (Nat.le_refl _) ?_; intro w0 hown hgrow)
  have HB0 := Lib.hid ((Below.refl w.heap.size w).grown hgrow (Nat.le_refl _) (fun k hk => by cases hk))
  rw [made_rings] at hown
  have HO0 := Lib.hid (show w0.ownsRow w.heap.size 106 3 (.slice (some ⟨w.heap.size, 0, none⟩) n n) n (i64s (flat (copiedR (rs.map f) 0))) by
    unfold copiedR; rw [HML.out, Nat.sub_zero, List.take_zero, List.nil_append]; exact hown)
  clear hgrow hown
  go_wp2
  go_loopw [13] (fun i wr => ∃ k : Nat, k ≤ n ∧ i = .int .i64 k ∧ wr.ownsRow w.heap.size 106 3 (.slice (some ⟨w.heap.size, 0, none⟩) n n) n (i64s (flat (copiedR (rs.map f) k))) ∧ Below w.heap.size w wr) (fun i _ => n - (intOf i).toNat)
  case atStart => exact ⟨0, by omega, rfl, HO0.out, HB0.out⟩
  case round =>
    obtain ⟨k, hk, rfl, hown, hbw⟩ := hrel
    by_cases hlt2 : k < n
    · obtain ⟨c0, c1, c2⟩ := HC.out k (by rw [hn.out]; exact hlt2)
      obtain ⟨⟨x, y, z⟩, hxyz⟩ : ∃ r, rs.getD k zR = r := ⟨_, rfl⟩
      have HCK := Lib.hid (fun W hW => HCL.out k x y z W hlt2 hxyz hW)
      have HFX := Lib.hid (show (rs.map f).getD k zR = f (x, y, z) by rw [← hxyz]; simp [List.getD, show k < rs.length by rw [hn.out]; exact hlt2])
      rw [hxyz] at c0 c1 c2
      have hc0 : wr.cell? ⟨b, off + k * 3, none⟩ = some (.int .i64 x) := by rw [hbw.cell (p := ⟨b, off + k * 3, none⟩) hlt]; exact c0
      have hc1 : wr.cell? ⟨b, off + k * 3 + 1, none⟩ = some (.int .i64 y) := by rw [hbw.cell (p := ⟨b, off + k * 3 + 1, none⟩) hlt]; exact c1
      have hc2 : wr.cell? ⟨b, off + k * 3 + 2, none⟩ = some (.int .i64 z) := by rw [hbw.cell (p := ⟨b, off + k * 3 + 2, none⟩) hlt]; exact c2
      obtain ⟨⟨u1, u2, u3⟩, huu⟩ : ∃ r, f (x, y, z) = r := ⟨_, rfl⟩
      rw [huu] at HFX HCK
      have HN := Lib.hid (show (copiedR (rs.map f) k).set k (u1, u2, u3) = copiedR (rs.map f) (k + 1) by rw [← HFX.out]; exact copiedR_next (rs.map f) k (by rw [HML.out]; exact hlt2))
      have HL := Lib.hid (show (copiedR (rs.map f) k).length = n by rw [copiedR_len _ _ (by rw [HML.out]; omega), HML.out])
      have HO := Lib.hid (hown.alloc (.cells #[.int .i64 x, .int .i64 y, .int .i64 z] 106))
      have HB := Lib.hid (hbw.alloc hbw.size (.cells #[.int .i64 x, .int .i64 y, .int .i64 z] 106))
      clear hown hbw c0 c1 c2 hxyz huu
      generalize copiedR (rs.map f) k = cs at *
      have hkn : (k : Int) < (n : Int) := by omega
      have hk0 : (0 : Int) ≤ (k : Int) := by omega
      go_wp2_with fail
      refine (HCK.out _ HB.out).mono ?_
      rintro e w2 ⟨rfl, hb2⟩
      have HO2 := Lib.hid (row_keepR hb2 HO.out)
      have HB2 := Lib.hid (below_of HB.out hb2 HB.out.size)
      obtain ⟨d0, d1, d2⟩ := own_in HL.out HO2.out k hlt2
      generalize cs.getD k zR = old at *
      have f0 := HO2.out.frozenAt (k * 3)
      have f1 := HO2.out.frozenAt (k * 3 + 1)
      have f2 := HO2.out.frozenAt (k * 3 + 2)
      have HS := Lib.hid (store3 HO2.out k (u1, u2, u3))
      clear hb2
      go_wp2
      go_roundw
      case rel => exact ⟨k + 1, by omega, by go_num, by rw [← HN.out]; exact HS.out, ((HB2.out.setCell (Nat.le_refl _) _).setCell (Nat.le_refl _) _).setCell (Nat.le_refl _) _⟩
      case measure => simp [intOf]; omega
    · obtain rfl : k = n := by omega
      have HO := Lib.hid hown
      have HB := Lib.hid hbw
      clear hown hbw
      have hc2 : copiedR (rs.map f) k = rs.map f := by rw [← HML.out]; exact copiedR_all (rs.map f)
      rw [hc2] at HO
      clear hc2
      go_wp2
      go_ret
      exact ⟨w.heap.size, rfl, Nat.le_refl _, (HO.out.lt _ rfl).2, HO.out, HB.out⟩
end Go.Proofs.Ytndmakimkghihab
