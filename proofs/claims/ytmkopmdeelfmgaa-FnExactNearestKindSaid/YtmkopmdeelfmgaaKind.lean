/- The nearest kind of a bell: the reference model's walk and the program's. -/
import Derived.Test.YtmkopmdeelfmgaaDevs
import Derived.Test.YtmkopmdeelfmgaaStrike
import Derived.Test.YtmkopmdeelfmgaaWorst
namespace Go.Proofs.Ytmkopmdeelfmgaa
open Go.ChangeShapes Go.WideShapes Go.ChangeAt Go.RowKit

/-- The deviation that is farthest off. -/
def farV (zs : List Int) (s k : Int) : Int := (devL zs s k).getD (far (devL zs s k) 5) 0
def nkV (zs : List Int) (s : Int) : Int := if mag (farV zs s 2) < mag (farV zs s 1) then 2 else 1
def nkR (a b c e f : Int) : Int := if stC a b c e f = 0 then nkV [a, b, c, e, f] (stR a b c e f) else 0
theorem st_code {a b c e f : Int} (h : stC a b c e f = 0) : sndB a b c e f = true ∧ okF (stR a b c e f) = true := by
  unfold stC at h
  by_cases h0 : sndB a b c e f = true
  · by_cases h1 : okF (nq f 2) = true
    · exact ⟨h0, by rw [(st_2 h0 h1).1]; exact h1⟩
    · rw [if_pos h0, if_neg h1] at h; cases h
  · rw [if_neg h0] at h; cases h
theorem dev_big {a b c e f : Int} (h : sndB a b c e f = true) {s k : Int} (s0 : 10000 ≤ s) (s1 : s ≤ 20000000) : BigOk (devL [a, b, c, e, f] s k) 5 := fun j hj => by
  rw [dev_get _ _ _ _ hj]
  have := dev_bds h (k := k) s0 s1 j hj
  omega
theorem farV_bd {a b c e f : Int} (h : sndB a b c e f = true) {s k : Int} (s0 : 10000 ≤ s) (s1 : s ≤ 20000000) : -1000000000 ≤ farV [a, b, c, e, f] s k ∧ farV [a, b, c, e, f] s k ≤ 1000000000 :=
  dev_big h s0 s1 _ (far_in _ 5 (by decide))

set_option maxRecDepth 100000 in
set_option maxHeartbeats 2000000 in
theorem specKind_any (a b c e f : Int) (w : World) :
    Calls Try.prog 31 #[.agg #[.int .i64 a, .int .i64 b, .int .i64 c, .int .i64 e, .int .i64 f]] w fun en w' => en = .returned (.tuple #[.int .i64 (nkR a b c e f), .int .i64 (stC a b c e f)]) ∧ Below w.heap.size w w' := by
  by_cases hC : stC a b c e f = 0
  · obtain ⟨h0, h1⟩ := st_code hC
    have HC := Lib.hid hC
    have HR := Lib.hid (show nkR a b c e f = nkV [a, b, c, e, f] (stR a b c e f) by unfold nkR; rw [if_pos hC])
    have H0 := Lib.hid h0
    obtain ⟨s, hs⟩ : ∃ s, stR a b c e f = s := ⟨_, rfl⟩
    rw [hs] at h1 HR
    have HS := Lib.hid hs
    obtain ⟨s0, s1⟩ := okF_iff.1 h1
    clear hC h0 hs h1
    go_enter Try.func31, Try.ntmps31
    go_wp2_with fail
    refine (specStrike_any a b c e f _).mono ?_
    rintro en w1 ⟨rfl, hb⟩
    rw [HC.out, HS.out]
    have H5 := Lib.hid (five_below hb (five_alloc w a b c e f 25))
    have HB1 := Lib.hid (below_of ((Below.refl _ _).alloc (Nat.le_refl _) _) hb (by simp))
    clear hb
    go_wp2_with fail
    refine (l04Devs_any w.heap.size a b c e f s 1 _ H0.out (by decide) s0 s1 H5.out).mono ?_
    rintro en w2 ⟨⟨ga, pa, rfl, hoa⟩, hb⟩
    have HA := Lib.hid hoa.2
    have H52 := Lib.hid (five_below hb H5.out)
    have HB2 := Lib.hid (below_of HB1.out hb HB1.out.size)
    clear hb H5 hoa
    go_wp2_with fail
    refine (l04Devs_any w.heap.size a b c e f s 2 _ H0.out (by decide) s0 s1 H52.out).mono ?_
    rintro en w3 ⟨⟨gb, pb, rfl, hob⟩, hb⟩
    have HA3 := Lib.hid (row_keep5 hb HA.out)
    have HBb := Lib.hid hob.2
    have HB3 := Lib.hid (below_of HB2.out hb HB2.out.size)
    clear hb H52 hob HA
    have hfa := far_in (devL [a, b, c, e, f] s 1) 5 (by decide)
    have hfb := far_in (devL [a, b, c, e, f] s 2) 5 (by decide)
    have bx := farV_bd H0.out (k := 1) s0 s1
    have bys := farV_bd H0.out (k := 2) s0 s1
    go_wp2_with fail
    refine (l04Worst_any (devL [a, b, c, e, f] s 1) ga 0 5 pa _ (by decide) (by decide) (dev_big H0.out s0 s1) (row_cells (dev_len _ _ _) HA3.out)).mono ?_
    rintro en w4 ⟨rfl, hb⟩
    have hx : w4.cell? ⟨ga, far (devL [a, b, c, e, f] s 1) 5, none⟩ = some (.int .i64 (farV [a, b, c, e, f] s 1)) := by
      have := row_cells (dev_len _ _ _) (row_keep5 hb HA3.out) _ hfa
      rwa [Nat.zero_add] at this
    have HBb4 := Lib.hid (row_keep5 hb HBb.out)
    have HB4 := Lib.hid (below_of HB3.out hb HB3.out.size)
    clear hb HA3 HBb
    have hfa2 : ((far (devL [a, b, c, e, f] s 1) 5 : Nat) : Int) < 5 := by omega
    go_wp2_with fail
    refine (l04Worst_any (devL [a, b, c, e, f] s 2) gb 0 5 pb _ (by decide) (by decide) (dev_big H0.out s0 s1) (row_cells (dev_len _ _ _) HBb4.out)).mono ?_
    rintro en w5 ⟨rfl, hb⟩
    have hy : w5.cell? ⟨gb, far (devL [a, b, c, e, f] s 2) 5, none⟩ = some (.int .i64 (farV [a, b, c, e, f] s 2)) := by
      have := row_cells (dev_len _ _ _) (row_keep5 hb HBb4.out) _ hfb
      rwa [Nat.zero_add] at this
    have HB5 := Lib.hid (below_of HB4.out hb HB4.out.size)
    clear hb HBb4 hx
    have hfb2 : ((far (devL [a, b, c, e, f] s 2) 5 : Nat) : Int) < 5 := by omega
    have HV := Lib.hid (show nkV [a, b, c, e, f] s = if mag (farV [a, b, c, e, f] s 2) < mag (farV [a, b, c, e, f] s 1) then 2 else 1 from rfl)
    obtain ⟨x, hxe⟩ : ∃ x, farV [a, b, c, e, f] s 1 = x := ⟨_, rfl⟩
    obtain ⟨y, hye⟩ : ∃ y, farV [a, b, c, e, f] s 2 = y := ⟨_, rfl⟩
    rw [hxe] at bx HV ⊢
    rw [hye] at bys HV hy
    have hwx : IntKind.i64.wrap (-x) = -x := IntWalk.i64_in _ (by omega)
    have hwy : IntKind.i64.wrap (-y) = -y := IntWalk.i64_in _ (by omega)
    have MX := Lib.hid (max_mag x)
    have MY := Lib.hid (max_mag y)
    generalize far (devL [a, b, c, e, f] s 2) 5 = q at *
    go_wp2_with fail
    refine (l00Max_any y (-y) _).mono ?_
    rintro en w6 ⟨rfl, rfl⟩
    rw [MY.out]
    go_wp2_with fail
    refine (l00Max_any x (-x) _).mono ?_
    rintro en w6 ⟨rfl, rfl⟩
    rw [MX.out]
    generalize mag x = mx at *
    generalize mag y = my at *
    by_cases h : my < mx
    · have HQ := Lib.hid (show nkR a b c e f = 2 by rw [HR.out, HV.out, if_pos h])
      go_wp2
      go_ret2
      exact ⟨st_two HQ.out.symm HC.out.symm, HB5.out⟩
    · have HQ := Lib.hid (show nkR a b c e f = 1 by rw [HR.out, HV.out, if_neg h])
      go_wp2
      go_ret2
      exact ⟨st_two HQ.out.symm HC.out.symm, HB5.out⟩
  · have HR := Lib.hid (show nkR a b c e f = 0 by unfold nkR; rw [if_neg hC])
    obtain ⟨d, hd⟩ : ∃ d, stC a b c e f = d := ⟨_, rfl⟩
    have HD := Lib.hid hd
    have hne : (d != 0) = true := by rw [← hd]; simpa using hC
    clear hC hd
    go_enter Try.func31, Try.ntmps31
    go_wp2_with fail
    refine (specStrike_any a b c e f _).mono ?_
    rintro en w1 ⟨rfl, hb⟩
    rw [HD.out]
    have HB1 := Lib.hid (below_of ((Below.refl _ _).alloc (Nat.le_refl _) _) hb (by simp))
    clear hb
    go_wp2
    go_ret2
    exact ⟨st_two HR.out.symm HD.out.symm, HB1.out⟩
set_option maxRecDepth 100000 in
set_option maxHeartbeats 2000000 in
theorem worst_fn (g g4 : Nat) (a b c e f s k : Int) (w : World) (h0 : sndB a b c e f = true) (hk : kindB k = true) (h1 : okF s = true) (h5 : Five w g a b c e f) (hs : w.cell? ⟨g4, 0, none⟩ = some (.int .i64 s)) :
    Calls Try.prog 55 #[.int .i64 k, .pointer (some ⟨g, 0, none⟩), .pointer (some ⟨g4, 0, none⟩)] w fun en w' => en = .returned (.int .u64 (mag (farV [a, b, c, e, f] s k))) ∧ Below w.heap.size w w' := by
  obtain ⟨s0, s1⟩ := okF_iff.1 h1
  have HY := Lib.hid (dv_yes h0 h1 hk)
  have H0 := Lib.hid h0
  obtain ⟨c0, c1, c2, c3, c4⟩ := h5
  clear h0 h1 hk
  go_enter Try.func55, Try.ntmps55
  go_wp2_with fail
  refine (implDevs_any a b c e f s k _).mono ?_
  rintro en w1 ⟨hb, ⟨-, gd, pd, rfl, hod⟩ | ⟨hD, _⟩⟩
  case inr => exact absurd (HY.out.symm.trans hD) (by decide)
  have HO := Lib.hid hod.2
  have HB := Lib.hid hb
  clear hb hod c0 c1 c2 c3 c4 hs
  have hfa := far_in (devL [a, b, c, e, f] s k) 5 (by decide)
  have bx := farV_bd H0.out (k := k) s0 s1
  go_wp2_with fail
  refine (farthest_any (devL [a, b, c, e, f] s k) gd 0 5 pd _ (by decide) (by decide) (dev_big H0.out s0 s1) (row_cells (dev_len _ _ _) HO.out)).mono ?_
  rintro en w2 ⟨rfl, hb⟩
  have hx : w2.cell? ⟨gd, far (devL [a, b, c, e, f] s k) 5, none⟩ = some (.int .i64 (farV [a, b, c, e, f] s k)) := by
    have := row_cells (dev_len _ _ _) (row_keep5 hb HO.out) _ hfa
    rwa [Nat.zero_add] at this
  have HB2 := Lib.hid (below_of HB.out hb HB.out.size)
  clear hb
  have hfa2 : ((far (devL [a, b, c, e, f] s k) 5 : Nat) : Int) < 5 := by omega
  obtain ⟨x, hxe⟩ : ∃ x, farV [a, b, c, e, f] s k = x := ⟨_, rfl⟩
  have HX := Lib.hid hxe
  rw [hxe] at hx bx
  generalize far (devL [a, b, c, e, f] s k) 5 = q at *
  clear hxe
  go_wp2_with fail
  refine (magnitude_any x _ (by omega)).mono ?_
  rintro en w3 ⟨rfl, rfl⟩
  go_wp2
  go_ret
  exact ⟨by rw [HX.out]; rfl, HB2.out⟩
set_option maxRecDepth 100000 in
set_option maxHeartbeats 2000000 in
theorem implKind_any (a b c e f : Int) (w : World) :
    Calls Try.prog 32 #[.agg #[.int .i64 a, .int .i64 b, .int .i64 c, .int .i64 e, .int .i64 f]] w fun en w' => en = .returned (.tuple #[.int .i64 (nkR a b c e f), .int .i64 (stC a b c e f)]) ∧ Below w.heap.size w w' := by
  have hmf : ∀ (fn : Fn) (first cap : Array Value) (w : World), (Instr.makeFunc fn first cap).run Try.prog w = .ok (.func fn first cap) w := fun _ _ _ _ => rfl
  by_cases hC : stC a b c e f = 0
  · obtain ⟨h0, h1⟩ := st_code hC
    have HC := Lib.hid hC
    have HR := Lib.hid (show nkR a b c e f = nkV [a, b, c, e, f] (stR a b c e f) by unfold nkR; rw [if_pos hC])
    have H0 := Lib.hid h0
    obtain ⟨s, hs⟩ : ∃ s, stR a b c e f = s := ⟨_, rfl⟩
    rw [hs] at h1 HR
    have HS := Lib.hid hs
    have H1 := Lib.hid h1
    clear hC h0 hs h1
    go_enter Try.func32, Try.ntmps32
    go_wp2_with fail
    refine (implStrike_any a b c e f _).mono ?_
    rintro en w1 ⟨rfl, hb⟩
    rw [HC.out, HS.out]
    have H5 := Lib.hid (five_below hb (five_alloc w a b c e f 25))
    have HB1 := Lib.hid (below_of ((Below.refl _ _).alloc (Nat.le_refl _) _) hb (by simp))
    clear hb
    have hA := (Below.refl w1.heap.size w1).alloc (Nat.le_refl _) (.cells #[.int .i64 s] 2)
    have H5b := Lib.hid (five_below hA H5.out)
    have hsc : (w1.alloc (.cells #[.int .i64 s] 2)).cell? ⟨w1.heap.size, 0, none⟩ = some (.int .i64 s) := by go_simp
    have HB2 := Lib.hid (below_of HB1.out hA HB1.out.size)
    go_wp2_with fail
    refine (worst_fn w.heap.size w1.heap.size a b c e f s 2 _ H0.out (by decide) H1.out H5b.out hsc).mono ?_
    rintro en w3 ⟨rfl, hb⟩
    have H53 := Lib.hid (five_below hb H5b.out)
    have hsc3 : w3.cell? ⟨w1.heap.size, 0, none⟩ = some (.int .i64 s) := by rw [below_cell hb _ _ (by simp)]; exact hsc
    have HB3 := Lib.hid (below_of HB2.out hb HB2.out.size)
    clear hb hA H5 H5b HB1
    go_wp2_with fail
    refine (worst_fn w.heap.size w1.heap.size a b c e f s 1 _ H0.out (by decide) H1.out H53.out hsc3).mono ?_
    rintro en w4 ⟨rfl, hb⟩
    have HB4 := Lib.hid (below_of HB3.out hb HB3.out.size)
    clear hb hsc hsc3 H53
    have HV := Lib.hid (show nkV [a, b, c, e, f] s = if mag (farV [a, b, c, e, f] s 2) < mag (farV [a, b, c, e, f] s 1) then 2 else 1 from rfl)
    generalize mag (farV [a, b, c, e, f] s 1) = mx at *
    generalize mag (farV [a, b, c, e, f] s 2) = my at *
    by_cases h : my < mx
    · have HQ := Lib.hid (show nkR a b c e f = 2 by rw [HR.out, HV.out, if_pos h])
      go_wp2
      go_ret2
      exact ⟨st_two HQ.out.symm HC.out.symm, HB4.out⟩
    · have HQ := Lib.hid (show nkR a b c e f = 1 by rw [HR.out, HV.out, if_neg h])
      go_wp2
      go_ret2
      exact ⟨st_two HQ.out.symm HC.out.symm, HB4.out⟩
  · have HR := Lib.hid (show nkR a b c e f = 0 by unfold nkR; rw [if_neg hC])
    obtain ⟨d, hd⟩ : ∃ d, stC a b c e f = d := ⟨_, rfl⟩
    have HD := Lib.hid hd
    have hne : (d != 0) = true := by rw [← hd]; simpa using hC
    clear hC hd
    go_enter Try.func32, Try.ntmps32
    go_wp2_with fail
    refine (implStrike_any a b c e f _).mono ?_
    rintro en w1 ⟨rfl, hb⟩
    rw [HD.out]
    have HB1 := Lib.hid (below_of ((Below.refl _ _).alloc (Nat.le_refl _) _) hb (by simp))
    clear hb
    go_wp2
    go_ret2
    exact ⟨st_two HR.out.symm HD.out.symm, HB1.out.alloc HB1.out.size _⟩
end Go.Proofs.Ytmkopmdeelfmgaa
