/- A model and a profile: the reference model's code, the lip's area, the moments. -/
import Derived.Test.YtpjopfhkgegahaaGreatModSpec
import Derived.Test.YtpjopfhkgegahaaGreatZone
set_option linter.unusedVariables false
namespace Go.Proofs.YtpjopfhkgegahaaGreat
open Go.ChangeShapes Go.WideShapes Go.ChangeAt Go.RowKit

def askM (zs : List Int) (ws : List (List Int)) (bs : List Int) (s : ByteArray) (rs : List Rg) : Int := if modB zs ws bs = true ∧ profB s rs = true then (if fitB rs.length zs = true then 0 else 2) else 1
theorem askM_0 {zs : List Int} {ws : List (List Int)} {bs : List Int} {s : ByteArray} {rs : List Rg} (h : modB zs ws bs = true) (h2 : profB s rs = true) (h3 : fitB rs.length zs = true) : askM zs ws bs s rs = 0 := by unfold askM; rw [if_pos ⟨h, h2⟩, if_pos h3]
theorem askM_2 {zs : List Int} {ws : List (List Int)} {bs : List Int} {s : ByteArray} {rs : List Rg} (h : modB zs ws bs = true) (h2 : profB s rs = true) (h3 : fitB rs.length zs = false) : askM zs ws bs s rs = 2 := by unfold askM; rw [if_pos ⟨h, h2⟩, h3]; rfl
theorem askM_1 {zs : List Int} {ws : List (List Int)} {bs : List Int} {s : ByteArray} {rs : List Rg} (h : ¬ (modB zs ws bs = true ∧ profB s rs = true)) : askM zs ws bs s rs = 1 := by unfold askM; rw [if_neg h]
set_option maxRecDepth 20000 in
set_option maxHeartbeats 2000000 in
theorem l08Ask_any (m p : Nat) (v0 v1 v2 v : Value) (zs : List Int) (ws : List (List Int)) (bs : List Int) (s : ByteArray) (rs : List Rg) (w : World) (hml : m < w.heap.size) (hpl : p < w.heap.size) (hm : ModIn w m v0 v1 v2) (h0 : IntsAt w v0 zs) (h1 : RowsAt w v1 ws) (h2 : IntsAt w v2 bs) (hp : ProfIn w p s v) (hv : RingsAt w v rs) (hs : s.size ≤ maxLen) :
    Calls Tryz.prog 60 #[.pointer (some ⟨m, 0, none⟩), .pointer (some ⟨p, 0, none⟩)] w fun e w' => e = .returned (.int .i64 (askM zs ws bs s rs)) ∧ Below w.heap.size w w' := by
  have HM := Lib.hid (l08Ok_any m v0 v1 v2 zs ws bs w hml hm h0 h1 h2)
  have HP := Lib.hid (fun W (hW : Below w.heap.size w W) => l05Ok_any p s v rs W (prof_keep hW hpl hp) (rings_kept hW hv) hs)
  have HZ := Lib.hid (fun W (hW : Below w.heap.size w W) => l09Zones_any p s v v0 rs zs W (Nat.lt_of_lt_of_le hpl hW.size) (prof_keep hW hpl hp) (rings_kept hW hv) hs (ints_kept hW h0))
  obtain ⟨a0, k0, hv0⟩ := ints_form h0
  have c0 := hm.1
  clear hm h0 h1 h2 hp hv
  generalize zs.length = nz at *
  subst hv0
  rcases Bool.eq_false_or_eq_true (modB zs ws bs) with q1 | q1
  · have Q1 := Lib.hid q1
    rcases Bool.eq_false_or_eq_true (profB s rs) with q2 | q2
    · have Q2 := Lib.hid q2
      rcases Bool.eq_false_or_eq_true (fitB rs.length zs) with q3 | q3
      · have HR := Lib.hid (askM_0 q1 q2 q3)
        have Q3 := Lib.hid (show (profB s rs && fitB rs.length zs) = true by rw [q2, q3]; rfl)
        clear q1 q2 q3
        go_enter Tryz.func60, Tryz.ntmps60
        go_wp2_with fail
        refine HM.out.mono ?_
        rintro e w1 ⟨rfl, hb⟩
        rw [Q1.out]
        have c1 := (below_cell hb _ _ hml).trans c0
        have HB1 := Lib.hid hb
        clear hb c0
        go_wp2_with fail
        refine (HP.out _ HB1.out).mono ?_
        rintro e w2 ⟨rfl, hb⟩
        rw [Q2.out]
        have c2 := (below_cell hb _ _ (Nat.lt_of_lt_of_le hml HB1.out.size)).trans c1
        have HB2 := Lib.hid (below_of HB1.out hb HB1.out.size)
        clear hb c1
        go_wp2_with fail
        refine (HZ.out _ HB2.out).mono ?_
        rintro e w3 ⟨rfl, hb⟩
        rw [Q3.out]
        have HB3 := Lib.hid (below_of HB2.out hb HB2.out.size)
        clear hb c2
        go_wp2
        go_ret
        exact ⟨ret_i64 HR.out.symm, HB3.out⟩
      · have HR := Lib.hid (askM_2 q1 q2 q3)
        have Q3 := Lib.hid (show (profB s rs && fitB rs.length zs) = false by rw [q2, q3]; rfl)
        clear q1 q2 q3
        go_enter Tryz.func60, Tryz.ntmps60
        go_wp2_with fail
        refine HM.out.mono ?_
        rintro e w1 ⟨rfl, hb⟩
        rw [Q1.out]
        have c1 := (below_cell hb _ _ hml).trans c0
        have HB1 := Lib.hid hb
        clear hb c0
        go_wp2_with fail
        refine (HP.out _ HB1.out).mono ?_
        rintro e w2 ⟨rfl, hb⟩
        rw [Q2.out]
        have c2 := (below_cell hb _ _ (Nat.lt_of_lt_of_le hml HB1.out.size)).trans c1
        have HB2 := Lib.hid (below_of HB1.out hb HB1.out.size)
        clear hb c1
        go_wp2_with fail
        refine (HZ.out _ HB2.out).mono ?_
        rintro e w3 ⟨rfl, hb⟩
        rw [Q3.out]
        have HB3 := Lib.hid (below_of HB2.out hb HB2.out.size)
        clear hb c2
        go_wp2
        go_ret
        exact ⟨ret_i64 HR.out.symm, HB3.out⟩
    · have HR := Lib.hid (askM_1 (zs := zs) (ws := ws) (bs := bs) (fun h => by rw [q2] at h; exact absurd h.2 (by simp)))
      have Q2 := Lib.hid q2
      clear q1 q2 HZ
      go_enter Tryz.func60, Tryz.ntmps60
      go_wp2_with fail
      refine HM.out.mono ?_
      rintro e w1 ⟨rfl, hb⟩
      rw [Q1.out]
      have HB1 := Lib.hid hb
      clear hb c0
      go_wp2_with fail
      refine (HP.out _ HB1.out).mono ?_
      rintro e w2 ⟨rfl, hb⟩
      rw [Q2.out]
      have HB2 := Lib.hid (below_of HB1.out hb HB1.out.size)
      clear hb
      go_wp2
      go_ret
      exact ⟨ret_i64 HR.out.symm, HB2.out⟩
  · have HR := Lib.hid (askM_1 (s := s) (rs := rs) (zs := zs) (ws := ws) (bs := bs) (fun h => by rw [q1] at h; exact absurd h.1 (by simp)))
    have Q1 := Lib.hid q1
    clear q1 HZ HP
    go_enter Tryz.func60, Tryz.ntmps60
    go_wp2_with fail
    refine HM.out.mono ?_
    rintro e w1 ⟨rfl, hb⟩
    rw [Q1.out]
    have HB1 := Lib.hid hb
    clear hb c0
    go_wp2
    go_ret
    exact ⟨ret_i64 HR.out.symm, HB1.out⟩
def areaV (r : Rg) : Int := nq ((2 * r.1) * (2 * r.1)) 1000000
set_option maxHeartbeats 1000000 in
theorem l08Area_any (p b off cap n : Nat) (s : ByteArray) (r : Rg) (w : World) (h1 : 1 ≤ n) (h32 : n ≤ 32) (hp : ProfIn w p s (.slice (some ⟨b, off, none⟩) n cap)) (hr : RingIn w b off r) (hR : ringB r = true) :
    Calls Tryz.prog 82 #[.pointer (some ⟨p, 0, none⟩)] w fun e w' => e = .returned (.int .i64 (areaV r)) ∧ w = w' := by
  obtain ⟨p0, p1⟩ := hp
  have r0 := hr.c0
  obtain ⟨⟨x0, x1⟩, -, -, -⟩ := ring_iff.1 hR
  clear hr hR
  obtain ⟨x, y, z⟩ := r
  simp only at x0 x1 r0
  have HA := Lib.hid (show areaV (x, y, z) = nq ((2 * x) * (2 * x)) 1000000 from rfl)
  obtain ⟨d, hd⟩ : ∃ d, 2 * x = d := ⟨_, rfl⟩
  have hdb : 0 ≤ d ∧ d ≤ 300000 := by omega
  have hdd : 0 ≤ d * d ∧ d * d ≤ 90000000000 := ⟨Int.mul_nonneg hdb.1 hdb.1, Int.le_trans (Int.mul_le_mul_of_nonneg_right hdb.2 hdb.1) (by omega)⟩
  rw [hd] at HA
  have HT := Lib.hid (fun w => specDiv_any (d * d) 1000000 w (by omega) (by omega) (by omega))
  have hw : IntKind.i64.wrap (d * d) = d * d := IntWalk.i64_in _ (by omega)
  have hw2 : IntKind.i64.wrap (2 * x) = d := by rw [hd]; exact IntWalk.i64_in _ (by omega)
  have hn0 : (0 : Int) < (n : Int) := by omega
  clear hdd hdb hd x0 x1
  go_enter Tryz.func82, Tryz.ntmps82
  go_wp2_with (go_at_call 80; refine (HT.out _).mono ?_; rintro e w' ⟨rfl, rfl⟩)
  go_ret
  exact ⟨ret_i64 HA.out.symm, rfl⟩
end Go.Proofs.YtpjopfhkgegahaaGreat
