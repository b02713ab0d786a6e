/- Spots read back from their text: the program. -/
import Derived.Test.YtlhbjchanalnaaaDoorRdQI
set_option linter.unusedVariables false
namespace Go.Proofs.YtlhbjchanalnaaaDoor
open Go.ChangeShapes Go.WideShapes Go.ChangeAt Go.RowKit Go.Deep

theorem apart_of {a b : Option Nat} {l1 u1 l2 u2 : Nat} (ha : ∀ k, a = some k → l1 ≤ k ∧ k < u1) (hb : ∀ k, b = some k → l2 ≤ k ∧ k < u2) (h : u1 ≤ l2 ∨ u2 ≤ l1) : a = none ∨ a ≠ b := by
  cases ha' : a with
  | none => exact .inl rfl
  | some k =>
    refine .inr fun e => ?_
    have h1 := ha k ha'
    have h2 := hb k e.symm
    omega
theorem gb_below {w w' : World} {B : Nat} {row : Option Nat} (h : w.grownBy w' row) (hB : B ≤ w.heap.size) (hr : ∀ k, row = some k → B ≤ k) : Below B w w' :=
  ⟨h.os, h.tape, h.output, h.size, fun k hk => h.block k (by omega) (fun e => by have := hr k e.symm; omega)⟩
set_option maxRecDepth 100000 in
set_option maxHeartbeats 4000000 in
theorem implRdQ_any (s : ByteArray) (w : World) (hs : s.size ≤ 1048576) (hp : Hid (RqOk w)) :
    Calls Tryd.prog 5 #[.string s] w (QB (rsL s) (rsO s) w) := by
  by_cases hd : s = dashB
  · obtain ⟨E1, E2⟩ := rs_dash hd
    rw [E1, E2]
    have hq : (s.toList == [45]) = true := by rw [hd, dash_list]; rfl
    clear hd E1 E2
    go_enter Tryd.func5, Tryd.ntmps5
    go_wp2
    go_ret2
    exact ⟨_, rfl, qv_of_row (by simpa [i64s, flatQ] using World.ownsRow_made w #[] 0 (Nat.le_refl _) (by simp) (by simp)), (Below.refl _ _).alloc (Nat.le_refl _) _⟩
  · have hq := bytesQ_f hd
    rw [dash_list] at hq
    have HD := Lib.hid hd
    obtain ⟨L, hL⟩ : ∃ L, rsL s = L := ⟨_, rfl⟩
    obtain ⟨o, ho⟩ : ∃ o, rsO s = o := ⟨_, rfl⟩
    rw [hL, ho]
    have HL0 := Lib.hid hL
    have HO0 := Lib.hid ho
    clear hL ho hd
    go_enter Tryd.func5, Tryd.ntmps5
    go_wp2_with fail
    refine (readPartsQ_any s _ hs hp).mono ?_
    rintro en w1 ⟨hb1, ⟨rfl, hno⟩ | ⟨ps, zs, v, hps, hl, hzl, hall, rfl, hown⟩⟩
    · have HE := Lib.hid (show L = [] ∧ o = false by
        rw [← HL0.out, ← HO0.out]
        rcases hno with h | ⟨ps, k, h1, h2, h3⟩
        · exact rs_long HD.out h
        · exact rs_none HD.out h1 h2 h3)
      have HB1 := Lib.hid hb1
      clear hb1 hno
      go_wp2
      go_ret2
      exact ⟨_, ret_qb HE.out.2.symm, by rw [HE.out.1]; exact .inl ⟨rfl, rfl⟩, HB1.out⟩
    · have HSM := Lib.hid (rs_some HD.out hps hzl hall)
      have HB1 := Lib.hid hb1
      have HV := Lib.hid (qv_of_row hown)
      have HAT := Lib.hid (qv_at (by omega) HV.out)
      obtain ⟨av, cv, rfl⟩ := qv_form HV.out
      clear hb1 hps hall hown hl hzl
      generalize hzn : zs.length = n at *
      have HZN := Lib.hid hzn
      clear hzn
      rcases Bool.eq_false_or_eq_true (spotsB zs) with hv | hv
      · have HE := Lib.hid (show L = zs ∧ o = true by have := rs_yes HSM.out hv; rw [HL0.out, HO0.out] at this; exact this)
        have HV2 := Lib.hid hv
        clear hv
        go_wp2_with fail
        refine (implVS_any zs _ _ HAT.out).mono ?_
        rintro en w6 ⟨rfl, hb6⟩
        rw [HV2.out]
        have HV6 := Lib.hid (qv_kept hb6 HV.out)
        have HB6 := Lib.hid (below_of HB1.out hb6 HB1.out.size)
        clear hb6
        go_wp2
        go_ret2
        exact ⟨_, ret_qb HE.out.2.symm, by rw [HE.out.1]; exact HV6.out, HB6.out⟩
      · have HE := Lib.hid (show L = [] ∧ o = false by have := rs_no HSM.out hv; rw [HL0.out, HO0.out] at this; exact this)
        have HV2 := Lib.hid hv
        clear hv
        go_wp2_with fail
        refine (implVS_any zs _ _ HAT.out).mono ?_
        rintro en w6 ⟨rfl, hb6⟩
        rw [HV2.out]
        have HB6 := Lib.hid (below_of HB1.out hb6 HB1.out.size)
        clear hb6
        go_wp2
        go_ret2
        exact ⟨_, ret_qb HE.out.2.symm, by rw [HE.out.1]; exact .inl ⟨rfl, rfl⟩, HB6.out⟩
end Go.Proofs.YtlhbjchanalnaaaDoor
