/- Cuts read back from their text: the program. -/
import Derived.Test.YtikoehjalcljnaaDoorRdCI
set_option linter.unusedVariables false
namespace Go.Proofs.YtikoehjalcljnaaDoor
open Go.ChangeShapes Go.WideShapes Go.ChangeAt Go.RowKit Go.Deep

theorem apart_of {a b : Option Nat} {l1 u1 l2 u2 : Nat} (ha : ∀ k, a = some k → l1 ≤ k ∧ k < u1) (hb : ∀ k, b = some k → l2 ≤ k ∧ k < u2) (h : u1 ≤ l2 ∨ u2 ≤ l1) : a = none ∨ a ≠ b := by
  cases ha' : a with
  | none => exact .inl rfl
  | some k =>
    refine .inr fun e => ?_
    have h1 := ha k ha'
    have h2 := hb k e.symm
    omega
theorem gb_below {w w' : World} {B : Nat} {row : Option Nat} (h : w.grownBy w' row) (hB : B ≤ w.heap.size) (hr : ∀ k, row = some k → B ≤ k) : Below B w w' :=
  ⟨h.os, h.tape, h.output, h.size, fun k hk => h.block k (by omega) (fun e => by have := hr k e.symm; omega)⟩
theorem rdK_some {q : ByteArray} {z : Ct} (h : rdK q = some z) : rdC q = some z ∧ cutB z = true := by
  unfold rdK at h
  split at h
  · rename_i u hu
    split at h
    · rename_i hc
      obtain rfl := Option.some.inj h
      exact ⟨hu, hc⟩
    · cases h
  · cases h
theorem allX_at : ∀ {ls : List (List UInt8)} {rs : List Ct}, allX ls = some rs → ∀ j, j < ls.length → rdCL (ls.getD j []) = some (rs.getD j zC)
  | [], rs, h, j, hj => by simp at hj
  | q :: l, rs, h, j, hj => by
    unfold allX at h
    split at h
    · rename_i h1 h2
      obtain rfl := Option.some.inj h
      match j with
      | 0 => simpa using h1
      | j + 1 => simpa using allX_at h2 j (by simpa using hj)
    · cases h
theorem rs_noneK {s : ByteArray} {ps : List ByteArray} {k : Nat} (h : s ≠ dashB) (hp : ps.map (·.data.toList) = splitL 44 s.data.toList) (hk : k < ps.length) (hn : rdK (ps.getD k ByteArray.empty) = none) : rsL s = [] ∧ rsO s = false := by
  cases hr : rdC (ps.getD k ByteArray.empty) with
  | none => exact rs_none h hp hk hr
  | some z =>
    have hc : cutB z = false := by
      unfold rdK at hn
      rw [hr] at hn
      simp only at hn
      split at hn
      · cases hn
      · rename_i h2; simpa using h2
    have : okO (allX (splitL 44 s.data.toList)) = none := by
      unfold okO
      split
      · rename_i rs hrs
        rw [if_neg]
        intro hv
        have h1 := allX_at hrs k (by rw [← hp, List.length_map]; exact hk)
        rw [← hp, mapC_getD ps k hk] at h1
        have h2 : some (rs.getD k zC) = some z := by rw [← h1]; exact hr
        have h3 := allX_len hrs
        have h4 := allC_at (cutsB_iff.1 hv).2 k (by rw [h3, ← hp, List.length_map]; exact hk)
        rw [Option.some.inj h2, hc] at h4
        cases h4
      · rfl
    unfold rsL rsO rsA
    rw [if_neg h, this]
    exact ⟨rfl, rfl⟩
set_option maxRecDepth 100000 in
set_option maxHeartbeats 4000000 in
theorem implRdC_any (s : ByteArray) (w : World) (hs : s.size ≤ 1048576) (hp : Hid (RqOk w)) :
    Calls Tryd.prog 7 #[.string s] w (CB (rsL s) (rsO s) w) := by
  by_cases hd : s = dashB
  · obtain ⟨E1, E2⟩ := rs_dash hd
    rw [E1, E2]
    have hq : (s.toList == [45]) = true := by rw [hd, dash_list]; rfl
    clear hd E1 E2
    go_enter Tryd.func7, Tryd.ntmps7
    go_wp2
    go_ret2
    exact ⟨_, rfl, cv_of_row (by simpa [i64s, flatC] using World.ownsRow_made w #[] 0 (Nat.le_refl _) (by simp) (by simp)), (Below.refl _ _).alloc (Nat.le_refl _) _⟩
  · have hq := bytesC_f hd
    rw [dash_list] at hq
    have HD := Lib.hid hd
    obtain ⟨L, hL⟩ : ∃ L, rsL s = L := ⟨_, rfl⟩
    obtain ⟨o, ho⟩ : ∃ o, rsO s = o := ⟨_, rfl⟩
    rw [hL, ho]
    have HL0 := Lib.hid hL
    have HO0 := Lib.hid ho
    clear hL ho hd
    go_enter Tryd.func7, Tryd.ntmps7
    go_wp2_with fail
    refine (readPartsC_any s _ hs hp).mono ?_
    rintro en w1 ⟨hb1, ⟨rfl, hno⟩ | ⟨ps, zs, v, hps, hl, hzl, hall, rfl, hown⟩⟩
    · have HE := Lib.hid (show L = [] ∧ o = false by
        rw [← HL0.out, ← HO0.out]
        rcases hno with h | ⟨ps, k, h1, h2, h3⟩
        · exact rs_long HD.out h
        · exact rs_noneK HD.out h1 h2 h3)
      have HB1 := Lib.hid hb1
      clear hb1 hno
      go_wp2
      go_ret2
      exact ⟨_, ret_qb HE.out.2.symm, by rw [HE.out.1]; exact .inl ⟨rfl, rfl⟩, HB1.out⟩
    · have HSM := Lib.hid (rs_some HD.out hps hzl (fun j hj => (rdK_some (hall j hj)).1))
      have HVB := Lib.hid (show cutsB zs = true from cutsB_iff.2 ⟨by omega, allC_true (fun i hi => (rdK_some (hall i (by omega))).2)⟩)
      have HE := Lib.hid (show L = zs ∧ o = true by have := rs_yes HSM.out HVB.out; rw [HL0.out, HO0.out] at this; exact this)
      have HB1 := Lib.hid hb1
      have HV := Lib.hid (cv_of_row hown)
      clear hb1 hps hall hown hl hzl
      go_wp2
      go_ret2
      exact ⟨_, ret_qb HE.out.2.symm, by rw [HE.out.1]; exact HV.out, HB1.out⟩
end Go.Proofs.YtikoehjalcljnaaDoor
