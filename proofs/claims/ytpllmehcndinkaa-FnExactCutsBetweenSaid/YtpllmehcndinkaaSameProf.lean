/- Are two profiles equal? The program's answer and the reference model's. -/
import Derived.Test.YtpllmehcndinkaaG2
import Derived.Deep.QuietTactic
import Derived.BigQuiet
import Derived.Laws.StructEq
namespace Go.Proofs.Ytpllmehcndinkaa
open Go.ChangeShapes Go.WideShapes Go.ChangeAt Go.RowKit

def sameL (z1 z2 : List Rg) : Bool := decide (z1 = z2)
def sameP (s1 s2 : ByteArray) (z1 z2 : List Rg) : Bool := decide (s1 = s2) && sameL z1 z2
theorem sameL_len {z1 z2 : List Rg} (h : ¬ z1.length = z2.length) : sameL z1 z2 = false := decide_eq_false (fun e => h (by rw [e]))
theorem sameL_no {z1 z2 : List Rg} {k : Nat} (h : ¬ z1.getD k zR = z2.getD k zR) : sameL z1 z2 = false := decide_eq_false (fun e => h (by rw [e]))
theorem sameL_yes {z1 z2 : List Rg} (h : z1.length = z2.length) (hj : ∀ j, j < z1.length → z1.getD j zR = z2.getD j zR) : sameL z1 z2 = true := by
  refine decide_eq_true (List.ext_getElem h fun j h1 h2 => ?_)
  have := hj j h1
  rwa [List.getD_eq_getElem?_getD, List.getD_eq_getElem?_getD, List.getElem?_eq_getElem h1, List.getElem?_eq_getElem h2] at this
theorem bytes_listP {s t : ByteArray} (h : s.toList = t.toList) : s = t := by
  rw [ByteArray.toList_eq, ByteArray.toList_eq] at h
  cases s; cases t
  simp at h
  rw [h]
/-- Two rings, compared. -/
theorem eqlR (x y z x2 y2 z2 : Int) (w : World) :
    (Op.equalIn 10000 128 (.agg #[.int .i64 x, .int .i64 y, .int .i64 z]) (.agg #[.int .i64 x2, .int .i64 y2, .int .i64 z2])).run Try.prog w = .ok (x == x2 && (y == y2 && z == z2)) w := by
  have hu := Try.underlying2
  have hu2 := Try.underlying128
  rw [show (10000 : Nat) = 9999 + 1 from rfl, run_equalIn_struct w 9999 _ _ _ (by kernel_rfl) (by kernel_rfl)]
  cases h0 : (x == x2) <;> cases h1 : (y == y2) <;> cases h2 : (z == z2) <;> simp [Program.fieldsOf, hu2, Op.eqFields, go_sem, h0, h1, h2, hu]
theorem rg_beq {x y z x2 y2 z2 : Int} : (x == x2 && (y == y2 && z == z2)) = decide ((x, y, z) = (x2, y2, z2)) := by
  rw [Bool.eq_iff_iff]
  simp
theorem eqG : Try.prog.eqGuardType Try.prog.depth 128 = false := by kernel_rfl
theorem rings_cells {w : World} {a : Option Addr} {c n : Nat} {zs : List Rg} (hn : zs.length = n) (h : RingsAt w (.slice a n c) zs) : ∀ j, j < n → ∃ bb off, a = some ⟨bb, off, none⟩ ∧ RingIn w bb (off + j * 3) (zs.getD j zR) := by
  intro j hj
  obtain ⟨_, ⟨a', c', e, rfl⟩ | ⟨bb, off, cap, e, _, hc⟩⟩ := h
  · simp at hn; omega
  · simp only [Value.slice.injEq] at e
    exact ⟨bb, off, e.1, ring_in hc j (by omega)⟩
set_option maxRecDepth 20000 in
set_option maxHeartbeats 4000000 in
theorem l05Same_eq (p1 p2 : Nat) (s : ByteArray) (z1 z2 : List Rg) (v1 v2 : Value) (w : World) (g1 : ProfIn w p1 s v1) (g2 : ProfIn w p2 s v2) (h1 : RingsAt w v1 z1) (h2 : RingsAt w v2 z2) :
    Calls Try.prog 89 #[.pointer (some ⟨p1, 0, none⟩), .pointer (some ⟨p2, 0, none⟩)] w fun e w' => e = .returned (.bool (sameL z1 z2)) ∧ ∃ m, w' = w.drewN m := by
  have hl := h1.1
  have hl2 := h2.1
  obtain ⟨a1, c1, rfl⟩ := rings_form h1
  obtain ⟨a2, c2, rfl⟩ := rings_form h2
  obtain ⟨p10, p11⟩ := g1
  obtain ⟨p20, p21⟩ := g2
  have hq0 : (s.toList != s.toList) = false := by simp
  by_cases hn : z1.length = z2.length
  · obtain ⟨n, hn1⟩ : ∃ n, z1.length = n := ⟨_, rfl⟩
    have HN1 := Lib.hid hn1
    have HN2 := Lib.hid (hn.symm.trans hn1)
    rw [hn1] at h1 hl p11
    rw [hn.symm.trans hn1] at h2 p21
    have HC1 := Lib.hid (rings_cells HN1.out h1)
    have HC2 := Lib.hid (rings_cells HN2.out h2)
    clear hn hn1 hl2 h1 h2
    have hne : ((n : Int) != n) = false := by simp
    have hg := eqG
    go_enter Try.func89, Try.ntmps89
    go_wp2
    go_quiet (fail)
    go_wp2
    go_loopw [5] (fun i wr => ∃ k m : Nat, k ≤ n ∧ i = .int .i64 k ∧ wr = w.drewN m ∧ Hid (∀ j, j < k → z1.getD j zR = z2.getD j zR)) (fun i _ => n - (intOf i).toNat)
    case atStart => exact ⟨0, _, by omega, rfl, rfl, Lib.hid (fun j hj => by omega)⟩
    case round =>
      obtain ⟨k, m, hk, rfl, rfl, HA⟩ := hrel
      by_cases hlt : k < n
      · obtain ⟨b1, o1, rfl, hc1⟩ := HC1.out k hlt
        obtain ⟨b2, o2, rfl, hc2⟩ := HC2.out k hlt
        obtain ⟨⟨x, y, z⟩, hxyz⟩ : ∃ r, z1.getD k zR = r := ⟨_, rfl⟩
        obtain ⟨⟨x2, y2, z2'⟩, hx2⟩ : ∃ r, z2.getD k zR = r := ⟨_, rfl⟩
        have hlt1 : (k : Int) < (n : Int) := by omega
        have hk0 : (0 : Int) ≤ (k : Int) := by omega
        rw [hxyz] at hc1
        rw [hx2] at hc2
        have c0 : w.cell? ⟨b1, o1 + k * 3, none⟩ = some (.int .i64 x) := hc1.c0
        have c1 : w.cell? ⟨b1, o1 + k * 3 + 1, none⟩ = some (.int .i64 y) := hc1.c1
        have c2 : w.cell? ⟨b1, o1 + k * 3 + 2, none⟩ = some (.int .i64 z) := hc1.c2
        have d0 : w.cell? ⟨b2, o2 + k * 3, none⟩ = some (.int .i64 x2) := hc2.c0
        have d1 : w.cell? ⟨b2, o2 + k * 3 + 1, none⟩ = some (.int .i64 y2) := hc2.c1
        have d2 : w.cell? ⟨b2, o2 + k * 3 + 2, none⟩ = some (.int .i64 z2') := hc2.c2
        clear hc1 hc2
        by_cases he : (x, y, z) = (x2, y2, z2')
        · have HQ := Lib.hid (show ∀ j, j < k + 1 → z1.getD j zR = z2.getD j zR from fun j hj => by
            by_cases e : j = k
            · subst e; rw [hxyz, hx2]; exact he
            · exact HA.out j (by omega))
          have hq : ∀ w : World, (Op.equalIn 10000 128 (.agg #[.int .i64 x, .int .i64 y, .int .i64 z]) (.agg #[.int .i64 x2, .int .i64 y2, .int .i64 z2'])).run Try.prog w = .ok true w := fun w => by rw [eqlR, rg_beq, decide_eq_true he]
          clear he hxyz hx2
          go_wp2
          go_quiet (fail)
          go_wp2
          go_roundw
          case rel => exact ⟨k + 1, _, by omega, by go_num, rfl, HQ⟩
          case measure => simp [intOf]; omega
        · have HR := Lib.hid (sameL_no (z1 := z1) (z2 := z2) (k := k) (by rw [hxyz, hx2]; exact he))
          have hq : ∀ w : World, (Op.equalIn 10000 128 (.agg #[.int .i64 x, .int .i64 y, .int .i64 z]) (.agg #[.int .i64 x2, .int .i64 y2, .int .i64 z2'])).run Try.prog w = .ok false w := fun w => by rw [eqlR, rg_beq, decide_eq_false he]
          clear he hxyz hx2
          go_wp2
          go_quiet (fail)
          go_wp2
          go_ret
          exact ⟨ret_bool HR.out.symm, _, by rw [World.drewN_drewN]⟩
      · have HR := Lib.hid (sameL_yes (HN1.out.trans HN2.out.symm) (fun j hj => HA.out j (by have := HN1.out; omega)))
        go_wp2
        go_ret
        exact ⟨ret_bool HR.out.symm, _, rfl⟩
  · have HR := Lib.hid (sameL_len hn)
    have hne : ((z1.length : Int) != z2.length) = true := by simpa using (show ¬ (z1.length : Int) = z2.length by omega)
    clear hn h1 h2
    generalize z1.length = n1 at *
    generalize z2.length = n2 at *
    go_enter Try.func89, Try.ntmps89
    go_wp2
    go_quiet (fail)
    go_wp2
    go_ret
    exact ⟨ret_bool HR.out.symm, _, rfl⟩
set_option maxRecDepth 20000 in
theorem l05Same_no (p1 p2 : Nat) (s1 s2 : ByteArray) (v1 v2 : Value) (w : World) (hs : ¬ s1 = s2) (g1 : ProfIn w p1 s1 v1) (g2 : ProfIn w p2 s2 v2) :
    Calls Try.prog 89 #[.pointer (some ⟨p1, 0, none⟩), .pointer (some ⟨p2, 0, none⟩)] w fun e w' => e = .returned (.bool false) ∧ ∃ m, w' = w.drewN m := by
  obtain ⟨p10, p11⟩ := g1
  obtain ⟨p20, p21⟩ := g2
  have hq0 : (s1.toList != s2.toList) = true := by simpa using fun e => hs (bytes_listP e)
  have hq1 : (s1.toList == s2.toList) = false := beq_eq_false_iff_ne.2 (fun e => hs (bytes_listP e))
  clear hs
  go_enter Try.func89, Try.ntmps89
  go_wp2
  go_quiet (fail)
  go_wp2
  go_ret
  exact ⟨rfl, _, rfl⟩
theorem l05Same_any (p1 p2 : Nat) (s1 s2 : ByteArray) (z1 z2 : List Rg) (v1 v2 : Value) (w : World) (g1 : ProfIn w p1 s1 v1) (g2 : ProfIn w p2 s2 v2) (h1 : RingsAt w v1 z1) (h2 : RingsAt w v2 z2) :
    Calls Try.prog 89 #[.pointer (some ⟨p1, 0, none⟩), .pointer (some ⟨p2, 0, none⟩)] w fun e w' => e = .returned (.bool (sameP s1 s2 z1 z2)) ∧ ∃ m, w' = w.drewN m := by
  unfold sameP
  by_cases e : s1 = s2
  · subst e
    rw [decide_eq_true rfl]
    exact l05Same_eq p1 p2 s1 z1 z2 v1 v2 w g1 g2 h1 h2
  · rw [decide_eq_false e]
    exact l05Same_no p1 p2 s1 s2 v1 v2 w e g1 g2
end Go.Proofs.Ytpllmehcndinkaa
