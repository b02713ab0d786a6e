/- Profiles: the thinnest ring and the widest one, the reference model's. -/
import Derived.Test.YtojkijcdfnfnlaaProfFuns
namespace Go.Proofs.Ytojkijcdfnfnlaa
open Go.ChangeShapes Go.WideShapes Go.ChangeAt Go.RowKit

/-- The first index at which g is least, among 0 to i. -/
def minI (g : Nat → Int) : Nat → Nat
  | 0 => 0
  | i + 1 => if g (i + 1) < g (minI g i) then i + 1 else minI g i
theorem minI_le (g : Nat → Int) (i : Nat) : minI g i ≤ i := by
  induction i with
  | zero => exact Nat.le_refl _
  | succ i ih => unfold minI; split <;> omega
def wallF (rs : List Rg) (i : Nat) : Int := (rs.getD i zR).1 - (rs.getD i zR).2.1
def wideF (rs : List Rg) (i : Nat) : Int := -(rs.getD i zR).1
def thinR (s : ByteArray) (rs : List Rg) : Int := if profB s rs = true then (minI (wallF rs) (rs.length - 1) : Nat) else 0
def widR (s : ByteArray) (rs : List Rg) : Int := if profB s rs = true then (minI (wideF rs) (rs.length - 1) : Nat) else 0
set_option maxHeartbeats 4000000 in
set_option maxRecDepth 20000 in
theorem specThinnestRing_any (s : ByteArray) (v : Value) (rs : List Rg) (w : World) (hv : RingsAt w v rs) (hs : s.size ≤ maxLen) :
    Calls Try.prog 32 #[.agg #[.string s, v]] w fun e w' => e = .returned (.tuple #[.int .i64 (thinR s rs), .int .i64 (codeP s rs)]) ∧ Below w.heap.size w w' := by
  have HI := Lib.hid hv
  obtain ⟨a, c, rfl⟩ := rings_form hv
  clear hv
  rcases Bool.eq_false_or_eq_true (profB s rs) with hp | hp
  · have HC0 := Lib.hid (show codeP s rs = 0 by unfold codeP; rw [if_pos hp])
    have HR := Lib.hid (show thinR s rs = (minI (wallF rs) (rs.length - 1) : Nat) by unfold thinR; rw [if_pos hp])
    have HP := Lib.hid hp
    have HRB := Lib.hid (fun i hi => ring_iff.1 (prof_ring hp i hi))
    obtain ⟨-, ⟨n1, n2⟩, -, -⟩ := prof_iff.1 hp
    clear hp
    generalize hn : rs.length = n at *
    have HN := Lib.hid hn
    clear hn
    go_enter Try.func32, Try.ntmps32
    go_wp2_with fail
    have hal := alloc_lt2 w (.cells #[.string s, .slice a n c] 35)
    have hpa := prof_alloc w s (.slice a n c) 35
    have HBA := Lib.hid (below_al w (.cells #[.string s, .slice a n c] 35))
    generalize w.alloc (.cells #[.string s, .slice a n c] 35) = wA at *
    have HIA := Lib.hid (rings_kept HBA.out HI.out)
    refine (l05Ok_any _ s _ rs _ hpa HIA.out hs).mono ?_
    rintro e w1 ⟨rfl, hb⟩
    rw [HP.out]
    obtain ⟨p0, p1⟩ := prof_keep hb hal hpa
    have HI1 := Lib.hid (rings_kept hb HIA.out)
    have HB := Lib.hid (below_of HBA.out hb HBA.out.size)
    clear hb hpa
    obtain ⟨-, ⟨a', c', hv, h0⟩ | ⟨b, off, cap, hv, hbl, hc⟩⟩ := HI1.out
    · have := HN.out
      rw [h0] at this; simp at this; omega
    · simp only [Value.slice.injEq] at hv
      obtain ⟨rfl, -, rfl⟩ := hv
      have HC := Lib.hid (fun i (hi : i < n) => ring_in hc i (by rw [HN.out]; exact hi))
      clear hc
      go_wp2
      go_loopw [4, 5] (fun best i wr => ∃ k m : Nat, k + 1 ≤ n ∧ i = .int .i64 (k + 1) ∧ best = .int .i64 (minI (wallF rs) k : Nat) ∧ wr = w1.drewN m) (fun _ i _ => n - (intOf i).toNat)
      case atStart => exact ⟨0, 0, by omega, rfl, rfl, rfl⟩
      case round =>
        obtain ⟨k, m, hk, rfl, rfl, rfl⟩ := hrel
        by_cases hlt : k + 1 < n
        · have HL := Lib.hid (minI_le (wallF rs) k)
          have HNX := Lib.hid (show minI (wallF rs) (k + 1) = if wallF rs (k + 1) < wallF rs (minI (wallF rs) k) then k + 1 else minI (wallF rs) k from rfl)
          obtain ⟨q, hq⟩ : ∃ q, minI (wallF rs) k = q := ⟨_, rfl⟩
          rw [hq] at HL HNX ⊢
          clear hq
          have hqk := HL.out
          have r1 := HC.out (k + 1) hlt
          have r2 := HC.out q (by omega)
          have b1 := HRB.out (k + 1) hlt
          have b2 := HRB.out q (by omega)
          have HG1 := Lib.hid (show wallF rs (k + 1) = (rs.getD (k + 1) zR).1 - (rs.getD (k + 1) zR).2.1 from rfl)
          have HG2 := Lib.hid (show wallF rs q = (rs.getD q zR).1 - (rs.getD q zR).2.1 from rfl)
          obtain ⟨⟨x, y, z⟩, hxyz⟩ : ∃ r, rs.getD (k + 1) zR = r := ⟨_, rfl⟩
          obtain ⟨⟨x2, y2, z2⟩, hx2⟩ : ∃ r, rs.getD q zR = r := ⟨_, rfl⟩
          rw [hxyz] at r1 b1 HG1
          rw [hx2] at r2 b2 HG2
          clear hxyz hx2
          have c0 : w1.cell? ⟨b, off + (k + 1) * 3, none⟩ = some (.int .i64 x) := r1.c0
          have d0 : w1.cell? ⟨b, off + q * 3, none⟩ = some (.int .i64 x2) := r2.c0
          have c1 : w1.cell? ⟨b, off + (k + 1) * 3 + 1, none⟩ = some (.int .i64 y) := r1.c1
          have d1 : w1.cell? ⟨b, off + q * 3 + 1, none⟩ = some (.int .i64 y2) := r2.c1
          simp only at b1 b2
          have hw1 : IntKind.i64.wrap (x - y) = x - y := IntWalk.i64_in _ (by omega)
          have hw2 : IntKind.i64.wrap (x2 - y2) = x2 - y2 := IntWalk.i64_in _ (by omega)
          have hk1 : ((k : Int) + 1) < (n : Int) := by omega
          have hk0 : (0 : Int) ≤ (k : Int) + 1 := by omega
          have hq1 : (q : Int) < (n : Int) := by omega
          have hq0 : (0 : Int) ≤ (q : Int) := by omega
          have hkk : ((k : Int) + 1) = ((k + 1 : Nat) : Int) := by omega
          clear r1 r2
          by_cases ht : x - y < x2 - y2
          · have HM := Lib.hid (show minI (wallF rs) (k + 1) = k + 1 by rw [HNX.out, HG1.out, HG2.out]; exact if_pos (by simp only; omega))
            clear b1 b2
            rw [hkk] at hk1 hk0 ⊢
            generalize k + 1 = j at *
            go_wp2
            go_quiet (fail)
            go_wp2
            go_roundw
            case rel => exact ⟨j, _, by omega, by go_num, by rw [HM.out], rfl⟩
            case measure => simp [intOf]; omega
          · have HM := Lib.hid (show minI (wallF rs) (k + 1) = q by rw [HNX.out, HG1.out, HG2.out]; exact if_neg (by simp only; omega))
            clear b1 b2
            rw [hkk] at hk1 hk0 ⊢
            generalize k + 1 = j at *
            go_wp2
            go_quiet (fail)
            go_wp2
            go_roundw
            case rel => exact ⟨j, _, by omega, by go_num, by rw [HM.out], rfl⟩
            case measure => simp [intOf]; omega
        · have hkn : k = n - 1 := by omega
          have HR2 := Lib.hid (show thinR s rs = (minI (wallF rs) k : Nat) by rw [HR.out, hkn])
          have hkk : ((k : Int) + 1) = ((n : Nat) : Int) := by omega
          generalize minI (wallF rs) k = q at *
          rw [hkk]
          clear hkk hkn
          go_wp2
          go_ret2
          exact ⟨ret_two HR2.out.symm HC0.out.symm, HB.out.os, HB.out.tape, HB.out.output, HB.out.size, HB.out.block⟩
  · have HR := Lib.hid (show thinR s rs = 0 ∧ codeP s rs = 1 by unfold thinR codeP; rw [hp]; exact ⟨rfl, rfl⟩)
    generalize hn : rs.length = n at *
    clear hn
    go_enter Try.func32, Try.ntmps32
    go_wp2_with fail
    refine (l05Ok_any _ s _ rs _ (prof_alloc _ _ _ _) (rings_kept (below_al _ _) HI.out) hs).mono ?_
    rintro e w1 ⟨rfl, hb⟩
    rw [hp]
    have HB := Lib.hid (below_of (below_al _ _) hb (by simp))
    clear hb
    go_wp2
    go_ret2
    exact ⟨ret_two HR.out.1.symm HR.out.2.symm, HB.out⟩
set_option maxHeartbeats 4000000 in
set_option maxRecDepth 20000 in
theorem specWidestRing_any (s : ByteArray) (v : Value) (rs : List Rg) (w : World) (hv : RingsAt w v rs) (hs : s.size ≤ maxLen) :
    Calls Try.prog 34 #[.agg #[.string s, v]] w fun e w' => e = .returned (.tuple #[.int .i64 (widR s rs), .int .i64 (codeP s rs)]) ∧ Below w.heap.size w w' := by
  have HI := Lib.hid hv
  obtain ⟨a, c, rfl⟩ := rings_form hv
  clear hv
  rcases Bool.eq_false_or_eq_true (profB s rs) with hp | hp
  · have HC0 := Lib.hid (show codeP s rs = 0 by unfold codeP; rw [if_pos hp])
    have HR := Lib.hid (show widR s rs = (minI (wideF rs) (rs.length - 1) : Nat) by unfold widR; rw [if_pos hp])
    have HP := Lib.hid hp
    have HRB := Lib.hid (fun i hi => ring_iff.1 (prof_ring hp i hi))
    obtain ⟨-, ⟨n1, n2⟩, -, -⟩ := prof_iff.1 hp
    clear hp
    generalize hn : rs.length = n at *
    have HN := Lib.hid hn
    clear hn
    go_enter Try.func34, Try.ntmps34
    go_wp2_with fail
    have hal := alloc_lt2 w (.cells #[.string s, .slice a n c] 35)
    have hpa := prof_alloc w s (.slice a n c) 35
    have HBA := Lib.hid (below_al w (.cells #[.string s, .slice a n c] 35))
    generalize w.alloc (.cells #[.string s, .slice a n c] 35) = wA at *
    have HIA := Lib.hid (rings_kept HBA.out HI.out)
    refine (l05Ok_any _ s _ rs _ hpa HIA.out hs).mono ?_
    rintro e w1 ⟨rfl, hb⟩
    rw [HP.out]
    obtain ⟨p0, p1⟩ := prof_keep hb hal hpa
    have HI1 := Lib.hid (rings_kept hb HIA.out)
    have HB := Lib.hid (below_of HBA.out hb HBA.out.size)
    clear hb hpa
    obtain ⟨-, ⟨a', c', hv, h0⟩ | ⟨b, off, cap, hv, hbl, hc⟩⟩ := HI1.out
    · have := HN.out
      rw [h0] at this; simp at this; omega
    · simp only [Value.slice.injEq] at hv
      obtain ⟨rfl, -, rfl⟩ := hv
      have HC := Lib.hid (fun i (hi : i < n) => ring_in hc i (by rw [HN.out]; exact hi))
      clear hc
      go_wp2
      go_loopw [4, 5] (fun best i wr => ∃ k m : Nat, k + 1 ≤ n ∧ i = .int .i64 (k + 1) ∧ best = .int .i64 (minI (wideF rs) k : Nat) ∧ wr = w1.drewN m) (fun _ i _ => n - (intOf i).toNat)
      case atStart => exact ⟨0, 0, by omega, rfl, rfl, rfl⟩
      case round =>
        obtain ⟨k, m, hk, rfl, rfl, rfl⟩ := hrel
        by_cases hlt : k + 1 < n
        · have HL := Lib.hid (minI_le (wideF rs) k)
          have HNX := Lib.hid (show minI (wideF rs) (k + 1) = if wideF rs (k + 1) < wideF rs (minI (wideF rs) k) then k + 1 else minI (wideF rs) k from rfl)
          obtain ⟨q, hq⟩ : ∃ q, minI (wideF rs) k = q := ⟨_, rfl⟩
          rw [hq] at HL HNX ⊢
          clear hq
          have hqk := HL.out
          have r1 := HC.out (k + 1) hlt
          have r2 := HC.out q (by omega)
          have b1 := HRB.out (k + 1) hlt
          have b2 := HRB.out q (by omega)
          have HG1 := Lib.hid (show wideF rs (k + 1) = -(rs.getD (k + 1) zR).1 from rfl)
          have HG2 := Lib.hid (show wideF rs q = -(rs.getD q zR).1 from rfl)
          obtain ⟨⟨x, y, z⟩, hxyz⟩ : ∃ r, rs.getD (k + 1) zR = r := ⟨_, rfl⟩
          obtain ⟨⟨x2, y2, z2⟩, hx2⟩ : ∃ r, rs.getD q zR = r := ⟨_, rfl⟩
          rw [hxyz] at r1 b1 HG1
          rw [hx2] at r2 b2 HG2
          clear hxyz hx2
          have c0 : w1.cell? ⟨b, off + (k + 1) * 3, none⟩ = some (.int .i64 x) := r1.c0
          have d0 : w1.cell? ⟨b, off + q * 3, none⟩ = some (.int .i64 x2) := r2.c0
          simp only at b1 b2
          have hk1 : ((k : Int) + 1) < (n : Int) := by omega
          have hk0 : (0 : Int) ≤ (k : Int) + 1 := by omega
          have hq1 : (q : Int) < (n : Int) := by omega
          have hq0 : (0 : Int) ≤ (q : Int) := by omega
          have hkk : ((k : Int) + 1) = ((k + 1 : Nat) : Int) := by omega
          clear r1 r2
          by_cases ht : x2 < x
          · have HM := Lib.hid (show minI (wideF rs) (k + 1) = k + 1 by rw [HNX.out, HG1.out, HG2.out]; exact if_pos (by simp only; omega))
            clear b1 b2
            rw [hkk] at hk1 hk0 ⊢
            generalize k + 1 = j at *
            go_wp2
            go_quiet (fail)
            go_wp2
            go_roundw
            case rel => exact ⟨j, _, by omega, by go_num, by rw [HM.out], rfl⟩
            case measure => simp [intOf]; omega
          · have HM := Lib.hid (show minI (wideF rs) (k + 1) = q by rw [HNX.out, HG1.out, HG2.out]; exact if_neg (by simp only; omega))
            clear b1 b2
            rw [hkk] at hk1 hk0 ⊢
            generalize k + 1 = j at *
            go_wp2
            go_quiet (fail)
            go_wp2
            go_roundw
            case rel => exact ⟨j, _, by omega, by go_num, by rw [HM.out], rfl⟩
            case measure => simp [intOf]; omega
        · have hkn : k = n - 1 := by omega
          have HR2 := Lib.hid (show widR s rs = (minI (wideF rs) k : Nat) by rw [HR.out, hkn])
          have hkk : ((k : Int) + 1) = ((n : Nat) : Int) := by omega
          generalize minI (wideF rs) k = q at *
          rw [hkk]
          clear hkk hkn
          go_wp2
          go_ret2
          exact ⟨ret_two HR2.out.symm HC0.out.symm, HB.out.os, HB.out.tape, HB.out.output, HB.out.size, HB.out.block⟩
  · have HR := Lib.hid (show widR s rs = 0 ∧ codeP s rs = 1 by unfold widR codeP; rw [hp]; exact ⟨rfl, rfl⟩)
    generalize hn : rs.length = n at *
    clear hn
    go_enter Try.func34, Try.ntmps34
    go_wp2_with fail
    refine (l05Ok_any _ s _ rs _ (prof_alloc _ _ _ _) (rings_kept (below_al _ _) HI.out) hs).mono ?_
    rintro e w1 ⟨rfl, hb⟩
    rw [hp]
    have HB := Lib.hid (below_of (below_al _ _) hb (by simp))
    clear hb
    go_wp2
    go_ret2
    exact ⟨ret_two HR.out.1.symm HR.out.2.symm, HB.out⟩
end Go.Proofs.Ytojkijcdfnfnlaa
