/- The class of a deviation, and the worst one of a list: both programs' answers. -/
import Derived.Test.YtfleececlafjkaaInts
import Derived.Test.YtfleececlafjkaaWithin
import Derived.Test.YtfleececlafjkaaPick
import Derived.Deep.QuietTactic
import Derived.BigQuiet
import Derived.Deep.RegionWith
set_option linter.unusedVariables false
namespace Go.Proofs.Ytfleececlafjkaa
open Go.ChangeShapes Go.WideShapes Go.ChangeAt Go.RowKit

/-- The class of a deviation. -/
def clsI (n : Int) : Int := if inB n (-20) 20 then 1 else if inB n (-50) 50 then 2 else if inB n (-100) 100 then 3 else 4
theorem cls_bd (n : Int) : 1 ≤ clsI n ∧ clsI n ≤ 4 := by unfold clsI; split <;> (try split) <;> (try split) <;> omega
theorem retC_i64 {a b : Int} (h : a = b) : Ending.returned (.int .i64 a) = .returned (.int .i64 b) := by rw [h]
theorem retC_u64 {a b : Int} (h : a = b) : Ending.returned (.int .u64 a) = .returned (.int .u64 b) := by rw [h]
def maxC (a b : Int) : Int := if b < a then a else b
theorem l11Class_any (n : Int) (w : World) :
    Calls Try.prog 41 #[.int .i64 n] w fun e w' => e = .returned (.int .i64 (clsI n)) ∧ w = w' := by
  rcases Bool.eq_false_or_eq_true (inB n (-20) 20) with h1 | h1
  · have HF := Lib.hid (show clsI n = 1 by unfold clsI; rw [if_pos h1])
    have H1 := Lib.hid h1
    clear h1
    go_enter Try.func41, Try.ntmps41
    go_wp2_with fail
    refine (l00In_any _ _ _ _).mono ?_
    rintro e w2 ⟨rfl, rfl⟩
    rw [H1.out]
    go_wp2
    go_ret
    exact ⟨retC_i64 HF.out.symm, rfl⟩
  · have H1 := Lib.hid h1
    rcases Bool.eq_false_or_eq_true (inB n (-50) 50) with h2 | h2
    · have HF := Lib.hid (show clsI n = 2 by unfold clsI; rw [if_neg (by rw [h1]; simp), if_pos h2])
      have H2 := Lib.hid h2
      clear h1 h2
      go_enter Try.func41, Try.ntmps41
      go_wp2_with fail
      refine (l00In_any _ _ _ _).mono ?_
      rintro e w2 ⟨rfl, rfl⟩
      rw [H1.out]
      go_wp2_with fail
      refine (l00In_any _ _ _ _).mono ?_
      rintro e w2 ⟨rfl, rfl⟩
      rw [H2.out]
      go_wp2
      go_ret
      exact ⟨retC_i64 HF.out.symm, rfl⟩
    · have H2 := Lib.hid h2
      rcases Bool.eq_false_or_eq_true (inB n (-100) 100) with h3 | h3
      · have HF := Lib.hid (show clsI n = 3 by unfold clsI; rw [if_neg (by rw [h1]; simp), if_neg (by rw [h2]; simp), if_pos h3])
        have H3 := Lib.hid h3
        clear h1 h2 h3
        go_enter Try.func41, Try.ntmps41
        go_wp2_with fail
        refine (l00In_any _ _ _ _).mono ?_
        rintro e w2 ⟨rfl, rfl⟩
        rw [H1.out]
        go_wp2_with fail
        refine (l00In_any _ _ _ _).mono ?_
        rintro e w2 ⟨rfl, rfl⟩
        rw [H2.out]
        go_wp2_with fail
        refine (l00In_any _ _ _ _).mono ?_
        rintro e w2 ⟨rfl, rfl⟩
        rw [H3.out]
        go_wp2
        go_ret
        exact ⟨retC_i64 HF.out.symm, rfl⟩
      · have HF := Lib.hid (show clsI n = 4 by unfold clsI; rw [if_neg (by rw [h1]; simp), if_neg (by rw [h2]; simp), if_neg (by rw [h3]; simp)])
        have H3 := Lib.hid h3
        clear h1 h2 h3
        go_enter Try.func41, Try.ntmps41
        go_wp2_with fail
        refine (l00In_any _ _ _ _).mono ?_
        rintro e w2 ⟨rfl, rfl⟩
        rw [H1.out]
        go_wp2_with fail
        refine (l00In_any _ _ _ _).mono ?_
        rintro e w2 ⟨rfl, rfl⟩
        rw [H2.out]
        go_wp2_with fail
        refine (l00In_any _ _ _ _).mono ?_
        rintro e w2 ⟨rfl, rfl⟩
        rw [H3.out]
        go_wp2
        go_ret
        exact ⟨retC_i64 HF.out.symm, rfl⟩
theorem specClassOf_any (n : Int) (w : World) :
    Calls Try.prog 12 #[.int .i64 n] w fun e w' => e = .returned (.int .i64 (clsI n)) ∧ Below w.heap.size w w' := by
  go_enter Try.func12, Try.ntmps12
  go_wp2_with fail
  refine (l11Class_any n _).mono ?_
  rintro e w2 ⟨rfl, rfl⟩
  go_wp2
  go_ret
  exact ⟨rfl, Below.refl _ _⟩
def magC (n : Int) : Int := n.natAbs
theorem magnitudeC_any (n : Int) (w : World) (h : -9223372036854775808 ≤ n ∧ n ≤ 9223372036854775807) :
    Calls Try.prog 43 #[.int .i64 n] w fun e w' => e = .returned (.int .u64 (magC n)) ∧ w = w' := by
  by_cases hn : n < 0
  · have HF := Lib.hid (show IntKind.u64.wrap (-(IntKind.u64.wrap n)) = magC n by
      simp [magC, IntKind.wrap, IntKind.bits, IntKind.signed]; omega)
    go_enter Try.func43, Try.ntmps43
    go_wp2
    go_ret
    exact ⟨retC_u64 (by first | exact HF.out | rfl), rfl⟩
  · have HF := Lib.hid (show magC n = n by unfold magC; omega)
    go_enter Try.func43, Try.ntmps43
    go_wp2
    go_ret
    exact ⟨retC_u64 HF.out.symm, rfl⟩
def stepV (v a z : Int) : Int := if z < v then a + 1 else a
/-- One more than the number of the first k limits that v is past. -/
def cntV (v : Int) (zs : List Int) : Nat → Int
  | 0 => 1
  | k + 1 => stepV v (cntV v zs k) (zs.getD k 0)
theorem cntV_bd (v : Int) (zs : List Int) (k : Nat) : 1 ≤ cntV v zs k ∧ cntV v zs k ≤ 1 + k := by
  induction k with
  | zero => simp [cntV]
  | succ k ih => unfold cntV stepV; split <;> omega
theorem classWithin_any (v : Int) (zs : List Int) (b off n cap : Nat) (w : World) (hn : zs.length = n) (hbig : n ≤ 1048576)
    (hc : ∀ j, j < n → w.cell? ⟨b, off + j, none⟩ = some (.int .u64 (zs.getD j 0))) :
    Calls Try.prog 42 #[.int .u64 v, .slice (some ⟨b, off, none⟩) n cap] w fun e w' => e = .returned (.int .i64 (cntV v zs n)) ∧ w = w' := by
  have HC := Lib.hid hc
  clear hc hn
  go_enter Try.func42, Try.ntmps42
  go_wp2
  go_loop [5, 10] (fun a i => ∃ k : Nat, k ≤ n ∧ i = .int .i64 k ∧ a = .int .i64 (cntV v zs k)) (fun _ i => n - (intOf i).toNat)
  case atStart => exact ⟨0, by omega, rfl, rfl⟩
  case round =>
    obtain ⟨k, hk, rfl, rfl⟩ := hrel
    by_cases hlt : k < n
    · have hcell := HC.out k hlt
      have HS := Lib.hid (show cntV v zs (k + 1) = stepV v (cntV v zs k) (zs.getD k 0) from rfl)
      obtain ⟨m0, m1⟩ := cntV_bd v zs k
      generalize hz : zs.getD k 0 = z at *
      generalize hm : cntV v zs k = m at *
      clear hz hm
      by_cases h1 : z < v
      · go_wp2
        go_round
        case rel => exact ⟨k + 1, by omega, by go_num, by rw [HS.out, stepV, if_pos h1]⟩
        case measure => simp [intOf]; omega
      · go_wp2
        go_round
        case rel => exact ⟨k + 1, by omega, by go_num, by rw [HS.out, stepV, if_neg h1]⟩
        case measure => simp [intOf]; omega
    · obtain rfl : k = n := by omega
      generalize hm : cntV v zs k = m at *
      have HM := Lib.hid hm
      clear hm
      go_wp2
      go_ret
      exact ⟨retC_i64 (by first | rfl | exact HM.out.symm), rfl⟩
theorem cellC3 (w : World) (x y z : Int) (T : TypeId) : ∀ j, j < 3 → (w.alloc (.cells #[.int .u64 x, .int .u64 y, .int .u64 z] T)).cell? ⟨w.heap.size, 0 + j, none⟩ = some (.int .u64 ([x, y, z].getD j 0)) := by
  intro j hj
  match j, hj with
  | 0, _ => go_simp
  | 1, _ => go_simp
  | 2, _ => go_simp
theorem cls_cnt (n : Int) : cntV (magC n) [20, 50, 100] 3 = clsI n := by
  have e : ∀ m : Int, inB n (-m) m = decide (¬ m < (n.natAbs : Int)) := fun m => by
    unfold inB; rw [Bool.eq_iff_iff]; simp only [Bool.and_eq_true, decide_eq_true_eq]; omega
  have d : cntV (magC n) [20, 50, 100] 3 = stepV n.natAbs (stepV n.natAbs (stepV n.natAbs 1 20) 50) 100 := rfl
  rw [d]
  unfold clsI stepV
  rw [e 20, e 50, e 100]
  generalize (n.natAbs : Int) = m
  by_cases h1 : 20 < m <;> by_cases h2 : 50 < m <;> by_cases h3 : 100 < m <;> simp [h1, h2, h3] <;> omega
theorem implClassOf_any (n : Int) (h : -9223372036854775808 ≤ n ∧ n ≤ 9223372036854775807) (w : World) :
    Calls Try.prog 13 #[.int .i64 n] w fun e w' => e = .returned (.int .i64 (clsI n)) ∧ Below w.heap.size w w' := by
  have HF := Lib.hid (cls_cnt n)
  have HM := Lib.hid (magnitudeC_any n w h)
  generalize magC n = m at *
  clear h
  go_enter Try.func13, Try.ntmps13
  go_wp2_with fail
  refine HM.out.mono ?_
  rintro e w2 ⟨rfl, rfl⟩
  go_wp2_with fail
  refine (classWithin_any m [20, 50, 100] _ 0 3 3 _ rfl (by omega) (cellC3 _ _ _ _ _)).mono ?_
  rintro e w2 ⟨rfl, rfl⟩
  rw [HF.out]
  go_wp2
  go_ret
  exact ⟨rfl, (Below.refl _ _).alloc (Nat.le_refl _) _⟩
end Go.Proofs.Ytfleececlafjkaa
