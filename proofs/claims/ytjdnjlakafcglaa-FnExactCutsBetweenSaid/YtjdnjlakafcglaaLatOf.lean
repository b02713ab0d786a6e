/- The zone of a ring: both programs' answers. -/
import Derived.Test.YtjdnjlakafcglaaModImpl
import Derived.Test.YtjdnjlakafcglaaWallMath
set_option linter.unusedVariables false
namespace Go.Proofs.Ytjdnjlakafcglaa
open Go.ChangeShapes Go.WideShapes Go.ChangeAt Go.RowKit

def zoneN (zs : List Int) (r : Int) : Nat → Nat
  | 0 => 0
  | n + 1 => if zs.getD n 0 ≤ r then n else zoneN zs r n
theorem zoneN_yes {zs : List Int} {r : Int} {n : Nat} (h : zs.getD n 0 ≤ r) : zoneN zs r (n + 1) = n := by unfold zoneN; rw [if_pos h]
theorem zoneN_no {zs : List Int} {r : Int} {n : Nat} (h : ¬ zs.getD n 0 ≤ r) : zoneN zs r (n + 1) = zoneN zs r n := by
  conv => lhs; unfold zoneN
  rw [if_neg h]
theorem zoneN_lt (zs : List Int) (r : Int) : ∀ n, 0 < n → zoneN zs r n < n
  | 0, h => by omega
  | 1, _ => by unfold zoneN; split <;> simp [zoneN]
  | n + 2, _ => by
    have := zoneN_lt zs r (n + 1) (by omega)
    by_cases h : zs.getD (n + 1) 0 ≤ r
    · rw [zoneN_yes h]; omega
    · rw [zoneN_no h]; omega
theorem zones_first {zs : List Int} (h : zonesB zs = true) : zs.getD 0 0 = 0 := by
  unfold zonesB at h
  rw [Bool.and_eq_true, Bool.and_eq_true, decide_eq_true_eq, decide_eq_true_eq] at h
  exact h.2.1
/-- ZoneOf's two answers. -/
def zoR (zs : List Int) (r : Int) : Int := if zonesB zs = true ∧ inB r 0 31 = true then (zoneN zs r zs.length : Nat) else 0
def zoC (zs : List Int) (r : Int) : Int := if zonesB zs = true then if inB r 0 31 = true then 0 else 2 else 1
theorem zo_0 {zs : List Int} {r : Int} (h : zonesB zs = true) (h2 : inB r 0 31 = true) : zoR zs r = (zoneN zs r zs.length : Nat) ∧ zoC zs r = 0 := by unfold zoR zoC; rw [if_pos ⟨h, h2⟩, if_pos h, if_pos h2]; exact ⟨rfl, rfl⟩
theorem zo_2 {zs : List Int} {r : Int} (h : zonesB zs = true) (h2 : inB r 0 31 = false) : zoR zs r = 0 ∧ zoC zs r = 2 := by unfold zoR zoC; rw [if_neg (by rw [h2]; simp), if_pos h, if_neg (by rw [h2]; simp)]; exact ⟨rfl, rfl⟩
theorem zo_1 {zs : List Int} {r : Int} (h : zonesB zs = false) : zoR zs r = 0 ∧ zoC zs r = 1 := by unfold zoR zoC; rw [if_neg (by rw [h]; simp), if_neg (by rw [h]; simp)]; exact ⟨rfl, rfl⟩
theorem ret_zo {a b c d : Int} (h : a = b) (k : c = d) : Ending.returned (.tuple #[.int .i64 a, .int .i64 c]) = .returned (.tuple #[.int .i64 b, .int .i64 d]) := by rw [h, k]
set_option maxHeartbeats 1000000 in
theorem l09Zone_some (zs : List Int) (r : Int) (b off cap n : Nat) (w : World) (hn : n ≤ 64) (hc : ∀ j, j < n → w.cell? ⟨b, off + j, none⟩ = some (.int .i64 (zs.getD j 0))) :
    Calls Try.prog 65 #[.slice (some ⟨b, off, none⟩) n cap, .int .i64 r] w fun e w' => e = .returned (.int .i64 (zoneN zs r n : Nat)) ∧ w = w' := by
  have HC := Lib.hid hc
  clear hc
  go_enter Try.func65, Try.ntmps65
  go_wp2
  go_loop [5, 6] (fun kz i => ∃ k : Nat, k ≤ n ∧ i = .int .i64 k ∧ kz = .int .i64 (zoneN zs r k : Nat)) (fun _ i => n - (intOf i).toNat)
  case atStart => exact ⟨0, by omega, rfl, rfl⟩
  case round =>
    obtain ⟨k, hk, rfl, rfl⟩ := hrel
    by_cases hlt : k < n
    · have hcell := HC.out k hlt
      have hlt1 : (k : Int) < (n : Int) := by omega
      have hk0 : (0 : Int) ≤ (k : Int) := by omega
      by_cases hz : zs.getD k 0 ≤ r
      · have HY := Lib.hid (zoneN_yes hz)
        generalize zs.getD k 0 = z at *
        go_wp2
        go_round
        case rel => exact ⟨k + 1, by omega, by go_num, by rw [HY.out]⟩
        case measure => simp [intOf]; omega
      · have HY := Lib.hid (zoneN_no hz)
        generalize zs.getD k 0 = z at *
        go_wp2
        go_round
        case rel => exact ⟨k + 1, by omega, by go_num, by rw [HY.out]⟩
        case measure => simp [intOf]; omega
    · obtain rfl : k = n := by omega
      go_wp2
      go_ret
      exact ⟨rfl, rfl⟩
set_option maxHeartbeats 1000000 in
theorem zonesOf_any (zs : List Int) (r : Int) (b off cap n : Nat) (w : World) (hn : n ≤ 64) (h1 : 0 < n) (h0 : zs.getD 0 0 ≤ r) (hc : ∀ j, j < n → w.cell? ⟨b, off + j, none⟩ = some (.int .i64 (zs.getD j 0))) :
    Calls Try.prog 68 #[.slice (some ⟨b, off, none⟩) n cap, .int .i64 r] w fun e w' => e = .returned (.int .i64 (zoneN zs r n : Nat)) ∧ w = w' := by
  have HC := Lib.hid hc
  have H0 := Lib.hid h0
  have hs : (n : Int) - 1 = ((n - 1 : Nat) : Int) := by omega
  have HS := Lib.hid hs
  clear hc h0 hs
  go_enter Try.func68, Try.ntmps68
  go_wp2
  go_loop [5] (fun i => ∃ k : Nat, k < n ∧ i = .int .i64 k ∧ zoneN zs r n = zoneN zs r (k + 1)) (fun i => (intOf i).toNat)
  case atStart => exact ⟨n - 1, by omega, by rw [← HS.out], by rw [Nat.sub_add_cancel h1]⟩
  case round =>
    obtain ⟨k, hk, rfl, hzn⟩ := hrel
    have HN := Lib.hid hzn
    clear hzn
    have hcell := HC.out k hk
    have hlt1 : (k : Int) < (n : Int) := by omega
    have hk0 : (0 : Int) ≤ (k : Int) := by omega
    by_cases hz : zs.getD k 0 ≤ r
    · have HY := Lib.hid (zoneN_yes hz)
      generalize zs.getD k 0 = z at *
      have hz2 : ¬ r < z := by omega
      clear hz
      go_wp2
      go_ret
      exact ⟨ret_i64 (by rw [HN.out, HY.out]), rfl⟩
    · have HY := Lib.hid (zoneN_no hz)
      obtain ⟨q, rfl⟩ : ∃ q, k = q + 1 := ⟨k - 1, by
        have : k ≠ 0 := by intro e; subst e; exact hz H0.out
        omega⟩
      generalize zs.getD (q + 1) 0 = z at *
      have hz2 : r < z := by omega
      clear hz
      go_wp2
      go_round
      case rel => exact ⟨q, by omega, by go_num, by rw [HN.out, HY.out]⟩
      case measure => simp [intOf]
set_option maxHeartbeats 2000000 in
theorem specZO_any (zs : List Int) (r : Int) (v : Value) (w : World) (h : IntsAt w v zs) :
    Calls Try.prog 22 #[v, .int .i64 r] w fun e w' => e = .returned (.tuple #[.int .i64 (zoR zs r), .int .i64 (zoC zs r)]) ∧ Below w.heap.size w w' := by
  have hl := h.1
  by_cases h1 : 1 ≤ zs.length ∧ zs.length ≤ 8
  · obtain ⟨b, off, cap, rfl, hb, hc⟩ := ints_cells h (by omega)
    have c0 : w.cell? ⟨b, off, none⟩ = some (.int .i64 (zs.getD 0 0)) := hc 0 (by omega)
    have HE := Lib.hid (fun h2 => zones_end (zs := zs) h1 h2)
    have HNZ := Lib.hid (fun h2 => zones_no2 (zs := zs) h2)
    have HR := Lib.hid (rises_any 0 31 zs b off _ cap w rfl (by omega) hc)
    have HZO := Lib.hid (fun W (hW : Below w.heap.size w W) => l09Zone_some zs r b off cap zs.length W (by omega) (fun j hj => (below_cell hW _ _ hb).trans (hc j hj)))
    have H0 := Lib.hid (fun a b => zo_0 (zs := zs) (r := r) a b)
    have H2 := Lib.hid (fun a b => zo_2 (zs := zs) (r := r) a b)
    have H1 := Lib.hid (fun a => zo_1 (zs := zs) (r := r) a)
    clear h hc
    generalize zs.length = n at *
    have h2 : ¬ (n : Int) < 1 := by omega
    have h3 : ¬ 8 < (n : Int) := by omega
    have h4 : (0 : Int) < (n : Int) := by omega
    clear h1
    by_cases h0 : zs.getD 0 0 = 0
    · have HZ := Lib.hid (HE.out h0)
      rw [h0] at c0
      clear h0 HE HNZ
      rcases Bool.eq_false_or_eq_true (risesB 0 31 zs) with q1 | q1
      · have Q1 := Lib.hid q1
        rcases Bool.eq_false_or_eq_true (inB r 0 31) with q2 | q2
        · have HF := Lib.hid (H0.out (by rw [HZ.out, q1]) q2)
          have Q2 := Lib.hid q2
          clear q1 q2 H0 H2 H1
          go_enter Try.func22, Try.ntmps22
          go_wp2_with fail
          refine HR.out.mono ?_
          rintro e w1 ⟨rfl, hb1⟩
          rw [Q1.out]
          have HB := Lib.hid hb1
          clear hb1
          go_wp2_with fail
          refine (l00In_any r 0 31 _).mono ?_
          rintro e w2 ⟨rfl, rfl⟩
          rw [Q2.out]
          go_wp2_with fail
          refine (HZO.out _ HB.out).mono ?_
          rintro e w3 ⟨rfl, rfl⟩
          go_wp2
          go_ret2
          exact ⟨ret_zo HF.out.1.symm HF.out.2.symm, HB.out⟩
        · have HF := Lib.hid (H2.out (by rw [HZ.out, q1]) q2)
          have Q2 := Lib.hid q2
          clear q1 q2 H0 H2 H1
          go_enter Try.func22, Try.ntmps22
          go_wp2_with fail
          refine HR.out.mono ?_
          rintro e w1 ⟨rfl, hb1⟩
          rw [Q1.out]
          have HB := Lib.hid hb1
          clear hb1
          go_wp2_with fail
          refine (l00In_any r 0 31 _).mono ?_
          rintro e w2 ⟨rfl, rfl⟩
          rw [Q2.out]
          go_wp2
          go_ret2
          exact ⟨ret_zo HF.out.1.symm HF.out.2.symm, HB.out⟩
      · have HF := Lib.hid (H1.out (by rw [HZ.out, q1]))
        have Q1 := Lib.hid q1
        clear q1 H0 H2 H1
        go_enter Try.func22, Try.ntmps22
        go_wp2_with fail
        refine HR.out.mono ?_
        rintro e w1 ⟨rfl, hb1⟩
        rw [Q1.out]
        have HB := Lib.hid hb1
        clear hb1
        go_wp2
        go_ret2
        exact ⟨ret_zo HF.out.1.symm HF.out.2.symm, HB.out⟩
    · have HF := Lib.hid (H1.out (HNZ.out h0))
      have h5 : (zs.getD 0 0 != 0) = true := by simpa using h0
      generalize zs.getD 0 0 = z at *
      clear h0 HE HNZ HR HZO H0 H2 H1
      go_enter Try.func22, Try.ntmps22
      go_wp2
      go_ret2
      exact ⟨ret_zo HF.out.1.symm HF.out.2.symm, Below.refl _ _⟩
  · have HF := Lib.hid (zo_1 (r := r) (zones_no1 h1))
    obtain ⟨a, c, rfl⟩ := ints_form h
    clear h
    generalize zs.length = n at *
    by_cases h2 : 1 ≤ n
    · have h3 : 8 < (n : Int) := by omega
      have h4 : ¬ (n : Int) < 1 := by omega
      clear h1
      go_enter Try.func22, Try.ntmps22
      go_wp2
      go_ret2
      exact ⟨ret_zo HF.out.1.symm HF.out.2.symm, Below.refl _ _⟩
    · have h4 : (n : Int) < 1 := by omega
      clear h1
      go_enter Try.func22, Try.ntmps22
      go_wp2
      go_ret2
      exact ⟨ret_zo HF.out.1.symm HF.out.2.symm, Below.refl _ _⟩
set_option maxHeartbeats 2000000 in
theorem implZO_any (zs : List Int) (r : Int) (v : Value) (w : World) (h : IntsAt w v zs) :
    Calls Try.prog 23 #[v, .int .i64 r] w fun e w' => e = .returned (.tuple #[.int .i64 (zoR zs r), .int .i64 (zoC zs r)]) ∧ Below w.heap.size w w' := by
  have HV := Lib.hid (zvalid_any zs v w h)
  obtain ⟨a, c, hvf⟩ := ints_form h
  have HVF := Lib.hid hvf
  rcases Bool.eq_false_or_eq_true (zonesB zs) with q1 | q1
  · have Q1 := Lib.hid q1
    have hzl := zones_len q1
    obtain ⟨b, off, cap, rfl, hb, hc⟩ := ints_cells h (by omega)
    rcases Bool.eq_false_or_eq_true (inB r 0 31) with q2 | q2
    · have HF := Lib.hid (zo_0 q1 q2)
      have Q2 := Lib.hid (show allIn 0 31 [r] = true by rw [all_one]; exact q2)
      have hr0 := (inB_iff.1 q2).1
      have hz0 := zones_first q1
      have HZO := Lib.hid (fun W (hW : Below w.heap.size w W) => zonesOf_any zs r b off cap zs.length W (by omega) (by omega) (by omega) (fun j hj => (below_cell hW _ _ hb).trans (hc j hj)))
      clear q1 q2 h hc hvf hz0 hr0
      generalize zs.length = n at *
      go_enter Try.func23, Try.ntmps23
      go_wp2_with fail
      refine HV.out.mono ?_
      rintro e w1 ⟨rfl, hb1⟩
      rw [Q1.out]
      have HB := Lib.hid hb1
      clear hb1
      go_wp2_with fail
      refine (within_i64 _ _ [r] _ 0 1 1 _ rfl (by omega) (cell_int _ _ _ _ rfl)).mono ?_
      rintro e w2 ⟨rfl, rfl⟩
      rw [Q2.out]
      have HB2 := Lib.hid (HB.out.alloc HB.out.size (.cells #[.int .i64 r] 2))
      go_wp2_with fail
      refine (HZO.out _ HB2.out).mono ?_
      rintro e w3 ⟨rfl, rfl⟩
      go_wp2
      go_ret2
      exact ⟨ret_zo HF.out.1.symm HF.out.2.symm, HB2.out⟩
    · have HF := Lib.hid (zo_2 q1 q2)
      have Q2 := Lib.hid (show allIn 0 31 [r] = false by rw [all_one]; exact q2)
      clear q1 q2 h hc hvf
      generalize zs.length = n at *
      go_enter Try.func23, Try.ntmps23
      go_wp2_with fail
      refine HV.out.mono ?_
      rintro e w1 ⟨rfl, hb1⟩
      rw [Q1.out]
      have HB := Lib.hid hb1
      clear hb1
      go_wp2_with fail
      refine (within_i64 _ _ [r] _ 0 1 1 _ rfl (by omega) (cell_int _ _ _ _ rfl)).mono ?_
      rintro e w2 ⟨rfl, rfl⟩
      rw [Q2.out]
      go_wp2
      go_ret2
      exact ⟨ret_zo HF.out.1.symm HF.out.2.symm, HB.out.alloc HB.out.size _⟩
  · have HF := Lib.hid (zo_1 (r := r) q1)
    have Q1 := Lib.hid q1
    clear q1 h hvf
    rw [HVF.out] at HV ⊢
    generalize zs.length = n at *
    go_enter Try.func23, Try.ntmps23
    go_wp2_with fail
    refine HV.out.mono ?_
    rintro e w1 ⟨rfl, hb1⟩
    rw [Q1.out]
    have HB := Lib.hid hb1
    clear hb1
    go_wp2
    go_ret2
    exact ⟨ret_zo HF.out.1.symm HF.out.2.symm, HB.out⟩
end Go.Proofs.Ytjdnjlakafcglaa
