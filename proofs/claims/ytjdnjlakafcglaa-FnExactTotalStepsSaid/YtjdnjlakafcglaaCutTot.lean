/- The number of all steps: both programs' answers. -/
import Derived.Test.YtjdnjlakafcglaaCutSpec
import Derived.Test.YtjdnjlakafcglaaCutImpl
import Derived.Test.YtjdnjlakafcglaaSumC
set_option linter.unusedVariables false
namespace Go.Proofs.Ytjdnjlakafcglaa
open Go.ChangeShapes Go.WideShapes Go.ChangeAt Go.RowKit

def totS : List Ct → Int
  | [] => 0
  | c :: cs => c.2 + totS cs
theorem totS_append (a b : List Ct) : totS (a ++ b) = totS a + totS b := by
  induction a with
  | nil => simp [totS]
  | cons c a ih => simp only [List.cons_append, totS, ih]; omega
theorem totS_next (cs : List Ct) (k : Nat) (h : k < cs.length) : totS (cs.take (k + 1)) = totS (cs.take k) + (cs.getD k zC).2 := by
  rw [List.take_succ_eq_append_getElem h, totS_append]
  simp [totS, List.getD, h]
theorem totS_bd {cs : List Ct} (h : allC cs = true) (k : Nat) (hk : k ≤ cs.length) : 0 ≤ totS (cs.take k) ∧ totS (cs.take k) ≤ 20 * k := by
  induction k with
  | zero => simp [totS]
  | succ k ih =>
    have i1 := ih (by omega)
    have i2 := (cut_iff.1 (allC_at h k (by omega))).2
    rw [totS_next cs k (by omega)]
    omega
def toR (cs : List Ct) : Int := if cutsB cs = true then totS cs else 0
def toC (cs : List Ct) : Int := if cutsB cs = true then 0 else 1
theorem to_0 {cs : List Ct} (h : cutsB cs = true) : toR cs = totS cs ∧ toC cs = 0 := by unfold toR toC; rw [if_pos h, if_pos h]; exact ⟨rfl, rfl⟩
theorem to_1 {cs : List Ct} (h : cutsB cs = false) : toR cs = 0 ∧ toC cs = 1 := by unfold toR toC; rw [h]; exact ⟨rfl, rfl⟩
theorem ret_ct {a b c d : Int} (h : a = b) (k : c = d) : Ending.returned (.tuple #[.int .i64 a, .int .i64 c]) = .returned (.tuple #[.int .i64 b, .int .i64 d]) := by rw [h, k]
set_option maxRecDepth 20000 in
set_option maxHeartbeats 2000000 in
theorem specTS_any (cs : List Ct) (v : Value) (w : World) (h : CutsAt w v cs) :
    Calls Try.prog 33 #[v] w fun e w' => e = .returned (.tuple #[.int .i64 (toR cs), .int .i64 (toC cs)]) ∧ Below w.heap.size w w' := by
  have HC := Lib.hid (l09Cuts_any cs v w h)
  rcases Bool.eq_false_or_eq_true (cutsB cs) with h1 | h1
  · have HR := Lib.hid (to_0 h1)
    have H1 := Lib.hid h1
    obtain ⟨h64, hall⟩ := cutsB_iff.1 h1
    have HBD := Lib.hid (totS_bd hall)
    have HNX := Lib.hid (totS_next cs)
    have HTT := Lib.hid (show totS (cs.take cs.length) = totS cs by rw [List.take_length])
    by_cases h0 : cs.length = 0
    · obtain rfl : cs = [] := List.length_eq_zero_iff.1 h0
      obtain ⟨a, c, rfl⟩ := cuts_form h
      clear h h0 h1 h64 hall HBD HNX HTT
      go_enter Try.func33, Try.ntmps33
      go_wp2_with fail
      refine HC.out.mono ?_
      rintro e w1 ⟨rfl, hb⟩
      rw [H1.out]
      have HB := Lib.hid hb
      clear hb
      go_wp2
      refine wp_loop_rounds 1 ?_
      rw [rounds_succ]
      go_wp2
      go_ret2
      exact ⟨ret_ct HR.out.1.symm HR.out.2.symm, HB.out⟩
    · obtain ⟨b, off, cap, rfl, hb, hc⟩ := cuts_cells h (by omega)
      have HCI := Lib.hid (fun W (hW : Below w.heap.size w W) i (hi : i < cs.length) => cuts_keep hW hb (hc i hi))
      clear h h0 h1 hall hc
      generalize cs.length = n at *
      go_enter Try.func33, Try.ntmps33
      go_wp2_with fail
      refine HC.out.mono ?_
      rintro e w1 ⟨rfl, hb1⟩
      rw [H1.out]
      have HB := Lib.hid hb1
      clear hb1
      go_wp2
      go_loop [4, 5] (fun s i => ∃ k : Nat, k ≤ n ∧ i = .int .i64 k ∧ s = .int .i64 (totS (cs.take k))) (fun _ i => n - (intOf i).toNat)
      case atStart => exact ⟨0, by omega, rfl, rfl⟩
      case round =>
        obtain ⟨k, hk, rfl, rfl⟩ := hrel
        by_cases hlt : k < n
        · have hr := (HCI.out w1 HB.out k hlt).c1
          have hbd := HBD.out k (by omega)
          have hbd2 := HBD.out (k + 1) (by omega)
          have HK := Lib.hid (HNX.out k hlt)
          rw [HK.out] at hbd2
          generalize (cs.getD k zC).2 = y at *
          generalize totS (cs.take k) = t at *
          have hk0 : (0 : Int) ≤ (k : Int) := by omega
          have hlt1 : (k : Int) < (n : Int) := by omega
          go_wp2
          go_round
          case rel => exact ⟨k + 1, by omega, by go_num, by rw [HK.out]⟩
          case measure => simp [intOf]; omega
        · obtain rfl : k = n := by omega
          rw [HTT.out]
          go_wp2
          go_ret2
          exact ⟨ret_ct HR.out.1.symm HR.out.2.symm, HB.out⟩
  · have HR := Lib.hid (to_1 h1)
    have H1 := Lib.hid h1
    obtain ⟨a, c, rfl⟩ := cuts_form h
    clear h h1
    generalize cs.length = n at *
    go_enter Try.func33, Try.ntmps33
    go_wp2_with fail
    refine HC.out.mono ?_
    rintro e w1 ⟨rfl, hb⟩
    rw [H1.out]
    have HB := Lib.hid hb
    clear hb
    go_wp2
    go_ret2
    exact ⟨ret_ct HR.out.1.symm HR.out.2.symm, HB.out⟩
theorem pc_ex (cs : List Ct) (h : allC cs = true) : ∃ f : Nat → Pc, ∀ j, j < cs.length → (f j).1 = cs.getD j zC := pr_exC cs (fun j hj => allC_at h j hj)
theorem tot_upto (cs : List Ct) (u : Nat → Pc) (hu : ∀ j, j < cs.length → (u j).1 = cs.getD j zC) (k : Nat) (hk : k ≤ cs.length) : sumVC (fun x => x.1.2) (uptoVC u k) = totS (cs.take k) := by
  induction k with
  | zero => rfl
  | succ k ih =>
    rw [uptoV_succC, sumV_snocC, ih (by omega), totS_next cs k (by omega), hu k (by omega)]
set_option maxRecDepth 20000 in
set_option maxHeartbeats 2000000 in
theorem implTS_any (cs : List Ct) (v : Value) (w : World) (h : CutsAt w v cs) :
    Calls Try.prog 34 #[v] w fun e w' => e = .returned (.tuple #[.int .i64 (toR cs), .int .i64 (toC cs)]) ∧ Below w.heap.size w w' := by
  have HC := Lib.hid (implVC_any cs v w h)
  rcases Bool.eq_false_or_eq_true (cutsB cs) with h1 | h1
  · have HR := Lib.hid (to_0 h1)
    have H1 := Lib.hid h1
    obtain ⟨h64, hall⟩ := cutsB_iff.1 h1
    obtain ⟨u, hu⟩ := pc_ex cs hall
    have HTU := Lib.hid (show sumVC (fun x => x.1.2) (uptoVC u cs.length) = totS cs by rw [tot_upto cs u hu _ (Nat.le_refl _), List.take_length])
    obtain ⟨A, b, off, cap, hv, hA, hb, hc⟩ : ∃ A b off cap, v = .slice A cs.length cap ∧ (0 < cs.length → A = some ⟨b, off, none⟩) ∧ b ≤ w.heap.size ∧ ∀ W, Below w.heap.size w W → ∀ i, i < cs.length → b < w.heap.size ∧ CIn W b (off + i * 2) (cs.getD i zC) := by
      by_cases h0 : cs.length = 0
      · obtain ⟨a, c, rfl⟩ := cuts_form h
        exact ⟨a, w.heap.size, 0, c, rfl, fun h => by omega, Nat.le_refl _, fun W _ i hi => by omega⟩
      · obtain ⟨b, off, cap, rfl, hb, hc⟩ := cuts_cells h (by omega)
        exact ⟨_, b, off, cap, rfl, fun _ => rfl, by omega, fun W hW i hi => ⟨hb, cuts_keep hW hb (hc i hi)⟩⟩
    subst hv
    have HU := Lib.hid hu
    have HA := Lib.hid hA
    have HCI := Lib.hid hc
    clear h h1 hall hu hA hc
    obtain ⟨n, hn⟩ : ∃ n, cs.length = n := ⟨_, rfl⟩
    rw [hn] at HC HTU HA HCI h64 HU ⊢
    clear hn
    go_enter Try.func34, Try.ntmps34
    go_wp2_with fail
    refine HC.out.mono ?_
    rintro e w1 ⟨rfl, hb1⟩
    rw [H1.out]
    have HB := Lib.hid hb1
    have hbs := hb1.size
    clear hb1
    go_wp2_with fail
    refine (values_anyC A n cap _).mono ?_
    rintro e w2 ⟨rfl, rfl⟩
    have HB2 := Lib.hid (HB.out.alloc HB.out.size (.cells #[.slice A n cap] 42))
    have hsz : b < (w1.alloc (.cells #[.slice A n cap] 42)).heap.size := by simp; omega
    have hxl : w1.heap.size < (w1.alloc (.cells #[.slice A n cap] 42)).heap.size := by simp
    have hxc : (w1.alloc (.cells #[.slice A n cap] 42)).cell? ⟨w1.heap.size, 0, none⟩ = some (.slice A n cap) := by go_simp
    generalize w1.alloc (.cells #[.slice A n cap] 42) = wx at *
    go_wp2_with fail
    refine (sum_wallC (fun x => x.1.2) 20 (by omega) (fun x => by have := (cut_iff.1 x.2).2; omega) w1.heap.size b off n cap A HA.out cs u HU.out h64 wx (fun x W _ => steps_anyC _ _ W) hxl hsz hxc (fun i hi => (HCI.out _ HB2.out i hi).2)).mono ?_
    rintro e w3 ⟨rfl, hb3⟩
    rw [HTU.out]
    have HB3 := Lib.hid (below_of HB2.out hb3 HB2.out.size)
    clear hb3
    go_wp2
    go_ret2
    exact ⟨ret_ct HR.out.1.symm HR.out.2.symm, HB3.out⟩
  · have HR := Lib.hid (to_1 h1)
    have H1 := Lib.hid h1
    obtain ⟨a, c, rfl⟩ := cuts_form h
    clear h h1
    generalize cs.length = n at *
    go_enter Try.func34, Try.ntmps34
    go_wp2_with fail
    refine HC.out.mono ?_
    rintro e w1 ⟨rfl, hb⟩
    rw [H1.out]
    have HB := Lib.hid hb
    clear hb
    go_wp2
    go_ret2
    exact ⟨ret_ct HR.out.1.symm HR.out.2.symm, HB.out⟩
end Go.Proofs.Ytjdnjlakafcglaa
