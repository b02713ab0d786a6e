/- Cuts: the reference model's validity. -/
import Derived.Test.YtikoehjalcljnaaDoorCutsV
set_option linter.unusedVariables false
namespace Go.Proofs.YtikoehjalcljnaaDoor
open Go.ChangeShapes Go.WideShapes Go.ChangeAt Go.RowKit

set_option maxRecDepth 20000 in
set_option maxHeartbeats 2000000 in
theorem l09Cuts_some (cs : List Ct) (b off cap n : Nat) (w : World) (hn : Hid (cs.length = n)) (hn1 : n ≤ 1048576) (hc : ∀ i, i < n → CIn w b (off + i * 2) (cs.getD i zC)) :
    Calls Tryd.prog 20 #[.slice (some ⟨b, off, none⟩) n cap] w fun e w' => e = .returned (.bool (cutsB cs)) ∧ Below w.heap.size w w' := by
  have HC := Lib.hid hc
  clear hc
  go_enter Tryd.func20, Tryd.ntmps20
  go_wp2
  go_loopw [3] (fun i wr => ∃ k m : Nat, k ≤ n ∧ i = .int .i64 k ∧ wr = w.drewN m ∧ Hid (∀ j, j < k → cutB (cs.getD j zC) = true)) (fun i _ => n - (intOf i).toNat)
  case atStart => exact ⟨0, 0, by omega, rfl, rfl, Lib.hid (fun j hj => by omega)⟩
  case round =>
    obtain ⟨k, m, hk, rfl, rfl, HA⟩ := hrel
    by_cases hlt : k < n
    · obtain ⟨⟨x, y⟩, hxy⟩ : ∃ r, cs.getD k zC = r := ⟨_, rfl⟩
      have hr := HC.out k hlt
      rw [hxy] at hr
      have d0 : w.cell? ⟨b, off + k * 2, none⟩ = some (.int .i64 x) := hr.c0
      have d1 : w.cell? ⟨b, off + k * 2 + 1, none⟩ = some (.int .i64 y) := hr.c1
      have hlt1 : (k : Int) < (n : Int) := by omega
      have hk0 : (0 : Int) ≤ (k : Int) := by omega
      clear hr
      rcases Bool.eq_false_or_eq_true (inB x 0 7) with h1 | h1
      · have H1 := Lib.hid h1
        rcases Bool.eq_false_or_eq_true (inB y 1 20) with h2 | h2
        · have H2 := Lib.hid h2
          have HB := Lib.hid (show cutB (cs.getD k zC) = true by rw [hxy]; unfold cutB; rw [h1, h2]; rfl)
          clear h1 h2 hxy
          go_wp2_with fail
          refine (l00In_any x 0 7 _).mono ?_
          rintro e w2 ⟨rfl, rfl⟩
          rw [H1.out]
          go_wp2_with fail
          refine (l00In_any y 1 20 _).mono ?_
          rintro e w2 ⟨rfl, rfl⟩
          rw [H2.out]
          go_wp2
          go_roundw
          case rel => exact ⟨k + 1, _, by omega, by go_num, rfl, Lib.hid (fun j hj => by
            by_cases e : j = k
            · subst e; exact HB.out
            · exact HA.out j (by omega))⟩
          case measure => simp [intOf]; omega
        · have H2 := Lib.hid h2
          have HF := Lib.hid (cutsB_no (allC_false (cs := cs) (i := k) (by rw [hn.out]; exact hlt) (by rw [hxy]; unfold cutB; rw [h1, h2]; rfl)))
          clear h1 h2 hxy
          go_wp2_with fail
          refine (l00In_any x 0 7 _).mono ?_
          rintro e w2 ⟨rfl, rfl⟩
          rw [H1.out]
          go_wp2_with fail
          refine (l00In_any y 1 20 _).mono ?_
          rintro e w2 ⟨rfl, rfl⟩
          rw [H2.out]
          go_wp2
          go_ret
          exact ⟨ret_bool HF.out.symm, below_drewN _ _⟩
      · have HF := Lib.hid (cutsB_no (allC_false (cs := cs) (i := k) (by rw [hn.out]; exact hlt) (by rw [hxy]; unfold cutB; rw [h1]; rfl)))
        have H1 := Lib.hid h1
        clear h1 hxy
        go_wp2_with fail
        refine (l00In_any x 0 7 _).mono ?_
        rintro e w2 ⟨rfl, rfl⟩
        rw [H1.out]
        go_wp2
        go_ret
        exact ⟨ret_bool HF.out.symm, below_drewN _ _⟩
    · obtain rfl : k = n := by omega
      have HF := Lib.hid (show cutsB cs = decide ((k : Int) ≤ 64) by
        rw [cutsB_end (allC_true (fun j hj => HA.out j (by rw [hn.out] at hj; exact hj))), hn.out]
        rw [decide_eq_decide]; omega)
      go_wp2
      go_ret
      exact ⟨ret_bool HF.out.symm, below_drewN _ _⟩
theorem l09Cuts_none (a : Option Addr) (c : Nat) (w : World) :
    Calls Tryd.prog 20 #[.slice a 0 c] w fun e w' => e = .returned (.bool (cutsB [])) ∧ Below w.heap.size w w' := by
  go_enter Tryd.func20, Tryd.ntmps20
  go_wp2
  refine wp_loop_rounds 1 ?_
  rw [rounds_succ]
  go_wp2
  go_ret
  exact ⟨rfl, Below.refl _ _⟩
theorem l09Cuts_any (cs : List Ct) (v : Value) (w : World) (h : CutsAt w v cs) :
    Calls Tryd.prog 20 #[v] w fun e w' => e = .returned (.bool (cutsB cs)) ∧ Below w.heap.size w w' := by
  by_cases h0 : cs.length = 0
  · obtain rfl : cs = [] := List.length_eq_zero_iff.1 h0
    obtain ⟨a, c, rfl⟩ := cuts_form h
    exact l09Cuts_none a c w
  · have hl := h.1
    obtain ⟨b, off, cap, rfl, hb, hc⟩ := cuts_cells h (by omega)
    exact l09Cuts_some cs b off cap _ w (Lib.hid rfl) hl hc
--?-
end Go.Proofs.YtikoehjalcljnaaDoor
