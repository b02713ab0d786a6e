/- The steps between two lists of rings: the program's search. -/
import Derived.Test.YtpllmehcndinkaaCutI
import Derived.Test.YtpllmehcndinkaaSameProf
import Derived.Deep.LoopGhost
set_option linter.unusedVariables false
namespace Go.Proofs.Ytpllmehcndinkaa
open Go.ChangeShapes Go.WideShapes Go.ChangeAt Go.RowKit Go.Maps

/-- t steps make the first list's rings the second one's. -/
def MatchT (l1 l2 : List Rg) (n : Nat) (t : Int) : Prop := ∀ j, j < n → turnR t (l1.getD j zR) = l2.getD j zR
/-- The search's answer. -/
def BtwPost (l1 l2 : List Rg) (n : Nat) (w : World) (e : Ending) (w' : World) : Prop :=
  ((∃ t : Nat, t ≤ 20 ∧ e = .returned (.tuple #[.int .i64 (t : Int), .bool true]) ∧ MatchT l1 l2 n (t : Int)) ∨ (e = .returned (.tuple #[.int .i64 0, .bool false]) ∧ ∀ t : Nat, t < 21 → ¬ MatchT l1 l2 n (t : Int))) ∧ Below w.heap.size w w'
set_option maxRecDepth 20000 in
set_option maxHeartbeats 4000000 in
theorem stepsBetween_any (l1 l2 : List Rg) (b1 o1 c1 b2 o2 c2 n : Nat) (w : World) (h32 : n ≤ 32) (hb1 : b1 < w.heap.size) (hb2 : b2 < w.heap.size) (h1 : ∀ i, i < n → RingIn w b1 (o1 + i * 3) (l1.getD i zR)) (h2 : ∀ i, i < n → RingIn w b2 (o2 + i * 3) (l2.getD i zR)) (hR : ∀ i, i < n → ringB (l1.getD i zR) = true) :
    Calls Try.prog 92 #[.slice (some ⟨b1, o1, none⟩) n c1, .slice (some ⟨b2, o2, none⟩) n c2] w (BtwPost l1 l2 n w) := by
  have H1 := Lib.hid (fun W (hW : Below w.heap.size w W) i (hi : i < n) => show W.cell? ⟨b1, o1 + i * 3, none⟩ = some (.int .i64 (l1.getD i zR).1) ∧ W.cell? ⟨b1, o1 + i * 3 + 1, none⟩ = some (.int .i64 (l1.getD i zR).2.1) ∧ W.cell? ⟨b1, o1 + i * 3 + 2, none⟩ = some (.int .i64 (l1.getD i zR).2.2) from ⟨(below_cell hW _ _ hb1).trans (h1 i hi).c0, (below_cell hW _ _ hb1).trans (h1 i hi).c1, (below_cell hW _ _ hb1).trans (h1 i hi).c2⟩)
  have H2 := Lib.hid (fun W (hW : Below w.heap.size w W) i (hi : i < n) => show W.cell? ⟨b2, o2 + i * 3, none⟩ = some (.int .i64 (l2.getD i zR).1) ∧ W.cell? ⟨b2, o2 + i * 3 + 1, none⟩ = some (.int .i64 (l2.getD i zR).2.1) ∧ W.cell? ⟨b2, o2 + i * 3 + 2, none⟩ = some (.int .i64 (l2.getD i zR).2.2) from ⟨(below_cell hW _ _ hb2).trans (h2 i hi).c0, (below_cell hW _ _ hb2).trans (h2 i hi).c1, (below_cell hW _ _ hb2).trans (h2 i hi).c2⟩)
  have HR := Lib.hid hR
  have hg := eqG
  clear h1 h2 hR
  go_enter Try.func92, Try.ntmps92
  go_wp2
  go_step3
  go_wp2
  go_step3
  go_wp2
  go_loopg [9] 21 (fun g i wr => ∃ k : Nat, k + g = 21 ∧ i = .int .i64 k ∧ Hid (∀ t : Nat, t < k → ¬ MatchT l1 l2 n (t : Int)) ∧ Hid (Below w.heap.size w wr))
  case atStart => exact ⟨0, by omega, rfl, Lib.hid (fun t ht => by omega), Lib.hid (Below.refl _ _)⟩
  case round =>
    obtain ⟨k, hkg, rfl, HA, HB⟩ := hrel
    have hk0 : (0 : Int) ≤ (k : Int) := by omega
    cases gk with
    | zero =>
      have hkz : ¬ ((k : Int) < 21) := by omega
      have HF := Lib.hid (show ∀ t : Nat, t < 21 → ¬ MatchT l1 l2 n (t : Int) from fun t ht => HA.out t (by omega))
      go_wp2
      try rw [Exit.noGoto_ret]
      go_ret2
      exact ⟨.inr ⟨rfl, HF.out⟩, HB.out⟩
    | succ g =>
      have hkz : (k : Int) < 21 := by omega
      go_wp2
      go_loopg [14] n (fun g2 i wy => ∃ j : Nat, j + g2 = n ∧ i = .int .i64 j ∧ Hid (∀ i, i < j → turnR (k : Int) (l1.getD i zR) = l2.getD i zR) ∧ Hid (Below w.heap.size w wy))
      case atStart => exact ⟨0, by omega, rfl, Lib.hid (fun i hi => by omega), HB⟩
      case round =>
        obtain ⟨j, hjg, rfl, HJ, HBJ⟩ := hrel
        have hj0 : (0 : Int) ≤ (j : Int) := by omega
        cases gk with
        | zero =>
          have hjz : ¬ ((j : Int) < (n : Int)) := by omega
          have HF := Lib.hid (show MatchT l1 l2 n (k : Int) from fun i hi => HJ.out i (by omega))
          go_wp2
          try rw [Exit.noGoto_ret]
          go_ret2
          exact ⟨.inl ⟨k, by omega, rfl, HF.out⟩, HBJ.out⟩
        | succ g2 =>
          have hjz : (j : Int) < (n : Int) := by omega
          obtain ⟨e0, e1, e2⟩ := H1.out wr HBJ.out j (by omega)
          have hrb := ring_iff.1 (HR.out j (by omega))
          obtain ⟨⟨x, y, z⟩, hxyz⟩ : ∃ r, l1.getD j zR = r := ⟨_, rfl⟩
          obtain ⟨⟨x2, y2, z2⟩, hx2⟩ : ∃ r, l2.getD j zR = r := ⟨_, rfl⟩
          have H2J := Lib.hid (fun W hW => H2.out W hW j (by omega))
          rw [hxyz] at e0 e1 e2 hrb
          rw [hx2] at H2J
          simp only at e0 e1 e2 hrb H2J
          obtain ⟨yq, hyq⟩ : ∃ yq, y + 10 * (k : Int) = yq := ⟨_, rfl⟩
          have HTU := Lib.hid (fun W => turned_any x y z (k : Int) yq W (Lib.hid hyq.symm) (by omega) (by omega))
          have HTR := Lib.hid (show turnR (k : Int) (l1.getD j zR) = (x, yq, z) by rw [hxyz]; unfold turnR; rw [hyq])
          have HX2 := Lib.hid hx2
          have hbd := below_al wr (.cells #[.int .i64 x, .int .i64 y, .int .i64 z] 128)
          have k0 : (wr.alloc (.cells #[.int .i64 x, .int .i64 y, .int .i64 z] 128)).cell? ⟨wr.heap.size, 0, none⟩ = some (.int .i64 x) := by go_simp
          have k1 : (wr.alloc (.cells #[.int .i64 x, .int .i64 y, .int .i64 z] 128)).cell? ⟨wr.heap.size, 1, none⟩ = some (.int .i64 y) := by go_simp
          have k2 : (wr.alloc (.cells #[.int .i64 x, .int .i64 y, .int .i64 z] 128)).cell? ⟨wr.heap.size, 2, none⟩ = some (.int .i64 z) := by go_simp
          have hlB := alloc_lt2 wr (.cells #[.int .i64 x, .int .i64 y, .int .i64 z] 128)
          have HBB := Lib.hid (below_of HBJ.out hbd HBJ.out.size)
          clear hxyz hx2 hyq hrb hbd
          by_cases he : (x, yq, z) = (x2, y2, z2)
          · have HQ := Lib.hid (show ∀ i, i < j + 1 → turnR (k : Int) (l1.getD i zR) = l2.getD i zR from fun i hi => by
              by_cases e : i = j
              · subst e; rw [HTR.out, HX2.out]; exact he
              · exact HJ.out i (by omega))
            have hq : ∀ w : World, (Op.equalIn 10000 128 (.agg #[.int .i64 x, .int .i64 yq, .int .i64 z]) (.agg #[.int .i64 x2, .int .i64 y2, .int .i64 z2])).run Try.prog w = .ok true w := fun w => by rw [eqlR, rg_beq, decide_eq_true he]
            clear he
            go_wp2
            generalize wr.alloc (.cells #[.int .i64 x, .int .i64 y, .int .i64 z] 128) = wB at *
            have hbd : Below wB.heap.size wB wB.drew := ⟨rfl, rfl, rfl, Nat.le_refl _, fun _ _ => rfl⟩
            have HSS := Lib.hid (fun W (hW : Below wB.heap.size wB W) => show (W.cell? ⟨wr.heap.size, 0, none⟩ = some (.int .i64 x) ∧ W.cell? ⟨wr.heap.size, 1, none⟩ = some (.int .i64 y) ∧ W.cell? ⟨wr.heap.size, 2, none⟩ = some (.int .i64 z)) ∧ W.cell? ⟨b2, o2 + j * 3, none⟩ = some (.int .i64 x2) ∧ W.cell? ⟨b2, o2 + j * 3 + 1, none⟩ = some (.int .i64 y2) ∧ W.cell? ⟨b2, o2 + j * 3 + 2, none⟩ = some (.int .i64 z2) from ⟨⟨(below_cell hW _ _ hlB).trans k0, (below_cell hW _ _ hlB).trans k1, (below_cell hW _ _ hlB).trans k2⟩, H2J.out W (below_of HBB.out hW HBB.out.size)⟩)
            clear k0 k1 k2 e0 e1 e2
            go_region_held3 (fun W => (W.cell? ⟨wr.heap.size, 0, none⟩ = some (.int .i64 x) ∧ W.cell? ⟨wr.heap.size, 1, none⟩ = some (.int .i64 y) ∧ W.cell? ⟨wr.heap.size, 2, none⟩ = some (.int .i64 z)) ∧ W.cell? ⟨b2, o2 + j * 3, none⟩ = some (.int .i64 x2) ∧ W.cell? ⟨b2, o2 + j * 3 + 1, none⟩ = some (.int .i64 y2) ∧ W.cell? ⟨b2, o2 + j * 3 + 2, none⟩ = some (.int .i64 z2))
              (first | exact HSS.out _ hbd | exact HSS.out _ hbq | assumption)
              (first | (go_at_call 131; refine (HTU.out _).mono ?_; rintro e w5 ⟨rfl, hb5⟩; have hbq := below_of hbd hb5 hbd.size))
            have HBN := Lib.hid (below_of HBB.out hbq HBB.out.size)
            clear hb5 hbq hbd
            go_wp2
            go_roundg g2
            case measure => omega
            case rel => exact ⟨j + 1, by omega, by go_num, HQ, HBN⟩
          · have HN := Lib.hid (show ∀ t : Nat, t < k + 1 → ¬ MatchT l1 l2 n (t : Int) from fun t ht => by
              by_cases e : t = k
              · subst e
                intro hm
                have := hm j (by omega)
                rw [HTR.out, HX2.out] at this
                exact he this
              · exact HA.out t (by omega))
            have hq : ∀ w : World, (Op.equalIn 10000 128 (.agg #[.int .i64 x, .int .i64 yq, .int .i64 z]) (.agg #[.int .i64 x2, .int .i64 y2, .int .i64 z2])).run Try.prog w = .ok false w := fun w => by rw [eqlR, rg_beq, decide_eq_false he]
            clear he
            go_wp2
            generalize wr.alloc (.cells #[.int .i64 x, .int .i64 y, .int .i64 z] 128) = wB at *
            have hbd : Below wB.heap.size wB wB.drew := ⟨rfl, rfl, rfl, Nat.le_refl _, fun _ _ => rfl⟩
            have HSS := Lib.hid (fun W (hW : Below wB.heap.size wB W) => show (W.cell? ⟨wr.heap.size, 0, none⟩ = some (.int .i64 x) ∧ W.cell? ⟨wr.heap.size, 1, none⟩ = some (.int .i64 y) ∧ W.cell? ⟨wr.heap.size, 2, none⟩ = some (.int .i64 z)) ∧ W.cell? ⟨b2, o2 + j * 3, none⟩ = some (.int .i64 x2) ∧ W.cell? ⟨b2, o2 + j * 3 + 1, none⟩ = some (.int .i64 y2) ∧ W.cell? ⟨b2, o2 + j * 3 + 2, none⟩ = some (.int .i64 z2) from ⟨⟨(below_cell hW _ _ hlB).trans k0, (below_cell hW _ _ hlB).trans k1, (below_cell hW _ _ hlB).trans k2⟩, H2J.out W (below_of HBB.out hW HBB.out.size)⟩)
            clear k0 k1 k2 e0 e1 e2
            go_region_held3 (fun W => (W.cell? ⟨wr.heap.size, 0, none⟩ = some (.int .i64 x) ∧ W.cell? ⟨wr.heap.size, 1, none⟩ = some (.int .i64 y) ∧ W.cell? ⟨wr.heap.size, 2, none⟩ = some (.int .i64 z)) ∧ W.cell? ⟨b2, o2 + j * 3, none⟩ = some (.int .i64 x2) ∧ W.cell? ⟨b2, o2 + j * 3 + 1, none⟩ = some (.int .i64 y2) ∧ W.cell? ⟨b2, o2 + j * 3 + 2, none⟩ = some (.int .i64 z2))
              (first | exact HSS.out _ hbd | exact HSS.out _ hbq | assumption)
              (first | (go_at_call 131; refine (HTU.out _).mono ?_; rintro e w5 ⟨rfl, hb5⟩; have hbq := below_of hbd hb5 hbd.size))
            have HBN := Lib.hid (below_of HBB.out hbq HBB.out.size)
            clear hb5 hbq hbd
            go_wp2
            go_roundg g
            case measure => omega
            case rel => exact ⟨k + 1, by omega, by go_num, HN, HBN⟩
end Go.Proofs.Ytpllmehcndinkaa
