/- slices.Concat of three slices of lists, as the program's lists of a model. -/
import Derived.Test.YtblkbjeongmgdaaDoorModMath
import Derived.OwnWalk
import Derived.Lib.AppendZerosOnto
set_option linter.unusedVariables false
namespace Go.Proofs.YtblkbjeongmgdaaDoor
open Go.ChangeShapes Go.WideShapes Go.ChangeAt Go.RowKit

theorem infoL : (Tryd.prog.info? 22).map (fun i => (i.zero, i.size, i.bytes)) = some (some (.slice none 0 0), 1, 24) := by kernel_rfl
def sumN (n : Nat → Nat) : Nat → Nat
  | 0 => 0
  | k + 1 => sumN n k + n k
def catN (xs : Nat → List Value) : Nat → List Value
  | 0 => []
  | k + 1 => catN xs k ++ xs k
theorem sumN_mono (n : Nat → Nat) {k l : Nat} (h : k ≤ l) : sumN n k ≤ sumN n l := by
  induction l with
  | zero => rw [Nat.le_zero.1 h]; exact Nat.le_refl _
  | succ l ih =>
    rcases Nat.lt_or_ge k (l + 1) with h1 | h1
    · have := ih (by omega)
      show _ ≤ sumN n l + n l
      omega
    · rw [Nat.le_antisymm h h1]; exact Nat.le_refl _
set_option maxRecDepth 20000 in
set_option maxHeartbeats 1000000 in
theorem growM_any (n : Nat) (h0 : 0 < n) (h1 : n ≤ 64) (w : World) :
    Calls Tryd.prog 35 #[.slice none 0 0, .int .i64 n] w fun e w' => ∃ G, n ≤ G ∧ e = .returned (.slice (some ⟨w.heap.size, 0, none⟩) 0 G) ∧ w'.ownsRow w.heap.size 22 1 (.slice (some ⟨w.heap.size, 0, none⟩) 0 G) 0 [] ∧ Below w.heap.size w w' ∧ w.heap.size < w'.heap.size := by
  obtain ⟨i0, hi, hz0, hz1, hz2⟩ := info_parts infoL
  have h2 : ¬ ((n : Int) < 0) := by omega
  have h4 : (n : Int) > 0 := by omega
  have hw : wrap64 (n : Int) = n := by unfold wrap64; omega
  have hrz : ∀ ty, (Builtin.append_ #[23, 3] ty #[.slice none 0 0, .int .i64 (n : Int)]).run Tryd.prog w = .ok (.slice (some ⟨w.heap.size, 0, none⟩) (0 + n) (grownCap w (0 + n) 0 22)) (w.drew.alloc (.cells (([] : List Value).toArray ++ Builtin.zeroCells (Value.slice none 0 0).cells n ++ Builtin.zeroCells (Value.slice none 0 0).cells (grownCap w (0 + n) 0 22 - (0 + n))) 22)) := fun ty =>
    Lib.run_append_grow_zeros w 23 3 ty 22 i0 (.slice none 0 0) .i64 .i64 Tryd.underlying23 Tryd.underlying3 hi hz0 none 0 0 [] (run_firstCells_none w.drew i0.size 0 0 0) n h0 (by omega) (by omega) (by omega) (by rw [hz2]; omega) (growslice_fits (by omega) (by rw [hz2]; omega))
  have hG1 : 0 + n ≤ grownCap w (0 + n) 0 22 := grownCap_ge w _ _ _
  have hG2 : grownCap w (0 + n) 0 22 ≤ maxLen := grownCap_le_maxLen w (0 + n) 0 22 (by unfold maxLen; omega)
  obtain ⟨G, hG⟩ : ∃ G, G = grownCap w (0 + n) 0 22 := ⟨_, rfl⟩
  rw [← hG] at hrz hG1 hG2
  have hG3 : G ≤ 9223372036854775807 := by unfold maxLen at hG2; omega
  obtain ⟨cur, hcur⟩ : ∃ cur, ([] : List Value).toArray ++ Builtin.zeroCells (Value.slice none 0 0).cells n ++ Builtin.zeroCells (Value.slice none 0 0).cells (G - (0 + n)) = cur := ⟨_, rfl⟩
  rw [hcur] at hrz
  have hcs : cur.size = G * 1 := by rw [← hcur]; simp [size_zeroCells, Value.cells]; omega
  clear hcur hG
  rw [Nat.zero_add] at hrz
  go_enter Tryd.func35, Tryd.ntmps35
  go_wp2_with (at_builtin; refine Lib.wpList_append_run _ rfl _ _ _ _ rfl _ _ rfl rfl _ _ (hrz _) ?_)
  go_ret
  refine ⟨G, by omega, rfl, ⟨rfl, .inr ⟨w.heap.size, G, cur, rfl, Nat.le_refl _, ?_, Nat.zero_le _, hG2, hcs, rfl⟩⟩, ?_, ?_⟩
  · show (w.drew.heap.push _)[w.heap.size]? = _
    exact Array.getElem?_push_size
  · exact (show Below w.heap.size w w.drew from ⟨rfl, rfl, rfl, Nat.le_refl _, fun _ _ => rfl⟩).alloc (Nat.le_refl _) _
  · show _ < (w.drew.heap.push _).size
    rw [Array.size_push]
    exact Nat.lt_succ_self _
set_option maxRecDepth 20000 in
set_option maxHeartbeats 2000000 in
theorem concat3_any (C oC cc : Nat) (b o n c : Nat → Nat) (xs : Nat → List Value) (w : World) (hC : C < w.heap.size) (hs : ∀ i, i < 3 → w.cell? ⟨C, oC + i, none⟩ = some (.slice (some ⟨b i, o i, none⟩) (n i) (c i)))
    (hb : ∀ i, i < 3 → b i < w.heap.size) (hl : ∀ i, i < 3 → (xs i).length = n i) (hx : ∀ i, i < 3 → ∀ j u, (xs i)[j]? = some u → w.cell? ⟨b i, o i + j, none⟩ = some u) (h1 : ∀ i, i < 3 → ∀ u ∈ xs i, u.oneCell' = true) (h0 : 0 < sumN n 3) (h64 : sumN n 3 ≤ 64) :
    Calls Tryd.prog 27 #[.slice (some ⟨C, oC, none⟩) 3 cc] w fun e w' => ∃ g G, e = .returned (.slice (some ⟨g, 0, none⟩) (sumN n 3) G) ∧ w.heap.size ≤ g ∧ g < w'.heap.size ∧ w'.ownsRow w.heap.size 22 1 (.slice (some ⟨g, 0, none⟩) (sumN n 3) G) (sumN n 3) (catN xs 3) ∧ Below w.heap.size w w' := by
  obtain ⟨i0, hi, hz0, hz1, hz2⟩ := info_parts infoL
  have HS := Lib.hid hs
  have HBB := Lib.hid hb
  have HL := Lib.hid hl
  have HX := Lib.hid hx
  have H1 := Lib.hid h1
  have HG := Lib.hid (fun w => growM_any (sumN n 3) h0 h64 w)
  have HM := Lib.hid (fun k (hk : k ≤ 3) => sumN_mono n hk)
  clear hs hb hl hx h1
  go_enter Tryd.func27, Tryd.ntmps27
  go_wp2
  go_loopw [3, 11] (fun v i wr => ∃ k : Nat, k ≤ 3 ∧ i = .int .i64 k ∧ v = .int .i64 (sumN n k) ∧ wr = w) (fun _ i _ => 3 - (intOf i).toNat)
  case atStart => exact ⟨0, by omega, rfl, rfl, rfl⟩
  case round =>
    obtain ⟨k, hk, rfl, rfl, rfl⟩ := hrel
    by_cases hlt : k < 3
    · have hcell := HS.out k hlt
      have hm1 := HM.out k hk
      have hm2 : sumN n k + n k ≤ sumN n 3 := HM.out (k + 1) (by omega)
      have HN := Lib.hid (show sumN n (k + 1) = sumN n k + n k from rfl)
      generalize sumN n k = S at *
      generalize n k = m at *
      generalize c k = ck at *
      generalize b k = bk at *
      generalize o k = ok at *
      go_wp2
      go_roundw
      case rel => exact ⟨k + 1, by omega, by go_num, by rw [HN.out]; go_num, trivial⟩
      case measure => simp [intOf]; omega
    · obtain rfl : k = 3 := by omega
      obtain ⟨wA, rfl⟩ : ∃ x, x = wr := ⟨_, rfl⟩
      go_wp2_with fail
      refine (HG.out _).mono ?_
      rintro en w2 ⟨G, hG, rfl, hown, hb2, hlt2⟩
      have HO := Lib.hid hown
      have HB := Lib.hid hb2
      clear hown
      generalize hg : wA.heap.size = g at *
      go_wp2
      go_loopw [6, 27] (fun v i wq => ∃ k : Nat, k ≤ 3 ∧ i = .int .i64 k ∧ v = .slice (some ⟨g, 0, none⟩) (sumN n k) G ∧ wq.ownsRow g 22 1 (.slice (some ⟨g, 0, none⟩) (sumN n k) G) (sumN n k) (catN xs k) ∧ Below g wA wq ∧ g < wq.heap.size) (fun _ i _ => 3 - (intOf i).toNat)
      case atStart => exact ⟨0, by omega, rfl, rfl, HO.out, HB.out, hlt2⟩
      case round =>
        obtain ⟨k, hk, rfl, rfl, hown, hbw, hgl⟩ := hrel
        have HBW := Lib.hid hbw
        by_cases hlt : k < 3
        · have hcell : wr.cell? ⟨C, oC + k, none⟩ = some (.slice (some ⟨b k, o k, none⟩) (n k) (c k)) := (hbw.cell (p := ⟨C, oC + k, none⟩) hC).trans (HS.out k hlt)
          have HOWN := Lib.hid hown
          have HXK := Lib.hid (show ∀ j u, (xs k)[j]? = some u → wr.cell? ((⟨b k, o k, none⟩ : Addr).add j) = some u from fun j u hj => by
            rw [Addr.add_lit]
            exact (hbw.cell (p := ⟨b k, o k + j, none⟩) (HBB.out k hlt)).trans (HX.out k hlt j u hj))
          have HLK := Lib.hid (show (xs k).length = n k * 1 by rw [Nat.mul_one]; exact HL.out k hlt)
          have H1K := Lib.hid (H1.out k hlt)
          have hm2 : sumN n k + n k ≤ sumN n 3 := HM.out (k + 1) (by omega)
          clear hbw hown
          go_wp2_with (at_builtin; refine wpList_append_fits _ rfl _ _ 23 rfl g 22 i0 1 Tryd.underlying23 hi hz1 g (sumN n k) G (catN xs k) rfl HOWN.out ⟨b k, o k, none⟩ (n k) (c k) (xs k) rfl HLK.out HXK.out H1K.out (by omega) ?_; intro w5 hown5 hgrow5)
          have HO5 := Lib.hid hown5
          have HB5 := Lib.hid (HBW.out.grown hgrow5 (Nat.le_of_lt hgl) (fun k hk => by cases hk; exact Nat.le_refl _))
          have hl5 : g < w5.heap.size := Nat.lt_of_lt_of_le hgl hgrow5.size
          clear hown5 hgrow5
          go_wp2
          go_roundw
          case rel => exact ⟨k + 1, by omega, by go_num, rfl, HO5.out, HB5.out, hl5⟩
          case measure => simp [intOf]; omega
        · obtain rfl : k = 3 := by omega
          have HOWN := Lib.hid hown
          clear hbw hown
          go_wp2
          go_ret
          exact ⟨g, G, rfl, by omega, hgl, by rw [hg]; exact HOWN.out, by rw [hg]; exact HBW.out⟩
end Go.Proofs.YtblkbjeongmgdaaDoor
