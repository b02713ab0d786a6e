/- Sounds: numbers made to climb: the program's walk. -/
import Derived.Test.YtpjopfhkgegahaaGreatSndImpl
import Derived.BigRegion
namespace Go.Proofs.YtpjopfhkgegahaaGreat
open Go.ChangeShapes Go.WideShapes Go.ChangeAt Go.RowKit

def clNext (zs : List Int) (k : Nat) : List Int := zs.set k (pickMost (zs.getD k 0) (zs.getD (k - 1) 0 + 1))
def clL (zs : List Int) : Nat → List Int
  | 0 => zs
  | 1 => zs
  | k + 2 => clNext (clL zs (k + 1)) (k + 1)
theorem cl_next (zs : List Int) (k : Nat) (h : 1 ≤ k) : clL zs (k + 1) = clNext (clL zs k) k := by
  obtain ⟨q, rfl⟩ : ∃ q, k = q + 1 := ⟨k - 1, by omega⟩
  rfl
theorem cl_len (zs : List Int) : ∀ k, (clL zs k).length = zs.length
  | 0 => rfl
  | 1 => rfl
  | k + 2 => by
    show (clNext (clL zs (k + 1)) (k + 1)).length = _
    unfold clNext
    rw [List.length_set]
    exact cl_len zs (k + 1)
theorem pick_bd {x y : Int} {lo hi : Int} (hx : lo ≤ x ∧ x ≤ hi) (hy : lo ≤ y ∧ y ≤ hi) : lo ≤ pickMost x y ∧ pickMost x y ≤ hi := by unfold pickMost; split <;> omega
theorem set_getD (zs : List Int) (k j : Nat) (x : Int) (hk : k < zs.length) : (zs.set k x).getD j 0 = if j = k then x else zs.getD j 0 := by
  rw [List.getD_eq_getElem?_getD, List.getElem?_set, List.getD_eq_getElem?_getD]
  by_cases h : k = j
  · subst h; rw [if_pos rfl, if_pos rfl, if_pos hk]; rfl
  · rw [if_neg h, if_neg (fun e => h e.symm)]
theorem cl_bd (zs : List Int) (lo hi : Int) (hz : ∀ j, j < zs.length → lo ≤ zs.getD j 0 ∧ zs.getD j 0 ≤ hi) : ∀ k, k ≤ zs.length → ∀ j, j < zs.length → lo ≤ (clL zs k).getD j 0 ∧ (clL zs k).getD j 0 ≤ hi + k
  | 0, _, j, hj => by have := hz j hj; simpa [clL] using this
  | 1, _, j, hj => ⟨(hz j hj).1, by have h2 := (hz j hj).2; show zs.getD j 0 ≤ hi + ((1 : Nat) : Int); omega⟩
  | k + 2, hk, j, hj => by
    have ih := cl_bd zs lo hi hz (k + 1) (by omega)
    show lo ≤ (clNext (clL zs (k + 1)) (k + 1)).getD j 0 ∧ (clNext (clL zs (k + 1)) (k + 1)).getD j 0 ≤ _
    unfold clNext
    rw [set_getD _ _ _ _ (by rw [cl_len]; omega)]
    have a := ih (k + 1) (by omega)
    have b := ih (k + 1 - 1) (by omega)
    have c := ih j hj
    split
    · have := pick_bd (lo := lo) (hi := hi + ((k + 2 : Nat) : Int)) (x := (clL zs (k + 1)).getD (k + 1) 0) (y := (clL zs (k + 1)).getD (k + 1 - 1) 0 + 1) (by omega) (by omega)
      exact this
    · omega
theorem i64s_setC (zs : List Int) (k : Nat) (x : Int) : (i64s zs).set k (.int .i64 x) = i64s (zs.set k x) := by unfold i64s; rw [List.map_set]
theorem row_keep {w w' : World} {B : Nat} {e : TypeId} {v : Value} {n : Nat} {xs : List Value} (hb : Below w.heap.size w w') (h : w.ownsRow B e 1 v n xs) : w'.ownsRow B e 1 v n xs :=
  h.kept (row := none) ⟨hb.os, hb.tape, hb.output, hb.size, fun k hk _ => hb.block k hk⟩ (by cases hv : v.ownBlock <;> simp)

theorem one_cell {w w2 : World} (x : Int) {T : TypeId} (h : w2.cell? ⟨w.heap.size, 0, none⟩ = (w.alloc (.cells #[.int .i64 x] T)).cell? ⟨w.heap.size, 0, none⟩) : ∀ j, j < 1 → w2.cell? ⟨w.heap.size, 0 + j, none⟩ = some (.int .i64 ([x].getD j 0)) := by
  intro j hj
  obtain rfl : j = 0 := by omega
  rw [h]; go_simp
set_option maxHeartbeats 1000000 in
theorem climbing_any (a b c e f : Int) (w : World) (hz : ∀ j, j < [a, b, c, e, f].length → 10000 ≤ [a, b, c, e, f].getD j 0 ∧ [a, b, c, e, f].getD j 0 ≤ 20000000) (a' b' c' e' f' : Int) (hcl : Hid (clL [a, b, c, e, f] 5 = [a', b', c', e', f'])) :
    Calls Tryz.prog 117 #[.agg #[.int .i64 a, .int .i64 b, .int .i64 c, .int .i64 e, .int .i64 f]] w fun en w' => en = .returned (.agg #[.int .i64 a', .int .i64 b', .int .i64 c', .int .i64 e', .int .i64 f']) ∧ Below w.heap.size w w' := by
  have HZ := Lib.hid (cl_bd _ _ _ hz)
  clear hz
  go_enter Tryz.func117, Tryz.ntmps117
  go_wp2
  have hA : (w.alloc (.cells #[.int .i64 a, .int .i64 b, .int .i64 c, .int .i64 e, .int .i64 f] 101)).ownsRow w.heap.size 101 1 (.slice (some ⟨w.heap.size, 0, none⟩) 5 5) 5 (i64s [a, b, c, e, f]) :=
    World.ownsRow_lit w (i64s [a, b, c, e, f]).toArray 5 (Nat.le_refl _) (by decide) rfl
  have hsz : (w.alloc (.cells #[.int .i64 a, .int .i64 b, .int .i64 c, .int .i64 e, .int .i64 f] 101)).heap.size = w.heap.size + 1 := by simp
  have hB : ((w.alloc (.cells #[.int .i64 a, .int .i64 b, .int .i64 c, .int .i64 e, .int .i64 f] 101)).alloc (.cells #[.int .i64 0, .int .i64 0, .int .i64 0, .int .i64 0, .int .i64 0] 101)).ownsRow (w.heap.size + 1) 101 1 (.slice (some ⟨w.heap.size + 1, 0, none⟩) 5 5) 5 (i64s [0, 0, 0, 0, 0]) := by
    generalize w.alloc (.cells #[.int .i64 a, .int .i64 b, .int .i64 c, .int .i64 e, .int .i64 f] 101) = w1 at hsz ⊢
    rw [← hsz]
    exact World.ownsRow_lit w1 (i64s [0, 0, 0, 0, 0]).toArray 5 (Nat.le_refl _) (by decide) rfl
  have HA := Lib.hid hA
  have HB := Lib.hid hB
  clear hA hB hsz
  go_loopw [3] (fun i wr => ∃ k : Nat, 1 ≤ k ∧ k ≤ 5 ∧ i = .int .i64 k ∧ wr.ownsRow w.heap.size 101 1 (.slice (some ⟨w.heap.size, 0, none⟩) 5 5) 5 (i64s (clL [a, b, c, e, f] k)) ∧ wr.ownsRow (w.heap.size + 1) 101 1 (.slice (some ⟨w.heap.size + 1, 0, none⟩) 5 5) 5 (i64s [0, 0, 0, 0, 0]) ∧ Below w.heap.size w wr) (fun i _ => 5 - (intOf i).toNat)
  case atStart => exact ⟨1, by omega, by omega, rfl, row_keep ((Below.refl _ _).alloc (Nat.le_refl _) _) HA.out, HB.out, ((Below.refl _ _).alloc (Nat.le_refl _) _).alloc (by simp) _⟩
  case round =>
    obtain ⟨k, hk1, hk5, rfl, hown, hown2, hbw⟩ := hrel
    by_cases hlt : k < 5
    · obtain ⟨q, rfl⟩ : ∃ q, k = q + 1 := ⟨k - 1, by omega⟩
      have hlen : (clL [a, b, c, e, f] (q + 1)).length = 5 := by rw [cl_len]; rfl
      have hx : wr.cell? ⟨w.heap.size, q + 1, none⟩ = some (.int .i64 ((clL [a, b, c, e, f] (q + 1)).getD (q + 1) 0)) := by
        rw [hown.cellAt (q + 1) (by omega)]; exact i64s_get _ _ (by omega)
      have hy : wr.cell? ⟨w.heap.size, q, none⟩ = some (.int .i64 ((clL [a, b, c, e, f] (q + 1)).getD q 0)) := by
        rw [hown.cellAt q (by omega)]; exact i64s_get _ _ (by omega)
      have hf := hown.frozenAt (q + 1)
      have by1 := HZ.out (q + 1) (by simp; omega) q (by simp; omega)
      have hw := (hown.lt _ rfl).2
      have HS := Lib.hid (cl_next [a, b, c, e, f] (q + 1) (by omega))
      have HO := Lib.hid hown
      have HO2 := Lib.hid hown2
      have HBW := Lib.hid hbw
      have HL := Lib.hid hlen
      clear hown hown2 hbw hlen
      have hs : (((q + 1 : Nat) : Int) - 1) = (q : Int) := by omega
      have hi1 : (q : Int) + 1 < 5 := by omega
      have hi3 : (0 : Int) ≤ (q : Int) + 1 := by omega
      have hi4 : (0 : Int) ≤ (q : Int) := by omega
      have hi6 : IntKind.i64.wrap (q : Int) = (q : Int) := IntWalk.i64_in _ (by omega)
      have hi7 : IntKind.i64.wrap ((q : Int) + 1 - 1) = (q : Int) := by rw [show (q : Int) + 1 - 1 = q by omega]; exact hi6
      have hi5 : ((q : Int) + 1).toNat = q + 1 := by omega
      have hi2 : (q : Int) < 5 := by omega
      generalize hgx : (clL [a, b, c, e, f] (q + 1)).getD (q + 1) 0 = x at *
      generalize hgy : (clL [a, b, c, e, f] (q + 1)).getD q 0 = y at *
      have HGX := Lib.hid hgx
      have HGY := Lib.hid hgy
      clear hgx hgy
      obtain ⟨m, hm⟩ : ∃ m, [y + 1].foldl pickMost x = m := ⟨_, rfl⟩
      have HM := Lib.hid hm
      clear hm
      have hwr : IntKind.i64.wrap (y + 1) = y + 1 := IntWalk.i64_in _ (by omega)
      go_wp2
      go_region_with (first | (go_at_call 133; refine (greatest_any x [y + 1] wr.heap.size 0 1 1 (wr.alloc (.cells #[.int .i64 (y + 1)] 2)).drew rfl (by omega) (one_cell (w := wr) (T := 2) (y + 1) rfl)).mono ?_; rintro en w2 ⟨rfl, rfl⟩; rw [HM.out]))
      all_goals
        go_wp2
        go_roundw
        case rel =>
          refine ⟨q + 2, by omega, by omega, by go_num, ?_, ?_, below_dr ((HBW.out.setCell (Nat.le_refl _) _).alloc (by have := HBW.out.size; simpa using this) _)⟩
          · have hst := (HO.out.stored (q + 1) (.int .i64 m)).1
            rw [i64s_setC, show (clL [a, b, c, e, f] (q + 1)).set (q + 1) m = clL [a, b, c, e, f] (q + 1 + 1) by rw [HS.out]; unfold clNext; rw [HGX.out, Nat.add_sub_cancel, HGY.out, ← HM.out]; rfl] at hst
            exact row_keep (w := wr.setCell ⟨w.heap.size, q + 1, none⟩ (.int .i64 m)) (below_dr ((Below.refl _ _).alloc (Nat.le_refl _) _)) hst
          · exact row_keep (w := wr.setCell ⟨w.heap.size, q + 1, none⟩ (.int .i64 m)) (below_dr ((Below.refl _ _).alloc (Nat.le_refl _) _)) (ownsRow_setCell_below HO2.out (by show w.heap.size < w.heap.size + 1; omega) _)
        case measure => simp [intOf]; omega
    · obtain rfl : k = 5 := by omega
      rw [hcl.out] at hown
      have hw := (hown.lt _ rfl).2
      have hw2 := (hown2.lt _ rfl).2
      have c0 := hown.cellAt 0 (by omega)
      have c1 := hown.cellAt 1 (by omega)
      have c2 := hown.cellAt 2 (by omega)
      have c3 := hown.cellAt 3 (by omega)
      have c4 := hown.cellAt 4 (by omega)
      have d0 := hown2.cellAt 0 (by omega)
      have d1 := hown2.cellAt 1 (by omega)
      have d2 := hown2.cellAt 2 (by omega)
      have d3 := hown2.cellAt 3 (by omega)
      have d4 := hown2.cellAt 4 (by omega)
      have f0 := hown2.frozenAt 0
      have f1 := hown2.frozenAt 1
      have f2 := hown2.frozenAt 2
      have f3 := hown2.frozenAt 3
      have f4 := hown2.frozenAt 4
      simp only [i64s, List.map_cons, List.map_nil, List.getElem?_cons_zero, List.getElem?_cons_succ] at c0 c1 c2 c3 c4 d0 d1 d2 d3 d4
      have HBW := Lib.hid hbw
      clear hown hown2 hbw HZ HA HB
      go_wp2
      refine bodyPost_ret (v := .agg #[.int .i64 a', .int .i64 b', .int .i64 c', .int .i64 e', .int .i64 f']) (by simp [results, Tryz.results117, go_sem, d0, d1, d2, d3, d4]) rfl ⟨rfl, ?_⟩
      have hle : w.heap.size ≤ w.heap.size + 1 := by omega
      exact ((((HBW.out.setCell hle _).setCell hle _).setCell hle _).setCell hle _).setCell hle _
end Go.Proofs.YtpjopfhkgegahaaGreat
