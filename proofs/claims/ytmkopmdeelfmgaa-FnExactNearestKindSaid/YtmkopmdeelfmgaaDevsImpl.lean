/- How far the partials of a sound are from ideal ones: the whole of the reference model's, and the program's walk. -/
import Derived.Test.YtmkopmdeelfmgaaDevsSpec
import Derived.Test.YtmkopmdeelfmgaaApart
namespace Go.Proofs.Ytmkopmdeelfmgaa
open Go.ChangeShapes Go.WideShapes Go.ChangeAt Go.RowKit

def dvOk (a b c e f s k : Int) : Bool := sndB a b c e f && (okF s && kindB k)
def dvC (a b c e f : Int) : Int := if sndB a b c e f = true then 2 else 1
theorem dv_no {a b c e f s k : Int} (h : sndB a b c e f = false) : dvOk a b c e f s k = false ∧ dvC a b c e f = 1 := by unfold dvOk dvC; rw [h]; exact ⟨rfl, rfl⟩
theorem dv_no2 {a b c e f s k : Int} (h : sndB a b c e f = true) (h2 : okF s = false) : dvOk a b c e f s k = false ∧ dvC a b c e f = 2 := by unfold dvOk dvC; rw [h, h2]; exact ⟨rfl, rfl⟩
theorem dv_no3 {a b c e f s k : Int} (h : sndB a b c e f = true) (h2 : kindB k = false) : dvOk a b c e f s k = false ∧ dvC a b c e f = 2 := by unfold dvOk dvC; rw [h, h2]; exact ⟨by simp, rfl⟩
theorem dv_yes {a b c e f s k : Int} (h : sndB a b c e f = true) (h1 : okF s = true) (h2 : kindB k = true) : dvOk a b c e f s k = true := by unfold dvOk; rw [h, h1, h2]; rfl
def DevsAre (E : TypeId) (a b c e f s k : Int) (w : World) (en : Ending) (w' : World) : Prop := FiveIs E (dvOk a b c e f s k) (devL [a, b, c, e, f] s k) (dvC a b c e f) w en w'

set_option maxHeartbeats 1000000 in
theorem specDevs_any (a b c e f s k : Int) (w : World) :
    Calls Try.prog 26 #[.agg #[.int .i64 a, .int .i64 b, .int .i64 c, .int .i64 e, .int .i64 f], .int .i64 s, .int .i64 k] w (DevsAre 2 a b c e f s k w) := by
  rcases Bool.eq_false_or_eq_true (sndB a b c e f) with h0 | h0
  · have H0 := Lib.hid h0
    rcases Bool.eq_false_or_eq_true (okF s) with h1 | h1
    · obtain ⟨s0, s1⟩ := okF_iff.1 h1
      have H1 := Lib.hid h1
      rcases Bool.eq_false_or_eq_true (kindB k) with h2 | h2
      · have H2 := Lib.hid h2
        go_enter Try.func26, Try.ntmps26
        go_wp2_with fail
        refine (l04Ok_any w.heap.size a b c e f _ (by go_simp) (by go_simp) (by go_simp) (by go_simp) (by go_simp)).mono ?_
        rintro en w1 ⟨rfl, hb⟩
        have H5 := Lib.hid (five_below hb (five_alloc w a b c e f 25))
        have HB := Lib.hid (below_of ((Below.refl _ _).alloc (Nat.le_refl _) _) hb (by simp))
        clear hb
        rw [h0]
        go_wp2_with fail
        refine (l02Ok_any _ _).mono ?_
        rintro en w2 ⟨rfl, rfl⟩
        rw [h1]
        go_wp2_with fail
        refine (l04Kind_any _ _).mono ?_
        rintro en w2 ⟨rfl, rfl⟩
        rw [h2]
        go_wp2_with fail
        refine (l04Devs_any w.heap.size a b c e f s k _ H0.out H2.out s0 s1 H5.out).mono ?_
        rintro en w2 ⟨⟨g, cap, rfl, ho⟩, hb⟩
        have HO := Lib.hid (show OwnFive 2 w g cap (devL [a, b, c, e, f] s k) w2 from ⟨Nat.le_trans HB.out.size ho.1, row_low5 ho.2 HB.out.size⟩)
        have HB2 := Lib.hid (below_of HB.out hb HB.out.size)
        clear hb ho
        go_wp2
        go_ret2
        exact ⟨HB2.out, .inl ⟨dv_yes H0.out H1.out H2.out, g, cap, rfl, HO.out⟩⟩
      · have R := Lib.hid (dv_no3 (s := s) h0 h2)
        go_enter Try.func26, Try.ntmps26
        go_wp2_with fail
        refine (l04Ok_any w.heap.size a b c e f _ (by go_simp) (by go_simp) (by go_simp) (by go_simp) (by go_simp)).mono ?_
        rintro en w1 ⟨rfl, hb⟩
        have HB := Lib.hid (below_of ((Below.refl _ _).alloc (Nat.le_refl _) _) hb (by simp))
        clear hb
        rw [h0]
        go_wp2_with fail
        refine (l02Ok_any _ _).mono ?_
        rintro en w2 ⟨rfl, rfl⟩
        rw [h1]
        go_wp2_with fail
        refine (l04Kind_any _ _).mono ?_
        rintro en w2 ⟨rfl, rfl⟩
        rw [h2]
        go_wp2
        go_ret2
        exact ⟨HB.out, .inr ⟨R.out.1, by rw [R.out.2]; rfl⟩⟩
    · have R := Lib.hid (dv_no2 (k := k) h0 h1)
      go_enter Try.func26, Try.ntmps26
      go_wp2_with fail
      refine (l04Ok_any w.heap.size a b c e f _ (by go_simp) (by go_simp) (by go_simp) (by go_simp) (by go_simp)).mono ?_
      rintro en w1 ⟨rfl, hb⟩
      have HB := Lib.hid (below_of ((Below.refl _ _).alloc (Nat.le_refl _) _) hb (by simp))
      clear hb
      rw [h0]
      go_wp2_with fail
      refine (l02Ok_any _ _).mono ?_
      rintro en w2 ⟨rfl, rfl⟩
      rw [h1]
      go_wp2
      go_ret2
      exact ⟨HB.out, .inr ⟨R.out.1, by rw [R.out.2]; rfl⟩⟩
  · have R := Lib.hid (dv_no (s := s) (k := k) h0)
    go_enter Try.func26, Try.ntmps26
    go_wp2_with fail
    refine (l04Ok_any w.heap.size a b c e f _ (by go_simp) (by go_simp) (by go_simp) (by go_simp) (by go_simp)).mono ?_
    rintro en w1 ⟨rfl, hb⟩
    have HB := Lib.hid (below_of ((Below.refl _ _).alloc (Nat.le_refl _) _) hb (by simp))
    clear hb
    rw [h0]
    go_wp2
    go_ret2
    exact ⟨HB.out, .inr ⟨R.out.1, by rw [R.out.2]; rfl⟩⟩

/-- Five numbers of which the first k are already the new ones. -/
def stepL (p q : Nat → Int) (k : Nat) : List Int := (List.range 5).map fun j => if j < k then q j else p j
theorem step_len (p q : Nat → Int) (k : Nat) : (stepL p q k).length = 5 := by simp [stepL]
theorem step_get (p q : Nat → Int) (k j : Nat) (h : j < 5) : (stepL p q k).getD j 0 = if j < k then q j else p j := by simp [stepL, List.getD, h]
theorem step_next (p q : Nat → Int) (k : Nat) (_h : k < 5) : (stepL p q k).set k (q k) = stepL p q (k + 1) := by
  apply List.ext_getElem
  · simp [stepL]
  · intro j h1 h2
    have hj : j < 5 := by simpa [stepL] using h2
    rw [List.getElem_set]
    by_cases e : k = j
    · subst e; simp [stepL]
    · rw [if_neg e]
      simp only [stepL, List.getElem_map, List.getElem_range]
      by_cases e2 : j < k
      · rw [if_pos e2, if_pos (by omega)]
      · rw [if_neg e2, if_neg (by omega)]
theorem step_all (p q : Nat → Int) : stepL p q 5 = [q 0, q 1, q 2, q 3, q 4] := rfl
theorem step_none (p q : Nat → Int) : stepL p q 0 = [p 0, p 1, p 2, p 3, p 4] := rfl
theorem i64s_set' (zs : List Int) (k : Nat) (x : Int) : (i64s zs).set k (.int .i64 x) = i64s (zs.set k x) := by unfold i64s; rw [List.map_set]

theorem intervalTo_any (s x : Int) (w : World) :
    Calls Try.prog 49 #[.int .i64 s, .int .i64 x] w fun e w' => e = .returned (.tuple #[.int .i64 (centsR s x), .int .i64 (codeOf (ok2 s x))]) ∧ Below w.heap.size w w' := by
  go_enter Try.func49, Try.ntmps49
  go_wp2_with fail
  refine (implCentsBetween_any _ _ _).mono ?_
  rintro e w1 ⟨rfl, hb⟩
  have HB := Lib.hid hb
  clear hb
  go_wp2
  go_ret2
  exact ⟨rfl, HB.out⟩

def allQ (zs : List Int) (s : Int) (j : Nat) : Int := logV (zs.getD j 0) - logV s
set_option maxRecDepth 100000 in
set_option maxHeartbeats 2000000 in
theorem allOf_yes (zs : List Int) (b off cap : Nat) (s : Int) (w : World) (h1 : okF s = true) (hz : ∀ j, j < 5 → 10000 ≤ zs.getD j 0 ∧ zs.getD j 0 ≤ 20000000) (hb : b < w.heap.size) (hc : ∀ j, j < 5 → w.cell? ⟨b, off + j, none⟩ = some (.int .i64 (zs.getD j 0))) :
    Calls Try.prog 48 #[.func (.func 49) #[.int .i64 s] #[], .slice (some ⟨b, off, none⟩) 5 cap] w fun en w' => en = .returned (.tuple #[.agg #[.int .i64 (allQ zs s 0), .int .i64 (allQ zs s 1), .int .i64 (allQ zs s 2), .int .i64 (allQ zs s 3), .int .i64 (allQ zs s 4)], .int .i64 0]) ∧ Below w.heap.size w w' := by
  have HZ := Lib.hid hz
  have HC := Lib.hid hc
  have H1 := Lib.hid h1
  clear hz hc h1
  go_enter Try.func48, Try.ntmps48
  go_wp2
  have hA : (w.alloc (.cells #[.int .i64 0, .int .i64 0, .int .i64 0, .int .i64 0, .int .i64 0] 50)).ownsRow w.heap.size 50 1 (.slice (some ⟨w.heap.size, 0, none⟩) 5 5) 5 (i64s [0, 0, 0, 0, 0]) :=
    World.ownsRow_lit w (i64s [0, 0, 0, 0, 0]).toArray 5 (Nat.le_refl _) (by decide) rfl
  have hsz : (w.alloc (.cells #[.int .i64 0, .int .i64 0, .int .i64 0, .int .i64 0, .int .i64 0] 50)).heap.size = w.heap.size + 1 := by simp
  have hB : ((w.alloc (.cells #[.int .i64 0, .int .i64 0, .int .i64 0, .int .i64 0, .int .i64 0] 50)).alloc (.cells #[.int .i64 0, .int .i64 0, .int .i64 0, .int .i64 0, .int .i64 0] 50)).ownsRow (w.heap.size + 1) 50 1 (.slice (some ⟨w.heap.size + 1, 0, none⟩) 5 5) 5 (i64s (stepL (fun _ => 0) (allQ zs s) 0)) := by
    rw [step_none]
    generalize w.alloc (.cells #[.int .i64 0, .int .i64 0, .int .i64 0, .int .i64 0, .int .i64 0] 50) = w1 at hsz ⊢
    rw [← hsz]
    exact World.ownsRow_lit w1 (i64s [0, 0, 0, 0, 0]).toArray 5 (Nat.le_refl _) (by decide) rfl
  have HA := Lib.hid (row_keep5 (w' := (w.alloc (.cells #[.int .i64 0, .int .i64 0, .int .i64 0, .int .i64 0, .int .i64 0] 50)).alloc (.cells #[.int .i64 0, .int .i64 0, .int .i64 0, .int .i64 0, .int .i64 0] 50)) ((Below.refl _ _).alloc (Nat.le_refl _) _) hA)
  have HB := Lib.hid hB
  clear hA hB hsz
  go_loopw [10] (fun i wr => ∃ k : Nat, k ≤ 5 ∧ i = .int .i64 k ∧ wr.ownsRow w.heap.size 50 1 (.slice (some ⟨w.heap.size, 0, none⟩) 5 5) 5 (i64s [0, 0, 0, 0, 0]) ∧ wr.ownsRow (w.heap.size + 1) 50 1 (.slice (some ⟨w.heap.size + 1, 0, none⟩) 5 5) 5 (i64s (stepL (fun _ => 0) (allQ zs s) k)) ∧ Below w.heap.size w wr) (fun i _ => 5 - (intOf i).toNat)
  case atStart => exact ⟨0, by omega, rfl, HA.out, HB.out, ((Below.refl _ _).alloc (Nat.le_refl _) _).alloc (by simp) _⟩
  case round =>
    obtain ⟨k, hk5, rfl, hown, hown2, hbw⟩ := hrel
    by_cases hlt : k < 5
    · have hx : wr.cell? ⟨b, off + k, none⟩ = some (.int .i64 (zs.getD k 0)) := by rw [below_cell hbw _ _ hb]; exact HC.out k hlt
      have bx := HZ.out k hlt
      have HQ := Lib.hid (show allQ zs s k = logV (zs.getD k 0) - logV s from rfl)
      have HN := Lib.hid (step_next (fun _ => 0) (allQ zs s) k hlt)
      generalize zs.getD k 0 = x at *
      have hok : ok2 s x = true := by unfold ok2; rw [H1.out, show okF x = true from okF_iff.2 bx]; rfl
      have HR := Lib.hid (show centsR s x = allQ zs s k by rw [HQ.out]; unfold centsR; rw [if_pos hok])
      have HD := Lib.hid (show codeOf (ok2 s x) = 0 by unfold codeOf; rw [hok]; rfl)
      have hk2 : (k : Int) < 5 := by omega
      have hk3 : (0 : Int) ≤ (k : Int) := by omega
      have HO := Lib.hid hown
      have HO2 := Lib.hid hown2
      have HBW := Lib.hid hbw
      clear hown hown2 hbw hok
      go_wp2_with fail
      refine (intervalTo_any s x _).mono ?_
      rintro en w2 ⟨rfl, hb2⟩
      rw [HR.out, HD.out]
      have HO3 := Lib.hid (row_keep5 hb2 HO.out)
      have HP3 := Lib.hid (row_keep5 hb2 HO2.out)
      have HB3 := Lib.hid (below_of HBW.out hb2 HBW.out.size)
      obtain ⟨old, hold⟩ : ∃ old, w2.cell? ⟨w.heap.size + 1, k, none⟩ = some (.int .i64 old) := ⟨_, by rw [HP3.out.cellAt k (by omega)]; exact i64s_get _ k (by rw [step_len]; exact hlt)⟩
      have hf := HP3.out.frozenAt k
      clear hb2 HO HO2 HBW
      generalize allQ zs s k = q at *
      go_wp2
      go_roundw
      case rel =>
        refine ⟨k + 1, by omega, by go_num, ?_, ?_, HB3.out.setCell (show w.heap.size ≤ w.heap.size + 1 by omega) _⟩
        · exact ownsRow_setCell_other HO3.out (by simp [Value.ownBlock]) _
        · rw [← HN.out, ← i64s_set']
          exact (HP3.out.stored k (.int .i64 q)).1
      case measure => simp [intOf]; omega
    · obtain rfl : k = 5 := by omega
      rw [step_all] at hown2
      have c0 := hown2.cellAt 0 (by omega)
      have c1 := hown2.cellAt 1 (by omega)
      have c2 := hown2.cellAt 2 (by omega)
      have c3 := hown2.cellAt 3 (by omega)
      have c4 := hown2.cellAt 4 (by omega)
      have d0 := hown.cellAt 0 (by omega)
      have d1 := hown.cellAt 1 (by omega)
      have d2 := hown.cellAt 2 (by omega)
      have d3 := hown.cellAt 3 (by omega)
      have d4 := hown.cellAt 4 (by omega)
      have f0 := hown.frozenAt 0
      have f1 := hown.frozenAt 1
      have f2 := hown.frozenAt 2
      have f3 := hown.frozenAt 3
      have f4 := hown.frozenAt 4
      simp only [i64s, List.map_cons, List.map_nil, List.getElem?_cons_zero, List.getElem?_cons_succ] at c0 c1 c2 c3 c4 d0 d1 d2 d3 d4
      have HBW := Lib.hid hbw
      clear hown hown2 hbw HA HB
      go_wp2
      try simp only [Exit.inBlock, Exit.then]
      refine bodyPost_ret_by (v := .tuple #[.agg #[.int .i64 (allQ zs s 0), .int .i64 (allQ zs s 1), .int .i64 (allQ zs s 2), .int .i64 (allQ zs s 3), .int .i64 (allQ zs s 4)], .int .i64 0]) (by rw [results_cell_tmp rfl]; go_simp) rfl ?_
      exact ⟨rfl, ((((HBW.out.setCell (Nat.le_refl _) _).setCell (Nat.le_refl _) _).setCell (Nat.le_refl _) _).setCell (Nat.le_refl _) _).setCell (Nat.le_refl _) _⟩

set_option maxRecDepth 100000 in
set_option maxHeartbeats 1000000 in
theorem allOf_no (zs : List Int) (b off cap : Nat) (s : Int) (w : World) (h1 : okF s = false) (hb : b < w.heap.size) (hc : ∀ j, j < 5 → w.cell? ⟨b, off + j, none⟩ = some (.int .i64 (zs.getD j 0))) :
    Calls Try.prog 48 #[.func (.func 49) #[.int .i64 s] #[], .slice (some ⟨b, off, none⟩) 5 cap] w fun en w' => en = .returned (.tuple #[.agg #[.int .i64 0, .int .i64 0, .int .i64 0, .int .i64 0, .int .i64 0], .int .i64 2]) ∧ Below w.heap.size w w' := by
  have hc0 := hc 0 (by omega)
  rw [Nat.add_zero] at hc0
  generalize zs.getD 0 0 = x at *
  have hok : ok2 s x = false := by unfold ok2; rw [h1]; rfl
  have HR := Lib.hid (show centsR s x = 0 by unfold centsR; rw [if_neg (by rw [hok]; decide)])
  have HD := Lib.hid (show codeOf (ok2 s x) = 2 by unfold codeOf; rw [if_neg (by rw [hok]; decide)])
  clear hc hok h1
  go_enter Try.func48, Try.ntmps48
  go_wp2
  have hz : Five ((w.alloc (.cells #[.int .i64 0, .int .i64 0, .int .i64 0, .int .i64 0, .int .i64 0] 50)).alloc (.cells #[.int .i64 0, .int .i64 0, .int .i64 0, .int .i64 0, .int .i64 0] 50)) w.heap.size 0 0 0 0 0 := five_below ((Below.refl _ _).alloc (Nat.le_refl _) _) (five_alloc w 0 0 0 0 0 50)
  have hs0 : (w.alloc (.cells #[.int .i64 0, .int .i64 0, .int .i64 0, .int .i64 0, .int .i64 0] 50)).ownsRow w.heap.size 50 1 (.slice (some ⟨w.heap.size, 0, none⟩) 5 5) 5 (i64s [0, 0, 0, 0, 0]) :=
    World.ownsRow_lit w (i64s [0, 0, 0, 0, 0]).toArray 5 (Nat.le_refl _) (by decide) rfl
  have hs := row_keep5 (w' := (w.alloc (.cells #[.int .i64 0, .int .i64 0, .int .i64 0, .int .i64 0, .int .i64 0] 50)).alloc (.cells #[.int .i64 0, .int .i64 0, .int .i64 0, .int .i64 0, .int .i64 0] 50)) ((Below.refl _ _).alloc (Nat.le_refl _) _) hs0
  have HB := Lib.hid (((Below.refl w.heap.size w).alloc (Nat.le_refl _) (.cells #[.int .i64 0, .int .i64 0, .int .i64 0, .int .i64 0, .int .i64 0] 50)).alloc (by simp) (.cells #[.int .i64 0, .int .i64 0, .int .i64 0, .int .i64 0, .int .i64 0] 50))
  have hx : ((w.alloc (.cells #[.int .i64 0, .int .i64 0, .int .i64 0, .int .i64 0, .int .i64 0] 50)).alloc (.cells #[.int .i64 0, .int .i64 0, .int .i64 0, .int .i64 0, .int .i64 0] 50)).cell? ⟨b, off, none⟩ = some (.int .i64 x) := by rw [below_cell HB.out _ _ hb]; exact hc0
  clear hs0 hc0
  generalize (w.alloc (.cells #[.int .i64 0, .int .i64 0, .int .i64 0, .int .i64 0, .int .i64 0] 50)).alloc (.cells #[.int .i64 0, .int .i64 0, .int .i64 0, .int .i64 0, .int .i64 0] 50) = wA at *
  refine wp_loop_rounds 1 ?_
  rw [rounds_succ]
  go_wp2_with fail
  refine (intervalTo_any s x _).mono ?_
  rintro en w2 ⟨rfl, hb2⟩
  rw [HR.out, HD.out]
  have hs2 := row_keep5 hb2 hs
  obtain ⟨z0, z1, z2, z3, z4⟩ := five_below hb2 hz
  have f0 := hs2.frozenAt 0
  have f1 := hs2.frozenAt 1
  have f2 := hs2.frozenAt 2
  have f3 := hs2.frozenAt 3
  have f4 := hs2.frozenAt 4
  have HB2 := Lib.hid (below_of HB.out hb2 HB.out.size)
  clear hb2 hs hs2 hz hx
  go_wp2
  try simp only [Exit.inBlock, Exit.then]
  refine bodyPost_ret_by (v := .tuple #[.agg #[.int .i64 0, .int .i64 0, .int .i64 0, .int .i64 0, .int .i64 0], .int .i64 2]) (by rw [results_cell_tmp rfl]; go_simp) rfl ?_
  exact ⟨rfl, ((((HB2.out.setCell (Nat.le_refl _) _).setCell (Nat.le_refl _) _).setCell (Nat.le_refl _) _).setCell (Nat.le_refl _) _).setCell (Nat.le_refl _) _⟩
end Go.Proofs.Ytmkopmdeelfmgaa
