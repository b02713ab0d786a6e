/- Lists of melts: when one is valid; the program's answer. -/
import Derived.Test.YtjicnfgpbbganaaStrMap
import Derived.Test.YtjicnfgpbbganaaMeltI
import Derived.Test.YtjicnfgpbbganaaHand
import Derived.Deep.RegionHeld3
set_option linter.unusedVariables false
namespace Go.Proofs.Ytjicnfgpbbganaa
open Go.ChangeShapes Go.WideShapes Go.ChangeAt Go.RowKit Go.Maps

/-- What the map holds behind the first k melts. -/
def usedF (ms : List Mt) : Nat → ByteArray → Option ByteArray
  | 0 => fun _ => none
  | k + 1 => addF (usedF ms k) (ms.getD k zM).2.1 (ms.getD k zM).1
theorem usedF_some (ms : List Mt) (k : Nat) (s : ByteArray) : (usedF ms k s).isSome = (List.range k).any fun j => (ms.getD j zM).2.1.any fun x => decide (x = s) := by
  induction k with
  | zero => rfl
  | succ k ih =>
    rw [List.range_succ, List.any_append, ← ih]
    show (addF (usedF ms k) _ _ s).isSome = _
    unfold addF
    by_cases h : ((ms.getD k zM).2.1.any fun x => decide (x = s)) = true
    · rw [if_pos h]; simp only [List.any_cons, h]; simp
    · rw [if_neg h]; simp only [List.any_cons, Bool.not_eq_true _ |>.mp h]; simp
theorem usedF_free (ms : List Mt) (k : Nat) : anyF (usedF ms k) (ms.getD k zM).2.1 = !freeM ms k := by
  have h : anyF (usedF ms k) (ms.getD k zM).2.1 = true ↔ freeM ms k = false := by
    constructor
    · intro h
      unfold anyF at h
      rw [List.any_eq_true] at h
      obtain ⟨s, hs, h2⟩ := h
      rw [usedF_some, List.any_eq_true] at h2
      obtain ⟨j, hj, h3⟩ := h2
      rw [List.any_eq_true] at h3
      obtain ⟨x, hx, h4⟩ := h3
      obtain rfl := of_decide_eq_true h4
      refine freeM_no (k := j) (by simpa using hj) ?_
      unfold commB
      rw [List.any_eq_true]
      exact ⟨x, hx, by rw [List.any_eq_true]; exact ⟨x, hs, by simp⟩⟩
    · intro h
      rcases Bool.eq_false_or_eq_true (anyF (usedF ms k) (ms.getD k zM).2.1) with hc | hc
      · exact hc
      · exfalso
        have : freeM ms k = true := freeM_iff.2 fun j hj => by
          rcases Bool.eq_false_or_eq_true (commB (ms.getD j zM).2.1 (ms.getD k zM).2.1) with h5 | h5
          · exfalso
            unfold commB at h5
            rw [List.any_eq_true] at h5
            obtain ⟨x, hx, h6⟩ := h5
            rw [List.any_eq_true] at h6
            obtain ⟨y, hy, h7⟩ := h6
            obtain rfl := of_decide_eq_true h7
            unfold anyF at hc
            rw [List.any_eq_false] at hc
            have h8 := hc x hy
            rw [usedF_some] at h8
            apply h8
            rw [List.any_eq_true]
            exact ⟨j, by simpa using hj, by rw [List.any_eq_true]; exact ⟨x, hx, by simp⟩⟩
          · exact h5
        rw [h] at this; cases this
  cases hf : freeM ms k with
  | true =>
    rcases Bool.eq_false_or_eq_true (anyF (usedF ms k) (ms.getD k zM).2.1) with hc | hc
    · rw [h.1 hc] at hf; cases hf
    · exact hc
  | false => exact h.2 hf
theorem drewD {w w' : World} (hb : Below w.drew.heap.size w.drew w') : Below w.heap.size w w' := ⟨hb.os, hb.tape, hb.output, hb.size, hb.block⟩
theorem keepD {w w' : World} {g : Nat} {u0 u1 u2 : Value} (hz : g < w.heap.size) (g0 : w.cell? ⟨g, 0, none⟩ = some u0) (g1 : w.cell? ⟨g, 1, none⟩ = some u1) (g2 : w.cell? ⟨g, 2, none⟩ = some u2) (hb : Below w.heap.size w w') :
    w'.cell? ⟨g, 0, none⟩ = some u0 ∧ w'.cell? ⟨g, 1, none⟩ = some u1 ∧ w'.cell? ⟨g, 2, none⟩ = some u2 ∧ Below w.heap.size w w' :=
  ⟨(hb.cell (p := ⟨g, 0, none⟩) hz).trans g0, (hb.cell (p := ⟨g, 1, none⟩) hz).trans g1, (hb.cell (p := ⟨g, 2, none⟩) hz).trans g2, hb⟩
theorem keepD2 {w w' : World} {g b o : Nat} {u0 u1 u2 u5 : Value} (hz : g < w.heap.size) (hbl : b < w.heap.size) (g0 : w.cell? ⟨g, 0, none⟩ = some u0) (g1 : w.cell? ⟨g, 1, none⟩ = some u1) (g2 : w.cell? ⟨g, 2, none⟩ = some u2) (q0 : w.cell? ⟨b, o, none⟩ = some u5) (hb : Below w.heap.size w w') :
    w'.cell? ⟨g, 0, none⟩ = some u0 ∧ w'.cell? ⟨g, 1, none⟩ = some u1 ∧ w'.cell? ⟨g, 2, none⟩ = some u2 ∧ w'.cell? ⟨b, o, none⟩ = some u5 ∧ Below w.heap.size w w' :=
  ⟨(hb.cell (p := ⟨g, 0, none⟩) hz).trans g0, (hb.cell (p := ⟨g, 1, none⟩) hz).trans g1, (hb.cell (p := ⟨g, 2, none⟩) hz).trans g2, (hb.cell (p := ⟨b, o, none⟩) hbl).trans q0, hb⟩
set_option maxRecDepth 20000 in
set_option maxHeartbeats 8000000 in
theorem implVMs_some (b off cap n : Nat) (ms : List Mt) (w : World) (hn : Hid (ms.length = n)) (hn0 : n ≤ 12) (hbl : b < w.heap.size) (hc : ∀ i, i < n → MAt w b (off + i * 3) (ms.getD i zM)) (hz : SzMs ms) :
    Calls Try.prog 15 #[.slice (some ⟨b, off, none⟩) n cap] w fun e w' => e = .returned (.bool (meltsB ms)) ∧ Below w.heap.size w w' := by
  have HC := Lib.hid hc
  have HZ := Lib.hid hz
  have HNO := Lib.hid (fun i (hi : i < ms.length) h => meltsB_no (ms := ms) (i := i) hi h)
  have hm : ¬ 12 < (n : Int) := by omega
  have hmm := @run_makeMap Try.prog
  have HM0 := Lib.hid (mapS_start w)
  have HBA0 := Lib.hid (below_alT w (.map #[] 0))
  clear hc hz
  go_enter Try.func15, Try.ntmps15
  go_wp2
  clear hmm
  go_loopw [12] (fun i wr => ∃ k : Nat, k ≤ n ∧ i = .int .i64 k ∧ Hid (∀ j, j < k → okM ms j = true) ∧ Hid (MapS wr w.heap.size (16 * k) (usedF ms k)) ∧ Below w.heap.size w wr) (fun i _ => n - (intOf i).toNat)
  case atStart => exact ⟨0, by omega, rfl, Lib.hid (fun j hj => by omega), HM0, HBA0.out⟩
  case round =>
    obtain ⟨k, hk, rfl, HA, HM, hbw⟩ := hrel
    have HBW := Lib.hid hbw
    clear hbw
    by_cases hlt : k < n
    · obtain ⟨u, e0, e1, e2, hu⟩ := mat_kept HBW.out hbl (HC.out k hlt)
      have hs := HZ.out k (by rw [hn.out]; exact hlt)
      obtain ⟨⟨s, ss, z⟩, hx⟩ : ∃ r, ms.getD k zM = r := ⟨_, rfl⟩
      rw [hx] at e0 e2 hu hs
      simp only at e0 e2 hu hs
      have HX := Lib.hid hx
      have HS := Lib.hid (show s.size ≤ maxLen from hs.2.1)
      have HSS := Lib.hid hs.2.2
      have HUF := Lib.hid (show anyF (usedF ms k) ss = !freeM ms k by have := usedF_free ms k; rw [hx] at this; exact this)
      have HNF := Lib.hid (show usedF ms (k + 1) = addF (usedF ms k) ss s by show addF _ _ _ = _; rw [hx])
      have hkm : (k : Int) < (n : Int) := by omega
      have hk0 : (0 : Int) ≤ (k : Int) := by omega
      clear hs hx
      have HUA := Lib.hid (st_alloc (.cells #[.string s, u, .int .i64 z] 27) hu)
      have HMA := Lib.hid (mapS_kept (below_alT wr (.cells #[.string s, u, .int .i64 z] 27)) HM.out)
      obtain ⟨ua, uc, rfl⟩ := st_form hu
      obtain ⟨sl, hsl⟩ : ∃ sl, ss.length = sl := ⟨_, rfl⟩
      rw [hsl] at e1 hu HUA HMA
      clear hu
      go_wp2
      have hzA : wr.heap.size < (wr.alloc (Obj.cells #[Value.string s, Value.slice ua sl uc, Value.int IntKind.i64 z] 27)).heap.size := by simp
      have hbA := (Below.refl wr.heap.size wr).alloc (Nat.le_refl _) (Obj.cells #[Value.string s, Value.slice ua sl uc, Value.int IntKind.i64 z] 27)
      have g0 : (wr.alloc (Obj.cells #[Value.string s, Value.slice ua sl uc, Value.int IntKind.i64 z] 27)).cell? ⟨wr.heap.size, 0, none⟩ = some (.string s) := by go_simp
      have g1 : (wr.alloc (Obj.cells #[Value.string s, Value.slice ua sl uc, Value.int IntKind.i64 z] 27)).cell? ⟨wr.heap.size, 1, none⟩ = some (.slice ua sl uc) := by go_simp
      have g2 : (wr.alloc (Obj.cells #[Value.string s, Value.slice ua sl uc, Value.int IntKind.i64 z] 27)).cell? ⟨wr.heap.size, 2, none⟩ = some (.int .i64 z) := by go_simp
      have HBA := Lib.hid (below_of HBW.out hbA HBW.out.size)
      clear hbA e0 e1 e2
      generalize (wr.alloc (Obj.cells #[Value.string s, Value.slice ua sl uc, Value.int IntKind.i64 z] 27)) = wA at *
      have HVAL := Lib.hid (implMeltValid_any s _ ss z wA.drew (st_drew HUA.out) HS.out HSS.out)
      have HANY := Lib.hid (fun (w' : World) (hb : Below wA.heap.size wA w') => hasAny_any w.heap.size (16 * k) (usedF ms k) s (.slice ua sl uc) ss z w' (mapS_kept hb HMA.out) (st_kept hb HUA.out) HSS.out)
      have HADD := Lib.hid (fun (w' : World) (hb : Below wA.heap.size wA w') => addMap_any w.heap.size (16 * k) (usedF ms k) s (.slice ua sl uc) ss z w' (mapS_kept hb HMA.out) (st_kept hb HUA.out) HS.out HSS.out)
      rcases Bool.eq_false_or_eq_true (mokB (s, ss, z)) with h4 | h4
      · have H4 := Lib.hid (show meltB s ss z = true from h4)
        have HL16 := Lib.hid (show ss.length ≤ 16 by
          have h5 := (meltB_iff.1 h4).2.1
          unfold namesB at h5
          rw [Bool.and_eq_true, decide_eq_true_eq] at h5
          exact h5.1.2)
        cases hfr : freeM ms k
        case false =>
          have HAV := Lib.hid (show anyF (usedF ms k) ss = true by rw [HUF.out, hfr]; rfl)
          by_cases hkz : k = 0
          · have HOK := Lib.hid (show okM ms k = false by unfold okM; rw [HX.out, h4, decide_eq_true hkz, hfr]; rfl)
            have hg2 : decide ((0 : Int) < (k : Int)) = false := decide_eq_false (by omega)
            have hg3 : decide (0 < k) = false := decide_eq_false (by omega)
            clear h4 hkz hfr
            have HF := Lib.hid (HNO.out k (by rw [hn.out]; exact hlt) HOK.out)
            refine wp_region_held_drew (S := fun w' => w'.cell? ⟨wr.heap.size, 0, none⟩ = some (.string s) ∧ w'.cell? ⟨wr.heap.size, 1, none⟩ = some (.slice ua sl uc) ∧ w'.cell? ⟨wr.heap.size, 2, none⟩ = some (.int .i64 z) ∧ Below wA.heap.size wA w') (by kernel_rfl) (⟨g0, g1, g2, ⟨rfl, rfl, rfl, Nat.le_refl _, fun _ _ => rfl⟩⟩) (fun hHeld => ?_)
            refine takeH 0 (some 17) (.agg #[.string s, .slice ua sl uc, .int .i64 z]) hHeld rfl rfl (by rfl) (by kernel_rfl) (by kernel_rfl) (by kernel_rfl) (fun _ _ _ h => h) (fun wS hSw => ?_) ?_
            · ((try dsimp only at hSw); go_simp; try with_reducible rfl)
            simp only [Act.put, List.setIfInBounds_toArray, List.set_cons_zero, List.set_cons_succ]
            refine loneH 1 (some 18) rfl rfl (by kernel_rfl) (by rfl) (fun K hK => ?_)
            go_simp; refine HVAL.out.mono ?_; rintro e w6 ⟨rfl, hb6⟩; rw [H4.out]
            refine hK.out _ _ (keepD hzA g0 g1 g2 (drewD hb6)) (fun hHeld2 => ?_)
            clear hK K hHeld
            have hHeld := hHeld2
            clear hHeld2
            simp only [Act.put, List.setIfInBounds_toArray, List.set_cons_zero, List.set_cons_succ]
            refine takeH 2 (some 19) (.bool false) hHeld rfl rfl (by rfl) (by kernel_rfl) (by kernel_rfl) (by kernel_rfl) (fun _ _ _ h => h) (fun wS hSw => ?_) ?_
            · ((try dsimp only at hSw); go_simp; try with_reducible rfl)
            simp only [Act.put, List.setIfInBounds_toArray, List.set_cons_zero, List.set_cons_succ]
            refine takeH 3 (some 20) (.bool false) hHeld rfl rfl (by rfl) (by kernel_rfl) (by kernel_rfl) (by kernel_rfl) (fun _ _ _ h => h) (fun wS hSw => ?_) ?_
            · ((try dsimp only at hSw); go_simp; try with_reducible rfl)
            simp only [Act.put, List.setIfInBounds_toArray, List.set_cons_zero, List.set_cons_succ]
            refine takeH 4 (some 21) (.int .i64 k) hHeld rfl rfl (by rfl) (by kernel_rfl) (by kernel_rfl) (by kernel_rfl) (fun _ _ _ h => h) (fun wS hSw => ?_) ?_
            · ((try dsimp only at hSw); go_simp; try with_reducible rfl)
            simp only [Act.put, List.setIfInBounds_toArray, List.set_cons_zero, List.set_cons_succ]
            refine takeH 5 (some 22) (.bool false) hHeld rfl rfl (by rfl) (by kernel_rfl) (by kernel_rfl) (by kernel_rfl) (fun _ _ _ h => h) (fun wS hSw => ?_) ?_
            · ((try dsimp only at hSw); go_simp; try with_reducible rfl)
            simp only [Act.put, List.setIfInBounds_toArray, List.set_cons_zero, List.set_cons_succ]
            refine takeH 6 (some 23) (.bool false) hHeld rfl rfl (by rfl) (by kernel_rfl) (by kernel_rfl) (by kernel_rfl) (fun _ _ _ h => h) (fun wS hSw => ?_) ?_
            · ((try dsimp only at hSw); go_simp; try with_reducible rfl)
            simp only [Act.put, List.setIfInBounds_toArray, List.set_cons_zero, List.set_cons_succ]
            refine skipH 7 (some 24) hHeld rfl (by rfl) (by kernel_rfl) (by kernel_rfl) (by kernel_rfl) (fun _ _ _ h => h) ?_
            simp only [Act.put, List.setIfInBounds_toArray, List.set_cons_zero, List.set_cons_succ]
            refine skipH 8 (some 25) hHeld rfl (by rfl) (by kernel_rfl) (by kernel_rfl) (by kernel_rfl) (fun _ _ _ h => h) ?_
            simp only [Act.put, List.setIfInBounds_toArray, List.set_cons_zero, List.set_cons_succ]
            refine skipH 9 (some 26) hHeld rfl (by rfl) (by kernel_rfl) (by kernel_rfl) (by kernel_rfl) (fun _ _ _ h => h) ?_
            simp only [Act.put, List.setIfInBounds_toArray, List.set_cons_zero, List.set_cons_succ]
            refine skipH 10 (some 27) hHeld rfl (by rfl) (by kernel_rfl) (by kernel_rfl) (by kernel_rfl) (fun _ _ _ h => h) ?_
            simp only [Act.put, List.setIfInBounds_toArray, List.set_cons_zero, List.set_cons_succ]
            refine skipH 11 (some 28) hHeld rfl (by rfl) (by kernel_rfl) (by kernel_rfl) (by kernel_rfl) (fun _ _ _ h => h) ?_
            simp only [Act.put, List.setIfInBounds_toArray, List.set_cons_zero, List.set_cons_succ]
            refine skipH 12 (some 29) hHeld rfl (by rfl) (by kernel_rfl) (by kernel_rfl) (by kernel_rfl) (fun _ _ _ h => h) ?_
            simp only [Act.put, List.setIfInBounds_toArray, List.set_cons_zero, List.set_cons_succ]
            refine skipH 13 (some 30) hHeld rfl (by rfl) (by kernel_rfl) (by kernel_rfl) (by kernel_rfl) (fun _ _ _ h => h) ?_
            simp only [Act.put, List.setIfInBounds_toArray, List.set_cons_zero, List.set_cons_succ]
            refine skipH 14 (some 31) hHeld rfl (by rfl) (by kernel_rfl) (by kernel_rfl) (by kernel_rfl) (fun _ _ _ h => h) ?_
            simp only [Act.put, List.setIfInBounds_toArray, List.set_cons_zero, List.set_cons_succ]
            refine skipH 15 (some 32) hHeld rfl (by rfl) (by kernel_rfl) (by kernel_rfl) (by kernel_rfl) (fun _ _ _ h => h) ?_
            simp only [Act.put, List.setIfInBounds_toArray, List.set_cons_zero, List.set_cons_succ]
            refine takeH 16 (some 33) (.bool false) hHeld rfl rfl (by rfl) (by kernel_rfl) (by kernel_rfl) (by kernel_rfl) (fun _ _ _ h => h) (fun wS hSw => ?_) ?_
            · ((try dsimp only at hSw); go_simp; try with_reducible rfl)
            simp only [Act.put, List.setIfInBounds_toArray, List.set_cons_zero, List.set_cons_succ]
            refine takeH 17 (some 34) (.bool false) hHeld rfl rfl (by rfl) (by kernel_rfl) (by kernel_rfl) (by kernel_rfl) (fun _ _ _ h => h) (fun wS hSw => ?_) ?_
            · ((try dsimp only at hSw); go_simp; try with_reducible rfl)
            simp only [Act.put, List.setIfInBounds_toArray, List.set_cons_zero, List.set_cons_succ]
            refine takeH 18 (some 35) (.bool false) hHeld rfl rfl (by rfl) (by kernel_rfl) (by kernel_rfl) (by kernel_rfl) (fun _ _ _ h => h) (fun wS hSw => ?_) ?_
            · ((try dsimp only at hSw); go_simp; try with_reducible rfl)
            simp only [Act.put, List.setIfInBounds_toArray, List.set_cons_zero, List.set_cons_succ]
            refine takeH 19 (some 36) (.map (some w.heap.size)) hHeld rfl rfl (by rfl) (by kernel_rfl) (by kernel_rfl) (by kernel_rfl) (fun _ _ _ h => h) (fun wS hSw => ?_) ?_
            · ((try dsimp only at hSw); go_simp; try with_reducible rfl)
            simp only [Act.put, List.setIfInBounds_toArray, List.set_cons_zero, List.set_cons_succ]
            refine takeH 20 (some 37) (.agg #[.string s, .slice ua sl uc, .int .i64 z]) hHeld rfl rfl (by rfl) (by kernel_rfl) (by kernel_rfl) (by kernel_rfl) (fun _ _ _ h => h) (fun wS hSw => ?_) ?_
            · ((try dsimp only at hSw); go_simp; try with_reducible rfl)
            simp only [Act.put, List.setIfInBounds_toArray, List.set_cons_zero, List.set_cons_succ]
            refine loneH 21 (some 38) rfl rfl (by kernel_rfl) (by rfl) (fun K hK => ?_)
            go_simp; refine (HANY.out _ (hHeld.2.2.2)).mono ?_; rintro e w7 ⟨rfl, hb7⟩; rw [HAV.out]
            refine hK.out _ _ (keepD hzA g0 g1 g2 (below_of hHeld.2.2.2 hb7 hHeld.2.2.2.size)) (fun hHeld2 => ?_)
            clear hK K hHeld
            have hHeld := hHeld2
            clear hHeld2
            simp only [Act.put, List.setIfInBounds_toArray, List.set_cons_zero, List.set_cons_succ]
            refine takeH 22 (some 39) (.bool true) hHeld rfl rfl (by rfl) (by kernel_rfl) (by kernel_rfl) (by kernel_rfl) (fun _ _ _ h => h) (fun wS hSw => ?_) ?_
            · ((try dsimp only at hSw); go_simp; try with_reducible rfl)
            simp only [Act.put, List.setIfInBounds_toArray, List.set_cons_zero, List.set_cons_succ]
            refine wpAnyH_done (by kernel_rfl) ?_ _
            obtain ⟨k0, k1, k2, kb⟩ := hHeld
            have HBR := Lib.hid (below_of HBA.out kb HBA.out.size)
            clear kb
            go_wp2
            go_ret
            exact ⟨retT_b HF.out.symm, HBR.out⟩
          · obtain ⟨q, hq⟩ : ∃ q, k = q + 1 := ⟨k - 1, by omega⟩
            obtain ⟨u2, x0, -, -, -⟩ := HC.out q (by omega)
            obtain ⟨y, hy⟩ : ∃ y, (ms.getD q zM).1 = y := ⟨_, rfl⟩
            rw [hy] at x0
            have hblA : b < wA.heap.size := by have := HBA.out.size; omega
            have q0 : wA.cell? ⟨b, off + q * 3, none⟩ = some (.string y) := (below_cell HBA.out _ _ hbl).trans x0
            have hg : (0 : Int) < (k : Int) := by omega
            have hg2 : 0 < k := by omega
            have hg3 : decide (0 < k) = true := decide_eq_true hg2
            have hq0 : (0 : Int) ≤ (q : Int) := by omega
            have hq1 : (q : Int) < (n : Int) := by omega
            have hw1 : IntKind.i64.wrap ((k : Int) - 1) = (q : Int) := by rw [show ((k : Int) - 1) = (q : Int) by omega]; exact IntWalk.i64_in _ (by omega)
            obtain ⟨jj, h5⟩ : ∃ jj, (Op.bytesLess s.toList y.toList || s.toList == y.toList) = jj := ⟨_, rfl⟩
            have HJ := Lib.hid (show okM ms k = (!jj && false) by
              unfold okM; rw [HX.out, h4, decide_eq_false hkz, show k - 1 = q by omega, hy, hfr, ← h5, flipT]
              simp [lessT])
            clear x0 hy h4 hq hkz hfr
            cases jj
            · have HOK := Lib.hid (show okM ms k = false by rw [HJ.out]; rfl)
              have HF := Lib.hid (HNO.out k (by rw [hn.out]; exact hlt) HOK.out)
              refine wp_region_held_drew (S := fun w' => w'.cell? ⟨wr.heap.size, 0, none⟩ = some (.string s) ∧ w'.cell? ⟨wr.heap.size, 1, none⟩ = some (.slice ua sl uc) ∧ w'.cell? ⟨wr.heap.size, 2, none⟩ = some (.int .i64 z) ∧ w'.cell? ⟨b, off + q * 3, none⟩ = some (.string y) ∧ Below wA.heap.size wA w') (by kernel_rfl) (⟨g0, g1, g2, q0, ⟨rfl, rfl, rfl, Nat.le_refl _, fun _ _ => rfl⟩⟩) (fun hHeld => ?_)
              refine takeH 0 (some 17) (.agg #[.string s, .slice ua sl uc, .int .i64 z]) hHeld rfl rfl (by rfl) (by kernel_rfl) (by kernel_rfl) (by kernel_rfl) (fun _ _ _ h => h) (fun wS hSw => ?_) ?_
              · ((try dsimp only at hSw); go_simp; try with_reducible rfl)
              simp only [Act.put, List.setIfInBounds_toArray, List.set_cons_zero, List.set_cons_succ]
              refine loneH 1 (some 18) rfl rfl (by kernel_rfl) (by rfl) (fun K hK => ?_)
              go_simp; refine HVAL.out.mono ?_; rintro e w6 ⟨rfl, hb6⟩; rw [H4.out]
              refine hK.out _ _ (keepD2 hzA hblA g0 g1 g2 q0 (drewD hb6)) (fun hHeld2 => ?_)
              clear hK K hHeld
              have hHeld := hHeld2
              clear hHeld2
              simp only [Act.put, List.setIfInBounds_toArray, List.set_cons_zero, List.set_cons_succ]
              refine takeH 2 (some 19) (.bool false) hHeld rfl rfl (by rfl) (by kernel_rfl) (by kernel_rfl) (by kernel_rfl) (fun _ _ _ h => h) (fun wS hSw => ?_) ?_
              · ((try dsimp only at hSw); go_simp; try with_reducible rfl)
              simp only [Act.put, List.setIfInBounds_toArray, List.set_cons_zero, List.set_cons_succ]
              refine takeH 3 (some 20) (.bool false) hHeld rfl rfl (by rfl) (by kernel_rfl) (by kernel_rfl) (by kernel_rfl) (fun _ _ _ h => h) (fun wS hSw => ?_) ?_
              · ((try dsimp only at hSw); go_simp; try with_reducible rfl)
              simp only [Act.put, List.setIfInBounds_toArray, List.set_cons_zero, List.set_cons_succ]
              refine takeH 4 (some 21) (.int .i64 k) hHeld rfl rfl (by rfl) (by kernel_rfl) (by kernel_rfl) (by kernel_rfl) (fun _ _ _ h => h) (fun wS hSw => ?_) ?_
              · ((try dsimp only at hSw); go_simp; try with_reducible rfl)
              simp only [Act.put, List.setIfInBounds_toArray, List.set_cons_zero, List.set_cons_succ]
              refine takeH 5 (some 22) (.bool true) hHeld rfl rfl (by rfl) (by kernel_rfl) (by kernel_rfl) (by kernel_rfl) (fun _ _ _ h => h) (fun wS hSw => ?_) ?_
              · ((try dsimp only at hSw); go_simp; try with_reducible rfl)
              simp only [Act.put, List.setIfInBounds_toArray, List.set_cons_zero, List.set_cons_succ]
              refine takeH 6 (some 23) (.bool true) hHeld rfl rfl (by rfl) (by kernel_rfl) (by kernel_rfl) (by kernel_rfl) (fun _ _ _ h => h) (fun wS hSw => ?_) ?_
              · ((try dsimp only at hSw); go_simp; try with_reducible rfl)
              simp only [Act.put, List.setIfInBounds_toArray, List.set_cons_zero, List.set_cons_succ]
              refine takeH 7 (some 24) (.pointer (some ⟨wr.heap.size, 0, none⟩)) hHeld rfl rfl (by rfl) (by kernel_rfl) (by kernel_rfl) (by kernel_rfl) (fun _ _ _ h => h) (fun wS hSw => ?_) ?_
              · ((try dsimp only at hSw); go_simp; try with_reducible rfl)
              simp only [Act.put, List.setIfInBounds_toArray, List.set_cons_zero, List.set_cons_succ]
              refine takeH 8 (some 25) (.string s) hHeld rfl rfl (by rfl) (by kernel_rfl) (by kernel_rfl) (by kernel_rfl) (fun _ _ _ h => h) (fun wS hSw => ?_) ?_
              · ((try dsimp only at hSw); go_simp; try with_reducible rfl)
              simp only [Act.put, List.setIfInBounds_toArray, List.set_cons_zero, List.set_cons_succ]
              refine takeH 9 (some 26) (.slice (some ⟨b, off, none⟩) n cap) hHeld rfl rfl (by rfl) (by kernel_rfl) (by kernel_rfl) (by kernel_rfl) (fun _ _ _ h => h) (fun wS hSw => ?_) ?_
              · ((try dsimp only at hSw); go_simp; try with_reducible rfl)
              simp only [Act.put, List.setIfInBounds_toArray, List.set_cons_zero, List.set_cons_succ]
              refine takeH 10 (some 27) (.int .i64 k) hHeld rfl rfl (by rfl) (by kernel_rfl) (by kernel_rfl) (by kernel_rfl) (fun _ _ _ h => h) (fun wS hSw => ?_) ?_
              · ((try dsimp only at hSw); go_simp; try with_reducible rfl)
              simp only [Act.put, List.setIfInBounds_toArray, List.set_cons_zero, List.set_cons_succ]
              refine takeH 11 (some 28) (.int .i64 q) hHeld rfl rfl (by rfl) (by kernel_rfl) (by kernel_rfl) (by kernel_rfl) (fun _ _ _ h => h) (fun wS hSw => ?_) ?_
              · ((try dsimp only at hSw); go_simp; try with_reducible rfl)
              simp only [Act.put, List.setIfInBounds_toArray, List.set_cons_zero, List.set_cons_succ]
              refine takeH 12 (some 29) (.pointer (some ⟨b, off + q * 3, none⟩)) hHeld rfl rfl (by rfl) (by kernel_rfl) (by kernel_rfl) (by kernel_rfl) (fun _ _ _ h => h) (fun wS hSw => ?_) ?_
              · ((try dsimp only at hSw); go_simp; try with_reducible rfl)
              simp only [Act.put, List.setIfInBounds_toArray, List.set_cons_zero, List.set_cons_succ]
              refine takeH 13 (some 30) (.pointer (some ⟨b, off + q * 3, none⟩)) hHeld rfl rfl (by rfl) (by kernel_rfl) (by kernel_rfl) (by kernel_rfl) (fun _ _ _ h => h) (fun wS hSw => ?_) ?_
              · ((try dsimp only at hSw); go_simp; try with_reducible rfl)
              simp only [Act.put, List.setIfInBounds_toArray, List.set_cons_zero, List.set_cons_succ]
              refine takeH 14 (some 31) (.string y) hHeld rfl rfl (by rfl) (by kernel_rfl) (by kernel_rfl) (by kernel_rfl) (fun _ _ _ h => h) (fun wS hSw => ?_) ?_
              · ((try dsimp only at hSw); go_simp; try with_reducible rfl)
              simp only [Act.put, List.setIfInBounds_toArray, List.set_cons_zero, List.set_cons_succ]
              refine takeH 15 (some 32) (.bool false) hHeld rfl rfl (by rfl) (by kernel_rfl) (by kernel_rfl) (by kernel_rfl) (fun _ _ _ h => h) (fun wS hSw => ?_) ?_
              · ((try dsimp only at hSw); go_simp; try with_reducible rfl)
              simp only [Act.put, List.setIfInBounds_toArray, List.set_cons_zero, List.set_cons_succ]
              refine takeH 16 (some 33) (.bool false) hHeld rfl rfl (by rfl) (by kernel_rfl) (by kernel_rfl) (by kernel_rfl) (fun _ _ _ h => h) (fun wS hSw => ?_) ?_
              · ((try dsimp only at hSw); go_simp; try with_reducible rfl)
              simp only [Act.put, List.setIfInBounds_toArray, List.set_cons_zero, List.set_cons_succ]
              refine takeH 17 (some 34) (.bool false) hHeld rfl rfl (by rfl) (by kernel_rfl) (by kernel_rfl) (by kernel_rfl) (fun _ _ _ h => h) (fun wS hSw => ?_) ?_
              · ((try dsimp only at hSw); go_simp; try with_reducible rfl)
              simp only [Act.put, List.setIfInBounds_toArray, List.set_cons_zero, List.set_cons_succ]
              refine takeH 18 (some 35) (.bool false) hHeld rfl rfl (by rfl) (by kernel_rfl) (by kernel_rfl) (by kernel_rfl) (fun _ _ _ h => h) (fun wS hSw => ?_) ?_
              · ((try dsimp only at hSw); go_simp; try with_reducible rfl)
              simp only [Act.put, List.setIfInBounds_toArray, List.set_cons_zero, List.set_cons_succ]
              refine takeH 19 (some 36) (.map (some w.heap.size)) hHeld rfl rfl (by rfl) (by kernel_rfl) (by kernel_rfl) (by kernel_rfl) (fun _ _ _ h => h) (fun wS hSw => ?_) ?_
              · ((try dsimp only at hSw); go_simp; try with_reducible rfl)
              simp only [Act.put, List.setIfInBounds_toArray, List.set_cons_zero, List.set_cons_succ]
              refine takeH 20 (some 37) (.agg #[.string s, .slice ua sl uc, .int .i64 z]) hHeld rfl rfl (by rfl) (by kernel_rfl) (by kernel_rfl) (by kernel_rfl) (fun _ _ _ h => h) (fun wS hSw => ?_) ?_
              · ((try dsimp only at hSw); go_simp; try with_reducible rfl)
              simp only [Act.put, List.setIfInBounds_toArray, List.set_cons_zero, List.set_cons_succ]
              refine loneH 21 (some 38) rfl rfl (by kernel_rfl) (by rfl) (fun K hK => ?_)
              go_simp; refine (HANY.out _ (hHeld.2.2.2.2)).mono ?_; rintro e w7 ⟨rfl, hb7⟩; rw [HAV.out]
              refine hK.out _ _ (keepD2 hzA hblA g0 g1 g2 q0 (below_of hHeld.2.2.2.2 hb7 hHeld.2.2.2.2.size)) (fun hHeld2 => ?_)
              clear hK K hHeld
              have hHeld := hHeld2
              clear hHeld2
              simp only [Act.put, List.setIfInBounds_toArray, List.set_cons_zero, List.set_cons_succ]
              refine takeH 22 (some 39) (.bool true) hHeld rfl rfl (by rfl) (by kernel_rfl) (by kernel_rfl) (by kernel_rfl) (fun _ _ _ h => h) (fun wS hSw => ?_) ?_
              · ((try dsimp only at hSw); go_simp; try with_reducible rfl)
              simp only [Act.put, List.setIfInBounds_toArray, List.set_cons_zero, List.set_cons_succ]
              refine wpAnyH_done (by kernel_rfl) ?_ _
              obtain ⟨k0, k1, k2, k3, kb⟩ := hHeld
              have HBR := Lib.hid (below_of HBA.out kb HBA.out.size)
              clear kb
              go_wp2
              go_ret
              exact ⟨retT_b HF.out.symm, HBR.out⟩
            · have HOK := Lib.hid (show okM ms k = false by rw [HJ.out]; rfl)
              have HF := Lib.hid (HNO.out k (by rw [hn.out]; exact hlt) HOK.out)
              refine wp_region_held_drew (S := fun w' => w'.cell? ⟨wr.heap.size, 0, none⟩ = some (.string s) ∧ w'.cell? ⟨wr.heap.size, 1, none⟩ = some (.slice ua sl uc) ∧ w'.cell? ⟨wr.heap.size, 2, none⟩ = some (.int .i64 z) ∧ w'.cell? ⟨b, off + q * 3, none⟩ = some (.string y) ∧ Below wA.heap.size wA w') (by kernel_rfl) (⟨g0, g1, g2, q0, ⟨rfl, rfl, rfl, Nat.le_refl _, fun _ _ => rfl⟩⟩) (fun hHeld => ?_)
              refine takeH 0 (some 17) (.agg #[.string s, .slice ua sl uc, .int .i64 z]) hHeld rfl rfl (by rfl) (by kernel_rfl) (by kernel_rfl) (by kernel_rfl) (fun _ _ _ h => h) (fun wS hSw => ?_) ?_
              · ((try dsimp only at hSw); go_simp; try with_reducible rfl)
              simp only [Act.put, List.setIfInBounds_toArray, List.set_cons_zero, List.set_cons_succ]
              refine loneH 1 (some 18) rfl rfl (by kernel_rfl) (by rfl) (fun K hK => ?_)
              go_simp; refine HVAL.out.mono ?_; rintro e w6 ⟨rfl, hb6⟩; rw [H4.out]
              refine hK.out _ _ (keepD2 hzA hblA g0 g1 g2 q0 (drewD hb6)) (fun hHeld2 => ?_)
              clear hK K hHeld
              have hHeld := hHeld2
              clear hHeld2
              simp only [Act.put, List.setIfInBounds_toArray, List.set_cons_zero, List.set_cons_succ]
              refine takeH 2 (some 19) (.bool false) hHeld rfl rfl (by rfl) (by kernel_rfl) (by kernel_rfl) (by kernel_rfl) (fun _ _ _ h => h) (fun wS hSw => ?_) ?_
              · ((try dsimp only at hSw); go_simp; try with_reducible rfl)
              simp only [Act.put, List.setIfInBounds_toArray, List.set_cons_zero, List.set_cons_succ]
              refine takeH 3 (some 20) (.bool false) hHeld rfl rfl (by rfl) (by kernel_rfl) (by kernel_rfl) (by kernel_rfl) (fun _ _ _ h => h) (fun wS hSw => ?_) ?_
              · ((try dsimp only at hSw); go_simp; try with_reducible rfl)
              simp only [Act.put, List.setIfInBounds_toArray, List.set_cons_zero, List.set_cons_succ]
              refine takeH 4 (some 21) (.int .i64 k) hHeld rfl rfl (by rfl) (by kernel_rfl) (by kernel_rfl) (by kernel_rfl) (fun _ _ _ h => h) (fun wS hSw => ?_) ?_
              · ((try dsimp only at hSw); go_simp; try with_reducible rfl)
              simp only [Act.put, List.setIfInBounds_toArray, List.set_cons_zero, List.set_cons_succ]
              refine takeH 5 (some 22) (.bool true) hHeld rfl rfl (by rfl) (by kernel_rfl) (by kernel_rfl) (by kernel_rfl) (fun _ _ _ h => h) (fun wS hSw => ?_) ?_
              · ((try dsimp only at hSw); go_simp; try with_reducible rfl)
              simp only [Act.put, List.setIfInBounds_toArray, List.set_cons_zero, List.set_cons_succ]
              refine takeH 6 (some 23) (.bool true) hHeld rfl rfl (by rfl) (by kernel_rfl) (by kernel_rfl) (by kernel_rfl) (fun _ _ _ h => h) (fun wS hSw => ?_) ?_
              · ((try dsimp only at hSw); go_simp; try with_reducible rfl)
              simp only [Act.put, List.setIfInBounds_toArray, List.set_cons_zero, List.set_cons_succ]
              refine takeH 7 (some 24) (.pointer (some ⟨wr.heap.size, 0, none⟩)) hHeld rfl rfl (by rfl) (by kernel_rfl) (by kernel_rfl) (by kernel_rfl) (fun _ _ _ h => h) (fun wS hSw => ?_) ?_
              · ((try dsimp only at hSw); go_simp; try with_reducible rfl)
              simp only [Act.put, List.setIfInBounds_toArray, List.set_cons_zero, List.set_cons_succ]
              refine takeH 8 (some 25) (.string s) hHeld rfl rfl (by rfl) (by kernel_rfl) (by kernel_rfl) (by kernel_rfl) (fun _ _ _ h => h) (fun wS hSw => ?_) ?_
              · ((try dsimp only at hSw); go_simp; try with_reducible rfl)
              simp only [Act.put, List.setIfInBounds_toArray, List.set_cons_zero, List.set_cons_succ]
              refine takeH 9 (some 26) (.slice (some ⟨b, off, none⟩) n cap) hHeld rfl rfl (by rfl) (by kernel_rfl) (by kernel_rfl) (by kernel_rfl) (fun _ _ _ h => h) (fun wS hSw => ?_) ?_
              · ((try dsimp only at hSw); go_simp; try with_reducible rfl)
              simp only [Act.put, List.setIfInBounds_toArray, List.set_cons_zero, List.set_cons_succ]
              refine takeH 10 (some 27) (.int .i64 k) hHeld rfl rfl (by rfl) (by kernel_rfl) (by kernel_rfl) (by kernel_rfl) (fun _ _ _ h => h) (fun wS hSw => ?_) ?_
              · ((try dsimp only at hSw); go_simp; try with_reducible rfl)
              simp only [Act.put, List.setIfInBounds_toArray, List.set_cons_zero, List.set_cons_succ]
              refine takeH 11 (some 28) (.int .i64 q) hHeld rfl rfl (by rfl) (by kernel_rfl) (by kernel_rfl) (by kernel_rfl) (fun _ _ _ h => h) (fun wS hSw => ?_) ?_
              · ((try dsimp only at hSw); go_simp; try with_reducible rfl)
              simp only [Act.put, List.setIfInBounds_toArray, List.set_cons_zero, List.set_cons_succ]
              refine takeH 12 (some 29) (.pointer (some ⟨b, off + q * 3, none⟩)) hHeld rfl rfl (by rfl) (by kernel_rfl) (by kernel_rfl) (by kernel_rfl) (fun _ _ _ h => h) (fun wS hSw => ?_) ?_
              · ((try dsimp only at hSw); go_simp; try with_reducible rfl)
              simp only [Act.put, List.setIfInBounds_toArray, List.set_cons_zero, List.set_cons_succ]
              refine takeH 13 (some 30) (.pointer (some ⟨b, off + q * 3, none⟩)) hHeld rfl rfl (by rfl) (by kernel_rfl) (by kernel_rfl) (by kernel_rfl) (fun _ _ _ h => h) (fun wS hSw => ?_) ?_
              · ((try dsimp only at hSw); go_simp; try with_reducible rfl)
              simp only [Act.put, List.setIfInBounds_toArray, List.set_cons_zero, List.set_cons_succ]
              refine takeH 14 (some 31) (.string y) hHeld rfl rfl (by rfl) (by kernel_rfl) (by kernel_rfl) (by kernel_rfl) (fun _ _ _ h => h) (fun wS hSw => ?_) ?_
              · ((try dsimp only at hSw); go_simp; try with_reducible rfl)
              simp only [Act.put, List.setIfInBounds_toArray, List.set_cons_zero, List.set_cons_succ]
              refine takeH 15 (some 32) (.bool true) hHeld rfl rfl (by rfl) (by kernel_rfl) (by kernel_rfl) (by kernel_rfl) (fun _ _ _ h => h) (fun wS hSw => ?_) ?_
              · ((try dsimp only at hSw); go_simp; try with_reducible rfl)
              simp only [Act.put, List.setIfInBounds_toArray, List.set_cons_zero, List.set_cons_succ]
              refine takeH 16 (some 33) (.bool true) hHeld rfl rfl (by rfl) (by kernel_rfl) (by kernel_rfl) (by kernel_rfl) (fun _ _ _ h => h) (fun wS hSw => ?_) ?_
              · ((try dsimp only at hSw); go_simp; try with_reducible rfl)
              simp only [Act.put, List.setIfInBounds_toArray, List.set_cons_zero, List.set_cons_succ]
              refine takeH 17 (some 34) (.bool true) hHeld rfl rfl (by rfl) (by kernel_rfl) (by kernel_rfl) (by kernel_rfl) (fun _ _ _ h => h) (fun wS hSw => ?_) ?_
              · ((try dsimp only at hSw); go_simp; try with_reducible rfl)
              simp only [Act.put, List.setIfInBounds_toArray, List.set_cons_zero, List.set_cons_succ]
              refine takeH 18 (some 35) (.bool true) hHeld rfl rfl (by rfl) (by kernel_rfl) (by kernel_rfl) (by kernel_rfl) (fun _ _ _ h => h) (fun wS hSw => ?_) ?_
              · ((try dsimp only at hSw); go_simp; try with_reducible rfl)
              simp only [Act.put, List.setIfInBounds_toArray, List.set_cons_zero, List.set_cons_succ]
              refine skipH 19 (some 36) hHeld rfl (by rfl) (by kernel_rfl) (by kernel_rfl) (by kernel_rfl) (fun _ _ _ h => h) ?_
              simp only [Act.put, List.setIfInBounds_toArray, List.set_cons_zero, List.set_cons_succ]
              refine skipH 20 (some 37) hHeld rfl (by rfl) (by kernel_rfl) (by kernel_rfl) (by kernel_rfl) (fun _ _ _ h => h) ?_
              simp only [Act.put, List.setIfInBounds_toArray, List.set_cons_zero, List.set_cons_succ]
              refine skipH 21 (some 38) hHeld rfl (by rfl) (by kernel_rfl) (by kernel_rfl) (by kernel_rfl) (fun _ _ _ h => h) ?_
              simp only [Act.put, List.setIfInBounds_toArray, List.set_cons_zero, List.set_cons_succ]
              refine takeH 22 (some 39) (.bool true) hHeld rfl rfl (by rfl) (by kernel_rfl) (by kernel_rfl) (by kernel_rfl) (fun _ _ _ h => h) (fun wS hSw => ?_) ?_
              · ((try dsimp only at hSw); go_simp; try with_reducible rfl)
              simp only [Act.put, List.setIfInBounds_toArray, List.set_cons_zero, List.set_cons_succ]
              refine wpAnyH_done (by kernel_rfl) ?_ _
              obtain ⟨k0, k1, k2, k3, kb⟩ := hHeld
              have HBR := Lib.hid (below_of HBA.out kb HBA.out.size)
              clear kb
              go_wp2
              go_ret
              exact ⟨retT_b HF.out.symm, HBR.out⟩
        case true =>
          have HAV := Lib.hid (show anyF (usedF ms k) ss = false by rw [HUF.out, hfr]; rfl)
          by_cases hkz : k = 0
          · have HOK := Lib.hid (show okM ms k = true by unfold okM; rw [HX.out, h4, decide_eq_true hkz, hfr]; rfl)
            have hg2 : decide ((0 : Int) < (k : Int)) = false := decide_eq_false (by omega)
            have hg3 : decide (0 < k) = false := decide_eq_false (by omega)
            clear h4 hkz hfr
            refine wp_region_held_drew (S := fun w' => w'.cell? ⟨wr.heap.size, 0, none⟩ = some (.string s) ∧ w'.cell? ⟨wr.heap.size, 1, none⟩ = some (.slice ua sl uc) ∧ w'.cell? ⟨wr.heap.size, 2, none⟩ = some (.int .i64 z) ∧ Below wA.heap.size wA w') (by kernel_rfl) (⟨g0, g1, g2, ⟨rfl, rfl, rfl, Nat.le_refl _, fun _ _ => rfl⟩⟩) (fun hHeld => ?_)
            refine takeH 0 (some 17) (.agg #[.string s, .slice ua sl uc, .int .i64 z]) hHeld rfl rfl (by rfl) (by kernel_rfl) (by kernel_rfl) (by kernel_rfl) (fun _ _ _ h => h) (fun wS hSw => ?_) ?_
            · ((try dsimp only at hSw); go_simp; try with_reducible rfl)
            simp only [Act.put, List.setIfInBounds_toArray, List.set_cons_zero, List.set_cons_succ]
            refine loneH 1 (some 18) rfl rfl (by kernel_rfl) (by rfl) (fun K hK => ?_)
            go_simp; refine HVAL.out.mono ?_; rintro e w6 ⟨rfl, hb6⟩; rw [H4.out]
            refine hK.out _ _ (keepD hzA g0 g1 g2 (drewD hb6)) (fun hHeld2 => ?_)
            clear hK K hHeld
            have hHeld := hHeld2
            clear hHeld2
            simp only [Act.put, List.setIfInBounds_toArray, List.set_cons_zero, List.set_cons_succ]
            refine takeH 2 (some 19) (.bool false) hHeld rfl rfl (by rfl) (by kernel_rfl) (by kernel_rfl) (by kernel_rfl) (fun _ _ _ h => h) (fun wS hSw => ?_) ?_
            · ((try dsimp only at hSw); go_simp; try with_reducible rfl)
            simp only [Act.put, List.setIfInBounds_toArray, List.set_cons_zero, List.set_cons_succ]
            refine takeH 3 (some 20) (.bool false) hHeld rfl rfl (by rfl) (by kernel_rfl) (by kernel_rfl) (by kernel_rfl) (fun _ _ _ h => h) (fun wS hSw => ?_) ?_
            · ((try dsimp only at hSw); go_simp; try with_reducible rfl)
            simp only [Act.put, List.setIfInBounds_toArray, List.set_cons_zero, List.set_cons_succ]
            refine takeH 4 (some 21) (.int .i64 k) hHeld rfl rfl (by rfl) (by kernel_rfl) (by kernel_rfl) (by kernel_rfl) (fun _ _ _ h => h) (fun wS hSw => ?_) ?_
            · ((try dsimp only at hSw); go_simp; try with_reducible rfl)
            simp only [Act.put, List.setIfInBounds_toArray, List.set_cons_zero, List.set_cons_succ]
            refine takeH 5 (some 22) (.bool false) hHeld rfl rfl (by rfl) (by kernel_rfl) (by kernel_rfl) (by kernel_rfl) (fun _ _ _ h => h) (fun wS hSw => ?_) ?_
            · ((try dsimp only at hSw); go_simp; try with_reducible rfl)
            simp only [Act.put, List.setIfInBounds_toArray, List.set_cons_zero, List.set_cons_succ]
            refine takeH 6 (some 23) (.bool false) hHeld rfl rfl (by rfl) (by kernel_rfl) (by kernel_rfl) (by kernel_rfl) (fun _ _ _ h => h) (fun wS hSw => ?_) ?_
            · ((try dsimp only at hSw); go_simp; try with_reducible rfl)
            simp only [Act.put, List.setIfInBounds_toArray, List.set_cons_zero, List.set_cons_succ]
            refine skipH 7 (some 24) hHeld rfl (by rfl) (by kernel_rfl) (by kernel_rfl) (by kernel_rfl) (fun _ _ _ h => h) ?_
            simp only [Act.put, List.setIfInBounds_toArray, List.set_cons_zero, List.set_cons_succ]
            refine skipH 8 (some 25) hHeld rfl (by rfl) (by kernel_rfl) (by kernel_rfl) (by kernel_rfl) (fun _ _ _ h => h) ?_
            simp only [Act.put, List.setIfInBounds_toArray, List.set_cons_zero, List.set_cons_succ]
            refine skipH 9 (some 26) hHeld rfl (by rfl) (by kernel_rfl) (by kernel_rfl) (by kernel_rfl) (fun _ _ _ h => h) ?_
            simp only [Act.put, List.setIfInBounds_toArray, List.set_cons_zero, List.set_cons_succ]
            refine skipH 10 (some 27) hHeld rfl (by rfl) (by kernel_rfl) (by kernel_rfl) (by kernel_rfl) (fun _ _ _ h => h) ?_
            simp only [Act.put, List.setIfInBounds_toArray, List.set_cons_zero, List.set_cons_succ]
            refine skipH 11 (some 28) hHeld rfl (by rfl) (by kernel_rfl) (by kernel_rfl) (by kernel_rfl) (fun _ _ _ h => h) ?_
            simp only [Act.put, List.setIfInBounds_toArray, List.set_cons_zero, List.set_cons_succ]
            refine skipH 12 (some 29) hHeld rfl (by rfl) (by kernel_rfl) (by kernel_rfl) (by kernel_rfl) (fun _ _ _ h => h) ?_
            simp only [Act.put, List.setIfInBounds_toArray, List.set_cons_zero, List.set_cons_succ]
            refine skipH 13 (some 30) hHeld rfl (by rfl) (by kernel_rfl) (by kernel_rfl) (by kernel_rfl) (fun _ _ _ h => h) ?_
            simp only [Act.put, List.setIfInBounds_toArray, List.set_cons_zero, List.set_cons_succ]
            refine skipH 14 (some 31) hHeld rfl (by rfl) (by kernel_rfl) (by kernel_rfl) (by kernel_rfl) (fun _ _ _ h => h) ?_
            simp only [Act.put, List.setIfInBounds_toArray, List.set_cons_zero, List.set_cons_succ]
            refine skipH 15 (some 32) hHeld rfl (by rfl) (by kernel_rfl) (by kernel_rfl) (by kernel_rfl) (fun _ _ _ h => h) ?_
            simp only [Act.put, List.setIfInBounds_toArray, List.set_cons_zero, List.set_cons_succ]
            refine takeH 16 (some 33) (.bool false) hHeld rfl rfl (by rfl) (by kernel_rfl) (by kernel_rfl) (by kernel_rfl) (fun _ _ _ h => h) (fun wS hSw => ?_) ?_
            · ((try dsimp only at hSw); go_simp; try with_reducible rfl)
            simp only [Act.put, List.setIfInBounds_toArray, List.set_cons_zero, List.set_cons_succ]
            refine takeH 17 (some 34) (.bool false) hHeld rfl rfl (by rfl) (by kernel_rfl) (by kernel_rfl) (by kernel_rfl) (fun _ _ _ h => h) (fun wS hSw => ?_) ?_
            · ((try dsimp only at hSw); go_simp; try with_reducible rfl)
            simp only [Act.put, List.setIfInBounds_toArray, List.set_cons_zero, List.set_cons_succ]
            refine takeH 18 (some 35) (.bool false) hHeld rfl rfl (by rfl) (by kernel_rfl) (by kernel_rfl) (by kernel_rfl) (fun _ _ _ h => h) (fun wS hSw => ?_) ?_
            · ((try dsimp only at hSw); go_simp; try with_reducible rfl)
            simp only [Act.put, List.setIfInBounds_toArray, List.set_cons_zero, List.set_cons_succ]
            refine takeH 19 (some 36) (.map (some w.heap.size)) hHeld rfl rfl (by rfl) (by kernel_rfl) (by kernel_rfl) (by kernel_rfl) (fun _ _ _ h => h) (fun wS hSw => ?_) ?_
            · ((try dsimp only at hSw); go_simp; try with_reducible rfl)
            simp only [Act.put, List.setIfInBounds_toArray, List.set_cons_zero, List.set_cons_succ]
            refine takeH 20 (some 37) (.agg #[.string s, .slice ua sl uc, .int .i64 z]) hHeld rfl rfl (by rfl) (by kernel_rfl) (by kernel_rfl) (by kernel_rfl) (fun _ _ _ h => h) (fun wS hSw => ?_) ?_
            · ((try dsimp only at hSw); go_simp; try with_reducible rfl)
            simp only [Act.put, List.setIfInBounds_toArray, List.set_cons_zero, List.set_cons_succ]
            refine loneH 21 (some 38) rfl rfl (by kernel_rfl) (by rfl) (fun K hK => ?_)
            go_simp; refine (HANY.out _ (hHeld.2.2.2)).mono ?_; rintro e w7 ⟨rfl, hb7⟩; rw [HAV.out]
            refine hK.out _ _ (keepD hzA g0 g1 g2 (below_of hHeld.2.2.2 hb7 hHeld.2.2.2.size)) (fun hHeld2 => ?_)
            clear hK K hHeld
            have hHeld := hHeld2
            clear hHeld2
            simp only [Act.put, List.setIfInBounds_toArray, List.set_cons_zero, List.set_cons_succ]
            refine takeH 22 (some 39) (.bool false) hHeld rfl rfl (by rfl) (by kernel_rfl) (by kernel_rfl) (by kernel_rfl) (fun _ _ _ h => h) (fun wS hSw => ?_) ?_
            · ((try dsimp only at hSw); go_simp; try with_reducible rfl)
            simp only [Act.put, List.setIfInBounds_toArray, List.set_cons_zero, List.set_cons_succ]
            refine wpAnyH_done (by kernel_rfl) ?_ _
            obtain ⟨k0, k1, k2, kb⟩ := hHeld
            have HBR := Lib.hid (below_of HBA.out kb HBA.out.size)
            have HAD := Lib.hid (HADD.out _ kb (by have := HL16.out; omega) (by omega))
            clear g0 g1 g2 kb
            go_wp2_with fail
            refine HAD.out.mono ?_
            rintro e w8 ⟨rfl, hm8, hb8⟩
            have HB8 := Lib.hid (HBR.out.trans hb8)
            have HM8 := Lib.hid (show MapS w8 w.heap.size (16 * (k + 1)) (usedF ms (k + 1)) by rw [HNF.out]; exact mapS_mono hm8 (by omega))
            clear hb8 hm8
            go_wp2
            go_roundw
            case rel => exact ⟨k + 1, by omega, by go_num, Lib.hid (fun j hj => by
              by_cases e : j = k
              · subst e; exact HOK.out
              · exact HA.out j (by omega)), HM8, HB8.out⟩
            case measure => simp [intOf]; omega
          · obtain ⟨q, hq⟩ : ∃ q, k = q + 1 := ⟨k - 1, by omega⟩
            obtain ⟨u2, x0, -, -, -⟩ := HC.out q (by omega)
            obtain ⟨y, hy⟩ : ∃ y, (ms.getD q zM).1 = y := ⟨_, rfl⟩
            rw [hy] at x0
            have hblA : b < wA.heap.size := by have := HBA.out.size; omega
            have q0 : wA.cell? ⟨b, off + q * 3, none⟩ = some (.string y) := (below_cell HBA.out _ _ hbl).trans x0
            have hg : (0 : Int) < (k : Int) := by omega
            have hg2 : 0 < k := by omega
            have hg3 : decide (0 < k) = true := decide_eq_true hg2
            have hq0 : (0 : Int) ≤ (q : Int) := by omega
            have hq1 : (q : Int) < (n : Int) := by omega
            have hw1 : IntKind.i64.wrap ((k : Int) - 1) = (q : Int) := by rw [show ((k : Int) - 1) = (q : Int) by omega]; exact IntWalk.i64_in _ (by omega)
            obtain ⟨jj, h5⟩ : ∃ jj, (Op.bytesLess s.toList y.toList || s.toList == y.toList) = jj := ⟨_, rfl⟩
            have HJ := Lib.hid (show okM ms k = (!jj && true) by
              unfold okM; rw [HX.out, h4, decide_eq_false hkz, show k - 1 = q by omega, hy, hfr, ← h5, flipT]
              simp [lessT])
            clear x0 hy h4 hq hkz hfr
            cases jj
            · have HOK := Lib.hid (show okM ms k = true by rw [HJ.out]; rfl)
              refine wp_region_held_drew (S := fun w' => w'.cell? ⟨wr.heap.size, 0, none⟩ = some (.string s) ∧ w'.cell? ⟨wr.heap.size, 1, none⟩ = some (.slice ua sl uc) ∧ w'.cell? ⟨wr.heap.size, 2, none⟩ = some (.int .i64 z) ∧ w'.cell? ⟨b, off + q * 3, none⟩ = some (.string y) ∧ Below wA.heap.size wA w') (by kernel_rfl) (⟨g0, g1, g2, q0, ⟨rfl, rfl, rfl, Nat.le_refl _, fun _ _ => rfl⟩⟩) (fun hHeld => ?_)
              refine takeH 0 (some 17) (.agg #[.string s, .slice ua sl uc, .int .i64 z]) hHeld rfl rfl (by rfl) (by kernel_rfl) (by kernel_rfl) (by kernel_rfl) (fun _ _ _ h => h) (fun wS hSw => ?_) ?_
              · ((try dsimp only at hSw); go_simp; try with_reducible rfl)
              simp only [Act.put, List.setIfInBounds_toArray, List.set_cons_zero, List.set_cons_succ]
              refine loneH 1 (some 18) rfl rfl (by kernel_rfl) (by rfl) (fun K hK => ?_)
              go_simp; refine HVAL.out.mono ?_; rintro e w6 ⟨rfl, hb6⟩; rw [H4.out]
              refine hK.out _ _ (keepD2 hzA hblA g0 g1 g2 q0 (drewD hb6)) (fun hHeld2 => ?_)
              clear hK K hHeld
              have hHeld := hHeld2
              clear hHeld2
              simp only [Act.put, List.setIfInBounds_toArray, List.set_cons_zero, List.set_cons_succ]
              refine takeH 2 (some 19) (.bool false) hHeld rfl rfl (by rfl) (by kernel_rfl) (by kernel_rfl) (by kernel_rfl) (fun _ _ _ h => h) (fun wS hSw => ?_) ?_
              · ((try dsimp only at hSw); go_simp; try with_reducible rfl)
              simp only [Act.put, List.setIfInBounds_toArray, List.set_cons_zero, List.set_cons_succ]
              refine takeH 3 (some 20) (.bool false) hHeld rfl rfl (by rfl) (by kernel_rfl) (by kernel_rfl) (by kernel_rfl) (fun _ _ _ h => h) (fun wS hSw => ?_) ?_
              · ((try dsimp only at hSw); go_simp; try with_reducible rfl)
              simp only [Act.put, List.setIfInBounds_toArray, List.set_cons_zero, List.set_cons_succ]
              refine takeH 4 (some 21) (.int .i64 k) hHeld rfl rfl (by rfl) (by kernel_rfl) (by kernel_rfl) (by kernel_rfl) (fun _ _ _ h => h) (fun wS hSw => ?_) ?_
              · ((try dsimp only at hSw); go_simp; try with_reducible rfl)
              simp only [Act.put, List.setIfInBounds_toArray, List.set_cons_zero, List.set_cons_succ]
              refine takeH 5 (some 22) (.bool true) hHeld rfl rfl (by rfl) (by kernel_rfl) (by kernel_rfl) (by kernel_rfl) (fun _ _ _ h => h) (fun wS hSw => ?_) ?_
              · ((try dsimp only at hSw); go_simp; try with_reducible rfl)
              simp only [Act.put, List.setIfInBounds_toArray, List.set_cons_zero, List.set_cons_succ]
              refine takeH 6 (some 23) (.bool true) hHeld rfl rfl (by rfl) (by kernel_rfl) (by kernel_rfl) (by kernel_rfl) (fun _ _ _ h => h) (fun wS hSw => ?_) ?_
              · ((try dsimp only at hSw); go_simp; try with_reducible rfl)
              simp only [Act.put, List.setIfInBounds_toArray, List.set_cons_zero, List.set_cons_succ]
              refine takeH 7 (some 24) (.pointer (some ⟨wr.heap.size, 0, none⟩)) hHeld rfl rfl (by rfl) (by kernel_rfl) (by kernel_rfl) (by kernel_rfl) (fun _ _ _ h => h) (fun wS hSw => ?_) ?_
              · ((try dsimp only at hSw); go_simp; try with_reducible rfl)
              simp only [Act.put, List.setIfInBounds_toArray, List.set_cons_zero, List.set_cons_succ]
              refine takeH 8 (some 25) (.string s) hHeld rfl rfl (by rfl) (by kernel_rfl) (by kernel_rfl) (by kernel_rfl) (fun _ _ _ h => h) (fun wS hSw => ?_) ?_
              · ((try dsimp only at hSw); go_simp; try with_reducible rfl)
              simp only [Act.put, List.setIfInBounds_toArray, List.set_cons_zero, List.set_cons_succ]
              refine takeH 9 (some 26) (.slice (some ⟨b, off, none⟩) n cap) hHeld rfl rfl (by rfl) (by kernel_rfl) (by kernel_rfl) (by kernel_rfl) (fun _ _ _ h => h) (fun wS hSw => ?_) ?_
              · ((try dsimp only at hSw); go_simp; try with_reducible rfl)
              simp only [Act.put, List.setIfInBounds_toArray, List.set_cons_zero, List.set_cons_succ]
              refine takeH 10 (some 27) (.int .i64 k) hHeld rfl rfl (by rfl) (by kernel_rfl) (by kernel_rfl) (by kernel_rfl) (fun _ _ _ h => h) (fun wS hSw => ?_) ?_
              · ((try dsimp only at hSw); go_simp; try with_reducible rfl)
              simp only [Act.put, List.setIfInBounds_toArray, List.set_cons_zero, List.set_cons_succ]
              refine takeH 11 (some 28) (.int .i64 q) hHeld rfl rfl (by rfl) (by kernel_rfl) (by kernel_rfl) (by kernel_rfl) (fun _ _ _ h => h) (fun wS hSw => ?_) ?_
              · ((try dsimp only at hSw); go_simp; try with_reducible rfl)
              simp only [Act.put, List.setIfInBounds_toArray, List.set_cons_zero, List.set_cons_succ]
              refine takeH 12 (some 29) (.pointer (some ⟨b, off + q * 3, none⟩)) hHeld rfl rfl (by rfl) (by kernel_rfl) (by kernel_rfl) (by kernel_rfl) (fun _ _ _ h => h) (fun wS hSw => ?_) ?_
              · ((try dsimp only at hSw); go_simp; try with_reducible rfl)
              simp only [Act.put, List.setIfInBounds_toArray, List.set_cons_zero, List.set_cons_succ]
              refine takeH 13 (some 30) (.pointer (some ⟨b, off + q * 3, none⟩)) hHeld rfl rfl (by rfl) (by kernel_rfl) (by kernel_rfl) (by kernel_rfl) (fun _ _ _ h => h) (fun wS hSw => ?_) ?_
              · ((try dsimp only at hSw); go_simp; try with_reducible rfl)
              simp only [Act.put, List.setIfInBounds_toArray, List.set_cons_zero, List.set_cons_succ]
              refine takeH 14 (some 31) (.string y) hHeld rfl rfl (by rfl) (by kernel_rfl) (by kernel_rfl) (by kernel_rfl) (fun _ _ _ h => h) (fun wS hSw => ?_) ?_
              · ((try dsimp only at hSw); go_simp; try with_reducible rfl)
              simp only [Act.put, List.setIfInBounds_toArray, List.set_cons_zero, List.set_cons_succ]
              refine takeH 15 (some 32) (.bool false) hHeld rfl rfl (by rfl) (by kernel_rfl) (by kernel_rfl) (by kernel_rfl) (fun _ _ _ h => h) (fun wS hSw => ?_) ?_
              · ((try dsimp only at hSw); go_simp; try with_reducible rfl)
              simp only [Act.put, List.setIfInBounds_toArray, List.set_cons_zero, List.set_cons_succ]
              refine takeH 16 (some 33) (.bool false) hHeld rfl rfl (by rfl) (by kernel_rfl) (by kernel_rfl) (by kernel_rfl) (fun _ _ _ h => h) (fun wS hSw => ?_) ?_
              · ((try dsimp only at hSw); go_simp; try with_reducible rfl)
              simp only [Act.put, List.setIfInBounds_toArray, List.set_cons_zero, List.set_cons_succ]
              refine takeH 17 (some 34) (.bool false) hHeld rfl rfl (by rfl) (by kernel_rfl) (by kernel_rfl) (by kernel_rfl) (fun _ _ _ h => h) (fun wS hSw => ?_) ?_
              · ((try dsimp only at hSw); go_simp; try with_reducible rfl)
              simp only [Act.put, List.setIfInBounds_toArray, List.set_cons_zero, List.set_cons_succ]
              refine takeH 18 (some 35) (.bool false) hHeld rfl rfl (by rfl) (by kernel_rfl) (by kernel_rfl) (by kernel_rfl) (fun _ _ _ h => h) (fun wS hSw => ?_) ?_
              · ((try dsimp only at hSw); go_simp; try with_reducible rfl)
              simp only [Act.put, List.setIfInBounds_toArray, List.set_cons_zero, List.set_cons_succ]
              refine takeH 19 (some 36) (.map (some w.heap.size)) hHeld rfl rfl (by rfl) (by kernel_rfl) (by kernel_rfl) (by kernel_rfl) (fun _ _ _ h => h) (fun wS hSw => ?_) ?_
              · ((try dsimp only at hSw); go_simp; try with_reducible rfl)
              simp only [Act.put, List.setIfInBounds_toArray, List.set_cons_zero, List.set_cons_succ]
              refine takeH 20 (some 37) (.agg #[.string s, .slice ua sl uc, .int .i64 z]) hHeld rfl rfl (by rfl) (by kernel_rfl) (by kernel_rfl) (by kernel_rfl) (fun _ _ _ h => h) (fun wS hSw => ?_) ?_
              · ((try dsimp only at hSw); go_simp; try with_reducible rfl)
              simp only [Act.put, List.setIfInBounds_toArray, List.set_cons_zero, List.set_cons_succ]
              refine loneH 21 (some 38) rfl rfl (by kernel_rfl) (by rfl) (fun K hK => ?_)
              go_simp; refine (HANY.out _ (hHeld.2.2.2.2)).mono ?_; rintro e w7 ⟨rfl, hb7⟩; rw [HAV.out]
              refine hK.out _ _ (keepD2 hzA hblA g0 g1 g2 q0 (below_of hHeld.2.2.2.2 hb7 hHeld.2.2.2.2.size)) (fun hHeld2 => ?_)
              clear hK K hHeld
              have hHeld := hHeld2
              clear hHeld2
              simp only [Act.put, List.setIfInBounds_toArray, List.set_cons_zero, List.set_cons_succ]
              refine takeH 22 (some 39) (.bool false) hHeld rfl rfl (by rfl) (by kernel_rfl) (by kernel_rfl) (by kernel_rfl) (fun _ _ _ h => h) (fun wS hSw => ?_) ?_
              · ((try dsimp only at hSw); go_simp; try with_reducible rfl)
              simp only [Act.put, List.setIfInBounds_toArray, List.set_cons_zero, List.set_cons_succ]
              refine wpAnyH_done (by kernel_rfl) ?_ _
              obtain ⟨k0, k1, k2, k3, kb⟩ := hHeld
              have HBR := Lib.hid (below_of HBA.out kb HBA.out.size)
              have HAD := Lib.hid (HADD.out _ kb (by have := HL16.out; omega) (by omega))
              clear g0 g1 g2 kb
              go_wp2_with fail
              refine HAD.out.mono ?_
              rintro e w8 ⟨rfl, hm8, hb8⟩
              have HB8 := Lib.hid (HBR.out.trans hb8)
              have HM8 := Lib.hid (show MapS w8 w.heap.size (16 * (k + 1)) (usedF ms (k + 1)) by rw [HNF.out]; exact mapS_mono hm8 (by omega))
              clear hb8 hm8
              go_wp2
              go_roundw
              case rel => exact ⟨k + 1, by omega, by go_num, Lib.hid (fun j hj => by
                by_cases e : j = k
                · subst e; exact HOK.out
                · exact HA.out j (by omega)), HM8, HB8.out⟩
              case measure => simp [intOf]; omega
            · have HOK := Lib.hid (show okM ms k = false by rw [HJ.out]; rfl)
              have HF := Lib.hid (HNO.out k (by rw [hn.out]; exact hlt) HOK.out)
              refine wp_region_held_drew (S := fun w' => w'.cell? ⟨wr.heap.size, 0, none⟩ = some (.string s) ∧ w'.cell? ⟨wr.heap.size, 1, none⟩ = some (.slice ua sl uc) ∧ w'.cell? ⟨wr.heap.size, 2, none⟩ = some (.int .i64 z) ∧ w'.cell? ⟨b, off + q * 3, none⟩ = some (.string y) ∧ Below wA.heap.size wA w') (by kernel_rfl) (⟨g0, g1, g2, q0, ⟨rfl, rfl, rfl, Nat.le_refl _, fun _ _ => rfl⟩⟩) (fun hHeld => ?_)
              refine takeH 0 (some 17) (.agg #[.string s, .slice ua sl uc, .int .i64 z]) hHeld rfl rfl (by rfl) (by kernel_rfl) (by kernel_rfl) (by kernel_rfl) (fun _ _ _ h => h) (fun wS hSw => ?_) ?_
              · ((try dsimp only at hSw); go_simp; try with_reducible rfl)
              simp only [Act.put, List.setIfInBounds_toArray, List.set_cons_zero, List.set_cons_succ]
              refine loneH 1 (some 18) rfl rfl (by kernel_rfl) (by rfl) (fun K hK => ?_)
              go_simp; refine HVAL.out.mono ?_; rintro e w6 ⟨rfl, hb6⟩; rw [H4.out]
              refine hK.out _ _ (keepD2 hzA hblA g0 g1 g2 q0 (drewD hb6)) (fun hHeld2 => ?_)
              clear hK K hHeld
              have hHeld := hHeld2
              clear hHeld2
              simp only [Act.put, List.setIfInBounds_toArray, List.set_cons_zero, List.set_cons_succ]
              refine takeH 2 (some 19) (.bool false) hHeld rfl rfl (by rfl) (by kernel_rfl) (by kernel_rfl) (by kernel_rfl) (fun _ _ _ h => h) (fun wS hSw => ?_) ?_
              · ((try dsimp only at hSw); go_simp; try with_reducible rfl)
              simp only [Act.put, List.setIfInBounds_toArray, List.set_cons_zero, List.set_cons_succ]
              refine takeH 3 (some 20) (.bool false) hHeld rfl rfl (by rfl) (by kernel_rfl) (by kernel_rfl) (by kernel_rfl) (fun _ _ _ h => h) (fun wS hSw => ?_) ?_
              · ((try dsimp only at hSw); go_simp; try with_reducible rfl)
              simp only [Act.put, List.setIfInBounds_toArray, List.set_cons_zero, List.set_cons_succ]
              refine takeH 4 (some 21) (.int .i64 k) hHeld rfl rfl (by rfl) (by kernel_rfl) (by kernel_rfl) (by kernel_rfl) (fun _ _ _ h => h) (fun wS hSw => ?_) ?_
              · ((try dsimp only at hSw); go_simp; try with_reducible rfl)
              simp only [Act.put, List.setIfInBounds_toArray, List.set_cons_zero, List.set_cons_succ]
              refine takeH 5 (some 22) (.bool true) hHeld rfl rfl (by rfl) (by kernel_rfl) (by kernel_rfl) (by kernel_rfl) (fun _ _ _ h => h) (fun wS hSw => ?_) ?_
              · ((try dsimp only at hSw); go_simp; try with_reducible rfl)
              simp only [Act.put, List.setIfInBounds_toArray, List.set_cons_zero, List.set_cons_succ]
              refine takeH 6 (some 23) (.bool true) hHeld rfl rfl (by rfl) (by kernel_rfl) (by kernel_rfl) (by kernel_rfl) (fun _ _ _ h => h) (fun wS hSw => ?_) ?_
              · ((try dsimp only at hSw); go_simp; try with_reducible rfl)
              simp only [Act.put, List.setIfInBounds_toArray, List.set_cons_zero, List.set_cons_succ]
              refine takeH 7 (some 24) (.pointer (some ⟨wr.heap.size, 0, none⟩)) hHeld rfl rfl (by rfl) (by kernel_rfl) (by kernel_rfl) (by kernel_rfl) (fun _ _ _ h => h) (fun wS hSw => ?_) ?_
              · ((try dsimp only at hSw); go_simp; try with_reducible rfl)
              simp only [Act.put, List.setIfInBounds_toArray, List.set_cons_zero, List.set_cons_succ]
              refine takeH 8 (some 25) (.string s) hHeld rfl rfl (by rfl) (by kernel_rfl) (by kernel_rfl) (by kernel_rfl) (fun _ _ _ h => h) (fun wS hSw => ?_) ?_
              · ((try dsimp only at hSw); go_simp; try with_reducible rfl)
              simp only [Act.put, List.setIfInBounds_toArray, List.set_cons_zero, List.set_cons_succ]
              refine takeH 9 (some 26) (.slice (some ⟨b, off, none⟩) n cap) hHeld rfl rfl (by rfl) (by kernel_rfl) (by kernel_rfl) (by kernel_rfl) (fun _ _ _ h => h) (fun wS hSw => ?_) ?_
              · ((try dsimp only at hSw); go_simp; try with_reducible rfl)
              simp only [Act.put, List.setIfInBounds_toArray, List.set_cons_zero, List.set_cons_succ]
              refine takeH 10 (some 27) (.int .i64 k) hHeld rfl rfl (by rfl) (by kernel_rfl) (by kernel_rfl) (by kernel_rfl) (fun _ _ _ h => h) (fun wS hSw => ?_) ?_
              · ((try dsimp only at hSw); go_simp; try with_reducible rfl)
              simp only [Act.put, List.setIfInBounds_toArray, List.set_cons_zero, List.set_cons_succ]
              refine takeH 11 (some 28) (.int .i64 q) hHeld rfl rfl (by rfl) (by kernel_rfl) (by kernel_rfl) (by kernel_rfl) (fun _ _ _ h => h) (fun wS hSw => ?_) ?_
              · ((try dsimp only at hSw); go_simp; try with_reducible rfl)
              simp only [Act.put, List.setIfInBounds_toArray, List.set_cons_zero, List.set_cons_succ]
              refine takeH 12 (some 29) (.pointer (some ⟨b, off + q * 3, none⟩)) hHeld rfl rfl (by rfl) (by kernel_rfl) (by kernel_rfl) (by kernel_rfl) (fun _ _ _ h => h) (fun wS hSw => ?_) ?_
              · ((try dsimp only at hSw); go_simp; try with_reducible rfl)
              simp only [Act.put, List.setIfInBounds_toArray, List.set_cons_zero, List.set_cons_succ]
              refine takeH 13 (some 30) (.pointer (some ⟨b, off + q * 3, none⟩)) hHeld rfl rfl (by rfl) (by kernel_rfl) (by kernel_rfl) (by kernel_rfl) (fun _ _ _ h => h) (fun wS hSw => ?_) ?_
              · ((try dsimp only at hSw); go_simp; try with_reducible rfl)
              simp only [Act.put, List.setIfInBounds_toArray, List.set_cons_zero, List.set_cons_succ]
              refine takeH 14 (some 31) (.string y) hHeld rfl rfl (by rfl) (by kernel_rfl) (by kernel_rfl) (by kernel_rfl) (fun _ _ _ h => h) (fun wS hSw => ?_) ?_
              · ((try dsimp only at hSw); go_simp; try with_reducible rfl)
              simp only [Act.put, List.setIfInBounds_toArray, List.set_cons_zero, List.set_cons_succ]
              refine takeH 15 (some 32) (.bool true) hHeld rfl rfl (by rfl) (by kernel_rfl) (by kernel_rfl) (by kernel_rfl) (fun _ _ _ h => h) (fun wS hSw => ?_) ?_
              · ((try dsimp only at hSw); go_simp; try with_reducible rfl)
              simp only [Act.put, List.setIfInBounds_toArray, List.set_cons_zero, List.set_cons_succ]
              refine takeH 16 (some 33) (.bool true) hHeld rfl rfl (by rfl) (by kernel_rfl) (by kernel_rfl) (by kernel_rfl) (fun _ _ _ h => h) (fun wS hSw => ?_) ?_
              · ((try dsimp only at hSw); go_simp; try with_reducible rfl)
              simp only [Act.put, List.setIfInBounds_toArray, List.set_cons_zero, List.set_cons_succ]
              refine takeH 17 (some 34) (.bool true) hHeld rfl rfl (by rfl) (by kernel_rfl) (by kernel_rfl) (by kernel_rfl) (fun _ _ _ h => h) (fun wS hSw => ?_) ?_
              · ((try dsimp only at hSw); go_simp; try with_reducible rfl)
              simp only [Act.put, List.setIfInBounds_toArray, List.set_cons_zero, List.set_cons_succ]
              refine takeH 18 (some 35) (.bool true) hHeld rfl rfl (by rfl) (by kernel_rfl) (by kernel_rfl) (by kernel_rfl) (fun _ _ _ h => h) (fun wS hSw => ?_) ?_
              · ((try dsimp only at hSw); go_simp; try with_reducible rfl)
              simp only [Act.put, List.setIfInBounds_toArray, List.set_cons_zero, List.set_cons_succ]
              refine skipH 19 (some 36) hHeld rfl (by rfl) (by kernel_rfl) (by kernel_rfl) (by kernel_rfl) (fun _ _ _ h => h) ?_
              simp only [Act.put, List.setIfInBounds_toArray, List.set_cons_zero, List.set_cons_succ]
              refine skipH 20 (some 37) hHeld rfl (by rfl) (by kernel_rfl) (by kernel_rfl) (by kernel_rfl) (fun _ _ _ h => h) ?_
              simp only [Act.put, List.setIfInBounds_toArray, List.set_cons_zero, List.set_cons_succ]
              refine skipH 21 (some 38) hHeld rfl (by rfl) (by kernel_rfl) (by kernel_rfl) (by kernel_rfl) (fun _ _ _ h => h) ?_
              simp only [Act.put, List.setIfInBounds_toArray, List.set_cons_zero, List.set_cons_succ]
              refine takeH 22 (some 39) (.bool true) hHeld rfl rfl (by rfl) (by kernel_rfl) (by kernel_rfl) (by kernel_rfl) (fun _ _ _ h => h) (fun wS hSw => ?_) ?_
              · ((try dsimp only at hSw); go_simp; try with_reducible rfl)
              simp only [Act.put, List.setIfInBounds_toArray, List.set_cons_zero, List.set_cons_succ]
              refine wpAnyH_done (by kernel_rfl) ?_ _
              obtain ⟨k0, k1, k2, k3, kb⟩ := hHeld
              have HBR := Lib.hid (below_of HBA.out kb HBA.out.size)
              clear kb
              go_wp2
              go_ret
              exact ⟨retT_b HF.out.symm, HBR.out⟩
      · have H4 := Lib.hid (show meltB s ss z = false from h4)
        have HF := Lib.hid (HNO.out k (by rw [hn.out]; exact hlt) (by unfold okM; rw [HX.out, h4]; rfl))
        clear h4
        refine wp_region_held_drew (S := fun w' => w'.cell? ⟨wr.heap.size, 0, none⟩ = some (.string s) ∧ w'.cell? ⟨wr.heap.size, 1, none⟩ = some (.slice ua sl uc) ∧ w'.cell? ⟨wr.heap.size, 2, none⟩ = some (.int .i64 z) ∧ Below wA.heap.size wA w') (by kernel_rfl) (⟨g0, g1, g2, ⟨rfl, rfl, rfl, Nat.le_refl _, fun _ _ => rfl⟩⟩) (fun hHeld => ?_)
        refine takeH 0 (some 17) (.agg #[.string s, .slice ua sl uc, .int .i64 z]) hHeld rfl rfl (by rfl) (by kernel_rfl) (by kernel_rfl) (by kernel_rfl) (fun _ _ _ h => h) (fun wS hSw => ?_) ?_
        · ((try dsimp only at hSw); go_simp; try with_reducible rfl)
        simp only [Act.put, List.setIfInBounds_toArray, List.set_cons_zero, List.set_cons_succ]
        refine loneH 1 (some 18) rfl rfl (by kernel_rfl) (by rfl) (fun K hK => ?_)
        go_simp; refine HVAL.out.mono ?_; rintro e w6 ⟨rfl, hb6⟩; rw [H4.out]
        refine hK.out _ _ (keepD hzA g0 g1 g2 (drewD hb6)) (fun hHeld2 => ?_)
        clear hK K hHeld
        have hHeld := hHeld2
        clear hHeld2
        simp only [Act.put, List.setIfInBounds_toArray, List.set_cons_zero, List.set_cons_succ]
        refine takeH 2 (some 19) (.bool true) hHeld rfl rfl (by rfl) (by kernel_rfl) (by kernel_rfl) (by kernel_rfl) (fun _ _ _ h => h) (fun wS hSw => ?_) ?_
        · ((try dsimp only at hSw); go_simp; try with_reducible rfl)
        simp only [Act.put, List.setIfInBounds_toArray, List.set_cons_zero, List.set_cons_succ]
        refine takeH 3 (some 20) (.bool true) hHeld rfl rfl (by rfl) (by kernel_rfl) (by kernel_rfl) (by kernel_rfl) (fun _ _ _ h => h) (fun wS hSw => ?_) ?_
        · ((try dsimp only at hSw); go_simp; try with_reducible rfl)
        simp only [Act.put, List.setIfInBounds_toArray, List.set_cons_zero, List.set_cons_succ]
        refine skipH 4 (some 21) hHeld rfl (by rfl) (by kernel_rfl) (by kernel_rfl) (by kernel_rfl) (fun _ _ _ h => h) ?_
        simp only [Act.put, List.setIfInBounds_toArray, List.set_cons_zero, List.set_cons_succ]
        refine skipH 5 (some 22) hHeld rfl (by rfl) (by kernel_rfl) (by kernel_rfl) (by kernel_rfl) (fun _ _ _ h => h) ?_
        simp only [Act.put, List.setIfInBounds_toArray, List.set_cons_zero, List.set_cons_succ]
        refine skipH 6 (some 23) hHeld rfl (by rfl) (by kernel_rfl) (by kernel_rfl) (by kernel_rfl) (fun _ _ _ h => h) ?_
        simp only [Act.put, List.setIfInBounds_toArray, List.set_cons_zero, List.set_cons_succ]
        refine skipH 7 (some 24) hHeld rfl (by rfl) (by kernel_rfl) (by kernel_rfl) (by kernel_rfl) (fun _ _ _ h => h) ?_
        simp only [Act.put, List.setIfInBounds_toArray, List.set_cons_zero, List.set_cons_succ]
        refine skipH 8 (some 25) hHeld rfl (by rfl) (by kernel_rfl) (by kernel_rfl) (by kernel_rfl) (fun _ _ _ h => h) ?_
        simp only [Act.put, List.setIfInBounds_toArray, List.set_cons_zero, List.set_cons_succ]
        refine skipH 9 (some 26) hHeld rfl (by rfl) (by kernel_rfl) (by kernel_rfl) (by kernel_rfl) (fun _ _ _ h => h) ?_
        simp only [Act.put, List.setIfInBounds_toArray, List.set_cons_zero, List.set_cons_succ]
        refine skipH 10 (some 27) hHeld rfl (by rfl) (by kernel_rfl) (by kernel_rfl) (by kernel_rfl) (fun _ _ _ h => h) ?_
        simp only [Act.put, List.setIfInBounds_toArray, List.set_cons_zero, List.set_cons_succ]
        refine skipH 11 (some 28) hHeld rfl (by rfl) (by kernel_rfl) (by kernel_rfl) (by kernel_rfl) (fun _ _ _ h => h) ?_
        simp only [Act.put, List.setIfInBounds_toArray, List.set_cons_zero, List.set_cons_succ]
        refine skipH 12 (some 29) hHeld rfl (by rfl) (by kernel_rfl) (by kernel_rfl) (by kernel_rfl) (fun _ _ _ h => h) ?_
        simp only [Act.put, List.setIfInBounds_toArray, List.set_cons_zero, List.set_cons_succ]
        refine skipH 13 (some 30) hHeld rfl (by rfl) (by kernel_rfl) (by kernel_rfl) (by kernel_rfl) (fun _ _ _ h => h) ?_
        simp only [Act.put, List.setIfInBounds_toArray, List.set_cons_zero, List.set_cons_succ]
        refine skipH 14 (some 31) hHeld rfl (by rfl) (by kernel_rfl) (by kernel_rfl) (by kernel_rfl) (fun _ _ _ h => h) ?_
        simp only [Act.put, List.setIfInBounds_toArray, List.set_cons_zero, List.set_cons_succ]
        refine skipH 15 (some 32) hHeld rfl (by rfl) (by kernel_rfl) (by kernel_rfl) (by kernel_rfl) (fun _ _ _ h => h) ?_
        simp only [Act.put, List.setIfInBounds_toArray, List.set_cons_zero, List.set_cons_succ]
        refine skipH 16 (some 33) hHeld rfl (by rfl) (by kernel_rfl) (by kernel_rfl) (by kernel_rfl) (fun _ _ _ h => h) ?_
        simp only [Act.put, List.setIfInBounds_toArray, List.set_cons_zero, List.set_cons_succ]
        refine takeH 17 (some 34) (.bool true) hHeld rfl rfl (by rfl) (by kernel_rfl) (by kernel_rfl) (by kernel_rfl) (fun _ _ _ h => h) (fun wS hSw => ?_) ?_
        · ((try dsimp only at hSw); go_simp; try with_reducible rfl)
        simp only [Act.put, List.setIfInBounds_toArray, List.set_cons_zero, List.set_cons_succ]
        refine takeH 18 (some 35) (.bool true) hHeld rfl rfl (by rfl) (by kernel_rfl) (by kernel_rfl) (by kernel_rfl) (fun _ _ _ h => h) (fun wS hSw => ?_) ?_
        · ((try dsimp only at hSw); go_simp; try with_reducible rfl)
        simp only [Act.put, List.setIfInBounds_toArray, List.set_cons_zero, List.set_cons_succ]
        refine skipH 19 (some 36) hHeld rfl (by rfl) (by kernel_rfl) (by kernel_rfl) (by kernel_rfl) (fun _ _ _ h => h) ?_
        simp only [Act.put, List.setIfInBounds_toArray, List.set_cons_zero, List.set_cons_succ]
        refine skipH 20 (some 37) hHeld rfl (by rfl) (by kernel_rfl) (by kernel_rfl) (by kernel_rfl) (fun _ _ _ h => h) ?_
        simp only [Act.put, List.setIfInBounds_toArray, List.set_cons_zero, List.set_cons_succ]
        refine skipH 21 (some 38) hHeld rfl (by rfl) (by kernel_rfl) (by kernel_rfl) (by kernel_rfl) (fun _ _ _ h => h) ?_
        simp only [Act.put, List.setIfInBounds_toArray, List.set_cons_zero, List.set_cons_succ]
        refine takeH 22 (some 39) (.bool true) hHeld rfl rfl (by rfl) (by kernel_rfl) (by kernel_rfl) (by kernel_rfl) (fun _ _ _ h => h) (fun wS hSw => ?_) ?_
        · ((try dsimp only at hSw); go_simp; try with_reducible rfl)
        simp only [Act.put, List.setIfInBounds_toArray, List.set_cons_zero, List.set_cons_succ]
        refine wpAnyH_done (by kernel_rfl) ?_ _
        obtain ⟨k0, k1, k2, kb⟩ := hHeld
        have HBR := Lib.hid (below_of HBA.out kb HBA.out.size)
        clear kb
        go_wp2
        go_ret
        exact ⟨retT_b HF.out.symm, HBR.out⟩
    · obtain rfl : k = n := by omega
      have HF := Lib.hid (show meltsB ms = true from meltsB_iff.2 ⟨by rw [hn.out]; exact hn0, fun j hj => HA.out j (by rw [hn.out] at hj; exact hj)⟩)
      go_wp2
      go_ret
      exact ⟨retT_b HF.out.symm, HBW.out⟩
theorem implVMs_long (a : Option Addr) (c n : Nat) (ms : List Mt) (w : World) (hn : Hid (ms.length = n)) (hn0 : 12 < n) (hn1 : n ≤ 1048576) :
    Calls Try.prog 15 #[.slice a n c] w fun e w' => e = .returned (.bool (meltsB ms)) ∧ Below w.heap.size w w' := by
  have HF := Lib.hid (meltsB_long (ms := ms) (by rw [hn.out]; exact hn0))
  have hm : 12 < (n : Int) := by omega
  go_enter Try.func15, Try.ntmps15
  go_wp2
  go_ret
  exact ⟨retT_b HF.out.symm, Below.refl _ _⟩
theorem implVMs_none (a : Option Addr) (c : Nat) (w : World) :
    Calls Try.prog 15 #[.slice a 0 c] w fun e w' => e = .returned (.bool (meltsB [])) ∧ Below w.heap.size w w' := by
  have hmm := @run_makeMap Try.prog
  have HBA0 := Lib.hid (below_alT w (.map #[] 0))
  go_enter Try.func15, Try.ntmps15
  go_wp2
  refine wp_loop_rounds 1 ?_
  rw [rounds_succ]
  go_wp2
  go_ret
  exact ⟨rfl, HBA0.out⟩
theorem implVMs_any (ms : List Mt) (v : Value) (w : World) (h : MeltsAt w v ms) (hz : SzMs ms) :
    Calls Try.prog 15 #[v] w fun e w' => e = .returned (.bool (meltsB ms)) ∧ Below w.heap.size w w' := by
  by_cases h0 : ms.length = 0
  · obtain rfl : ms = [] := List.length_eq_zero_iff.1 h0
    obtain ⟨a, c, rfl⟩ := melts_form h
    exact implVMs_none a c w
  · have hl := h.1
    by_cases hlong : 12 < ms.length
    · obtain ⟨a, c, rfl⟩ := melts_form h
      exact implVMs_long a c _ ms w (Lib.hid rfl) hlong hl
    · obtain ⟨b, off, cap, rfl, hb, hc⟩ := melts_cells h (by omega)
      exact implVMs_some b off cap _ ms w (Lib.hid rfl) (by omega) hb hc hz
end Go.Proofs.Ytjicnfgpbbganaa
