/- The least density for a mass: the program's search. -/
import Derived.Test.YtgnnpimfcbkloaaDensM
set_option linter.unusedVariables false
namespace Go.Proofs.Ytgnnpimfcbkloaa
open Go.ChangeShapes Go.WideShapes Go.ChangeAt Go.RowKit

theorem quiet_onD {P : Program} {f : FuncId} {args : Array Value} {w : World} {x : Nat} {v : Value}
    (h : Calls P f args (w.drewN x) fun e w' => e = .returned v ∧ ∃ k, w' = (w.drewN x).drewN k) : Calls P f args (w.drewN x) fun e w'' => e = .returned v ∧ ∃ n, w'' = w.drewN n :=
  h.mono fun _ _ ⟨he, k, hk⟩ => ⟨he, x + k, by rw [hk, World.drewN_drewN]⟩
theorem massOf_dr (v d : Int) (w : World) (h0 : 0 ≤ v) (h1 : v ≤ 700000000000) (k0 : 0 ≤ d) (k1 : d ≤ 21000) :
    Calls Try.prog 68 #[.int .i64 v, .int .i64 d] w fun e w' => e = .returned (.int .i64 (massV v d)) ∧ ∃ n, w' = w.drewN n := by
  obtain ⟨a0, a1⟩ := mul_le2 h0 h1 k0 k1
  have HF := Lib.hid (show massV v d = nq (v * d) 1000000 from rfl)
  have HC1 := Lib.hid (fun w => nearProd_any v d 1000000 h0 k0 (by omega) (by omega) (by omega) (by omega) (by omega) w)
  go_enter Try.func68, Try.ntmps68
  go_wp2_with (go_at_call 51; refine (HC1.out _).mono ?_; rintro e w1 ⟨rfl, n, rfl⟩)
  go_ret
  exact ⟨ret_i64 HF.out.symm, n, rfl⟩
theorem clo_dens (k : Nat) (V m : Int) (g1 g2 : Nat) (w : World) (hk : k ≤ 19000) (h0 : 0 ≤ V) (h1 : V ≤ 700000000000) (c1 : w.cell? ⟨g1, 0, none⟩ = some (.int .i64 V)) (c2 : w.cell? ⟨g2, 0, none⟩ = some (.int .i64 m)) :
    Calls Try.prog 85 #[.int .i64 (k : Int), .pointer (some ⟨g1, 0, none⟩), .pointer (some ⟨g2, 0, none⟩)] w fun e w' => e = .returned (.bool (enough V m k)) ∧ Below w.heap.size w w' := by
  have HT := Lib.hid (fun (a : Int) (w : World) (h : a = 1000 + (k : Int)) => show Calls Try.prog 68 #[.int .i64 V, .int .i64 a] w fun e w' => e = .returned (.int .i64 (massV V (1000 + (k : Int)))) ∧ ∃ n, w' = w.drewN n from by subst h; exact massOf_dr V _ w h0 h1 (by omega) (by omega))
  have HE := Lib.hid (show enough V m k = decide (m ≤ massV V (1000 + k)) from rfl)
  generalize massV V (1000 + (k : Int)) = q at *
  go_enter Try.func85, Try.ntmps85
  go_wp2
  go_quiet ((go_at_call 68; exact quiet_onD (HT.out _ _ (by first | rfl | omega | exact IntWalk.i64_in _ (by omega) | exact IntWalk.wrap64_in _ (by omega)))))
  go_wp2
  go_ret
  exact ⟨ret_bool HE.out.symm, below_drewN _ _⟩
def Short (V m : Int) (i : Nat) : Prop := ∀ d, d < i → ¬ m ≤ massV V (1000 + (d : Nat))
def Fit (V m : Int) (n j : Nat) : Prop := j = n ∨ m ≤ massV V (1000 + (j : Nat))
theorem short_up {V m : Int} {k : Nat} (h0 : 0 ≤ V) (h : ¬ m ≤ massV V (1000 + (k : Nat))) : Short V m (k + 1) := fun d hd => enough_dn h0 (by omega) h
set_option maxHeartbeats 1000000 in
theorem search_any (V m : Int) (g1 g2 : Nat) (w : World) (h0 : 0 ≤ V) (h1 : V ≤ 700000000000) (c1 : w.cell? ⟨g1, 0, none⟩ = some (.int .i64 V)) (c2 : w.cell? ⟨g2, 0, none⟩ = some (.int .i64 m)) (l1 : g1 < w.heap.size) (l2 : g2 < w.heap.size) :
    Calls Try.prog 84 #[.int .i64 19001, .func (.func 85) #[] #[.pointer (some ⟨g1, 0, none⟩), .pointer (some ⟨g2, 0, none⟩)]] w fun e w' => (∃ i : Nat, e = .returned (.int .i64 (i : Int)) ∧ i ≤ 19001 ∧ Short V m i ∧ Fit V m 19001 i) ∧ Below w.heap.size w w' := by
  have HCL := Lib.hid (fun (k : Nat) (a : Int) (W : World) (hk : k ≤ 19000) (ha : a = (k : Int)) (hW : Below w.heap.size w W) => show Calls Try.prog 85 #[.int .i64 a, .pointer (some ⟨g1, 0, none⟩), .pointer (some ⟨g2, 0, none⟩)] W fun e w' => e = .returned (.bool (enough V m k)) ∧ Below W.heap.size W w' from by subst ha; exact clo_dens k V m g1 g2 W hk h0 h1 ((below_cell hW _ _ l1).trans c1) ((below_cell hW _ _ l2).trans c2))
  go_enter Try.func84, Try.ntmps84
  go_wp2
  go_loopw [5, 6] (fun x y wr => ∃ i j : Nat, i ≤ j ∧ j ≤ 19001 ∧ x = .int .i64 (i : Int) ∧ y = .int .i64 (j : Int) ∧ Hid (Short V m i) ∧ Hid (Fit V m 19001 j) ∧ Below w.heap.size w wr) (fun x y _ => (intOf y).toNat - (intOf x).toNat)
  case atStart => exact ⟨0, 19001, by omega, by omega, rfl, rfl, Lib.hid (fun d hd => by omega), Lib.hid (.inl rfl), Below.refl _ _⟩
  case round =>
    obtain ⟨i, j, hij, hj, rfl, rfl, HA, HB, hbw⟩ := hrel
    have HBW := Lib.hid hbw
    clear hbw
    by_cases hlt : i < j
    · have hlti : (i : Int) < (j : Int) := by omega
      obtain ⟨k, hk⟩ : ∃ k, (i + j) / 2 = k := ⟨_, rfl⟩
      have hk1 : i ≤ k ∧ k < j := by omega
      have HKK := Lib.hid (show ((i : Int) + (j : Int)) / 2 = (k : Int) by omega)
      by_cases he : m ≤ massV V (1000 + (k : Nat))
      · have HE := Lib.hid (show enough V m k = true by simpa [enough] using he)
        have HH := Lib.hid (show Fit V m 19001 k from .inr he)
        clear he hk
        go_wp2_with fail
        refine (HCL.out k _ _ (by omega) (by first | exact HKK.out | omega) HBW.out).mono ?_
        rintro e w1 ⟨rfl, hb⟩
        rw [HE.out]
        have HB1 := Lib.hid (below_of HBW.out hb HBW.out.size)
        clear hb
        go_wp2
        go_roundw
        case rel => exact ⟨i, k, by omega, by omega, rfl, by first | rfl | exact congrArg (Value.int .i64) HKK.out | exact congrArg (Value.int .i64) (by omega), HA, HH, HB1.out⟩
        case measure => simp [intOf]; omega
      · have HE := Lib.hid (show enough V m k = false by simpa [enough] using he)
        have HH := Lib.hid (short_up h0 he)
        clear he hk
        go_wp2_with fail
        refine (HCL.out k _ _ (by omega) (by first | exact HKK.out | omega) HBW.out).mono ?_
        rintro e w1 ⟨rfl, hb⟩
        rw [HE.out]
        have HB1 := Lib.hid (below_of HBW.out hb HBW.out.size)
        clear hb
        go_wp2
        go_roundw
        case rel => exact ⟨k + 1, j, by omega, by omega, by first | exact congrArg (Value.int .i64) (by have := HKK.out; omega) | exact congrArg (Value.int .i64) (by omega), rfl, HH, HB, HB1.out⟩
        case measure => simp [intOf]; omega
    · obtain rfl : i = j := by omega
      go_wp2
      go_ret
      exact ⟨⟨i, rfl, hj, HA.out, HB.out⟩, HBW.out⟩
set_option maxRecDepth 20000 in
set_option maxHeartbeats 1000000 in
theorem implDensityFor_any (s : ByteArray) (v : Value) (rs : List Rg) (m : Int) (w : World) (h : RingsAt w v rs) (hs : s.size ≤ maxLen) :
    Calls Try.prog 42 #[.agg #[.string s, v], .int .i64 m] w fun e w' => e = .returned (.tuple #[.int .i64 (denC s rs m), .int .i64 (askM s rs m)]) ∧ Below w.heap.size w w' := by
  have HI := Lib.hid h
  obtain ⟨a, c, rfl⟩ := rings_form h
  clear h
  have e0 : ((w.alloc (.cells #[.string s, .slice a rs.length c] 36)).alloc (.cells #[.int .i64 m] 2)).cell? ⟨w.heap.size, 0, none⟩ = some (.string s) := by go_simp
  have e1 : ((w.alloc (.cells #[.string s, .slice a rs.length c] 36)).alloc (.cells #[.int .i64 m] 2)).cell? ⟨w.heap.size, 1, none⟩ = some (.slice a rs.length c) := by go_simp
  have e2 : ((w.alloc (.cells #[.string s, .slice a rs.length c] 36)).alloc (.cells #[.int .i64 m] 2)).cell? ⟨w.heap.size + 1, 0, none⟩ = some (.int .i64 m) := by go_simp
  have hal : w.heap.size + 1 < ((w.alloc (.cells #[.string s, .slice a rs.length c] 36)).alloc (.cells #[.int .i64 m] 2)).heap.size := by simp
  have HBA := Lib.hid (((Below.refl w.heap.size w).alloc (Nat.le_refl _) (.cells #[.string s, .slice a rs.length c] 36)).alloc (by simp) (.cells #[.int .i64 m] 2))
  have HIA := Lib.hid (rings_kept HBA.out HI.out)
  rcases Bool.eq_false_or_eq_true (profB s rs) with hp | hp
  · have HV := Lib.hid (show volC s rs = volP rs ∧ codeP s rs = 0 by unfold volC codeP; rw [if_pos hp, if_pos hp]; exact ⟨rfl, rfl⟩)
    have hv := prof_vol hp
    have HP := Lib.hid hp
    obtain ⟨V, hV⟩ : ∃ V, volP rs = V := ⟨_, rfl⟩
    have HVV := Lib.hid hV
    rw [hV] at hv
    clear hp hV
    generalize hn : rs.length = n at *
    clear hn
    rcases Bool.eq_false_or_eq_true (inB m 0 1000000000) with hin | hin
    · have HIN := Lib.hid hin
      clear hin
      go_enter Try.func42, Try.ntmps42
      go_wp2_with fail
      generalize (w.alloc (.cells #[.string s, .slice a n c] 36)).alloc (.cells #[.int .i64 m] 2) = wA at *
      refine (implVolumeOf_any s _ rs _ HIA.out hs).mono ?_
      rintro e w1 ⟨rfl, hb⟩
      rw [HV.out.1, HV.out.2, HVV.out]
      have q2 := (below_cell hb _ _ hal).trans e2
      have hl1 := Nat.lt_of_lt_of_le hal hb.size
      have HB := Lib.hid (below_of HBA.out hb HBA.out.size)
      clear hb e0 e1 e2
      have al1 := below_al w1 (.cells #[.int .i64 V] 2)
      have r1 : (w1.alloc (.cells #[.int .i64 V] 2)).cell? ⟨w1.heap.size, 0, none⟩ = some (.int .i64 V) := by go_simp
      have r2 := (below_cell al1 _ _ hl1).trans q2
      have hl2 := Nat.lt_of_lt_of_le hl1 al1.size
      have hl3 := alloc_lt2 w1 (.cells #[.int .i64 V] 2)
      have HB2 := Lib.hid (below_of HB.out al1 HB.out.size)
      clear q2 al1
      go_wp2_with fail
      refine (within_i64 _ _ [m] _ 0 1 1 _ rfl (by omega) (cell_int _ _ _ _ (by simp))).mono ?_
      rintro e w3 ⟨rfl, rfl⟩
      rw [all_one, HIN.out]
      have al3 := below_al (w1.alloc (.cells #[.int .i64 V] 2)) (.cells #[.int .i64 m] 2)
      have s1 := (below_cell al3 _ _ hl3).trans r1
      have s2 := (below_cell al3 _ _ hl2).trans r2
      have hl4 := Nat.lt_of_lt_of_le hl3 al3.size
      have hl5 := Nat.lt_of_lt_of_le hl2 al3.size
      have HB3 := Lib.hid (below_of HB2.out al3 HB2.out.size)
      clear al3 r1 r2
      generalize (w1.alloc (.cells #[.int .i64 V] 2)).alloc (.cells #[.int .i64 m] 2) = w3 at *
      go_wp2_with fail
      refine (search_any V m w1.heap.size (w.heap.size + 1) w3 (by omega) (by omega) s1 s2 hl4 hl5).mono ?_
      rintro e w4 ⟨⟨i, rfl, hi, hlo, hup⟩, hb⟩
      have HB4 := Lib.hid (below_of HB3.out hb HB3.out.size)
      clear hb
      have hi0 : (0 : Int) ≤ (i : Int) := by omega
      have hi1 : (i : Int) ≤ 19001 := by omega
      by_cases h19 : i = 19001
      · have HR := Lib.hid (askM_n HP.out HIN.out (by rw [HVV.out]; exact least_none (fun j hj => hlo j (by omega))))
        clear hlo hup
        subst h19
        go_wp2
        go_ret2
        exact ⟨ret_two HR.out.2.symm HR.out.1.symm, HB4.out⟩
      · have HR := Lib.hid (askM_s HP.out HIN.out (k := i) (by rw [HVV.out]; exact least_some (by omega) (by rcases hup with h | h; exact absurd h h19; exact h) hlo))
        clear hlo hup
        have hi2 : (i : Int) ≤ 19000 := by omega
        go_wp2
        go_ret2
        exact ⟨ret_two HR.out.2.symm HR.out.1.symm, HB4.out⟩
    · have HIN := Lib.hid hin
      have HR := Lib.hid (askM_2 HP.out hin)
      clear hin
      go_enter Try.func42, Try.ntmps42
      go_wp2_with fail
      generalize (w.alloc (.cells #[.string s, .slice a n c] 36)).alloc (.cells #[.int .i64 m] 2) = wA at *
      refine (implVolumeOf_any s _ rs _ HIA.out hs).mono ?_
      rintro e w1 ⟨rfl, hb⟩
      rw [HV.out.1, HV.out.2, HVV.out]
      have q2 := (below_cell hb _ _ hal).trans e2
      have hl1 := Nat.lt_of_lt_of_le hal hb.size
      have HB := Lib.hid (below_of HBA.out hb HBA.out.size)
      clear hb e0 e1 e2
      have al1 := below_al w1 (.cells #[.int .i64 V] 2)
      have r2 := (below_cell al1 _ _ hl1).trans q2
      have HB2 := Lib.hid (below_of HB.out al1 HB.out.size)
      clear q2 al1
      go_wp2_with fail
      refine (within_i64 _ _ [m] _ 0 1 1 _ rfl (by omega) (cell_int _ _ _ _ (by simp))).mono ?_
      rintro e w3 ⟨rfl, rfl⟩
      rw [all_one, HIN.out]
      go_wp2
      go_ret2
      exact ⟨ret_two HR.out.2.symm HR.out.1.symm, HB2.out.alloc HB2.out.size _⟩
  · have HV := Lib.hid (show volC s rs = 0 ∧ codeP s rs = 1 by unfold volC codeP; rw [hp]; exact ⟨rfl, rfl⟩)
    have HR := Lib.hid (askM_1 (m := m) hp)
    generalize hn : rs.length = n at *
    clear hn
    go_enter Try.func42, Try.ntmps42
    go_wp2_with fail
    generalize (w.alloc (.cells #[.string s, .slice a n c] 36)).alloc (.cells #[.int .i64 m] 2) = wA at *
    refine (implVolumeOf_any s _ rs _ HIA.out hs).mono ?_
    rintro e w1 ⟨rfl, hb⟩
    rw [HV.out.1, HV.out.2]
    have HB := Lib.hid (below_of HBA.out hb HBA.out.size)
    clear hb e0 e1 e2
    go_wp2
    go_ret2
    exact ⟨ret_two HR.out.2.symm HR.out.1.symm, HB.out.alloc HB.out.size _⟩
end Go.Proofs.Ytgnnpimfcbkloaa
