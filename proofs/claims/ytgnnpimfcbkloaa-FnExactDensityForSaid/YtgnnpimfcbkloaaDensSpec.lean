/- The least density for a mass: the reference model's search. -/
import Derived.Test.YtgnnpimfcbkloaaDensI
set_option linter.unusedVariables false
namespace Go.Proofs.Ytgnnpimfcbkloaa
open Go.ChangeShapes Go.WideShapes Go.ChangeAt Go.RowKit

set_option maxRecDepth 20000 in
set_option maxHeartbeats 2000000 in
theorem specDensityFor_any (s : ByteArray) (v : Value) (rs : List Rg) (m : Int) (w : World) (h : RingsAt w v rs) (hs : s.size ≤ maxLen) :
    Calls Try.prog 41 #[.agg #[.string s, v], .int .i64 m] w fun e w' => e = .returned (.tuple #[.int .i64 (denC s rs m), .int .i64 (askM s rs m)]) ∧ Below w.heap.size w w' := by
  have HI := Lib.hid h
  obtain ⟨a, c, rfl⟩ := rings_form h
  clear h
  have hal := alloc_lt2 w (.cells #[.string s, .slice a rs.length c] 36)
  have hpa := prof_alloc w s (.slice a rs.length c) 36
  have HBA := Lib.hid (below_al w (.cells #[.string s, .slice a rs.length c] 36))
  have HIA := Lib.hid (rings_kept HBA.out HI.out)
  rcases Bool.eq_false_or_eq_true (profB s rs) with hp | hp
  · have HP := Lib.hid hp
    have HVR := Lib.hid (fun i hi => prof_ring hp i hi)
    have hv := prof_vol hp
    obtain ⟨-, ⟨n1, n2⟩, -, -⟩ := prof_iff.1 hp
    clear hp
    rcases Bool.eq_false_or_eq_true (inB m 0 1000000000) with hin | hin
    · have HIN := Lib.hid hin
      clear hin
      generalize hn : rs.length = n at *
      have HN := Lib.hid hn
      clear hn
      go_enter Try.func41, Try.ntmps41
      go_wp2_with fail
      generalize w.alloc (.cells #[.string s, .slice a n c] 36) = wA at *
      refine (l05Ok_any _ s _ rs _ hpa HIA.out hs).mono ?_
      rintro e w1 ⟨rfl, hb⟩
      rw [HP.out]
      have hp1 := prof_keep hb hal hpa
      have HI1 := Lib.hid (rings_kept hb HIA.out)
      have HB := Lib.hid (below_of HBA.out hb HBA.out.size)
      have hl1 := Nat.lt_of_lt_of_le hal hb.size
      clear hb hpa
      obtain ⟨b, off, rfl, hbl, hr⟩ := rings_lie HN.out n1 HI1.out
      have HMC := Lib.hid (fun (k : Nat) (a : Int) (W : World) (hk : k ≤ 19000) (ha : a = 1000 + (k : Int)) (hW : Below w1.heap.size w1 W) => show Calls Try.prog 66 #[.pointer (some ⟨w.heap.size, 0, none⟩), .int .i64 a] W fun e w' => e = .returned (.int .i64 (massV (volP rs) (1000 + (k : Int)))) ∧ Below W.heap.size W w' from by
        subst ha
        exact l06Mass_some _ b off c n s rs _ W HN.out n1 n2 (Nat.lt_of_lt_of_le hl1 hW.size) (Nat.lt_of_lt_of_le hbl hW.size) (prof_keep hW hl1 hp1) (fun i hi => ⟨(below_cell hW _ _ hbl).trans (hr i hi).c0, (below_cell hW _ _ hbl).trans (hr i hi).c1, (below_cell hW _ _ hbl).trans (hr i hi).c2⟩) (fun i hi => HVR.out i (by rw [← HN.out]; exact hi)) (by omega) (by omega))
      clear hr hp1
      obtain ⟨V, hV⟩ : ∃ V, volP rs = V := ⟨_, rfl⟩
      have HVV := Lib.hid hV
      rw [hV] at hv HMC
      clear hV
      go_wp2_with fail
      refine (l00In_any m 0 1000000000 _).mono ?_
      rintro e w' ⟨rfl, rfl⟩
      rw [HIN.out]
      go_wp2
      go_loopw [6, 7] (fun x y wr => ∃ i j : Nat, i ≤ j ∧ j ≤ 19000 ∧ x = .int .i64 (1000 + (i : Int)) ∧ y = .int .i64 (1000 + (j : Int)) ∧ Hid (Short V m i) ∧ Hid (Fit V m 19000 j) ∧ Below w1.heap.size w1 wr) (fun x y _ => (intOf y).toNat - (intOf x).toNat)
      case atStart => exact ⟨0, 19000, by omega, by omega, rfl, rfl, Lib.hid (fun d hd => by omega), Lib.hid (.inl rfl), Below.refl _ _⟩
      case round =>
        obtain ⟨i, j, hij, hj, rfl, rfl, HA, HF, hbw⟩ := hrel
        have HBW := Lib.hid hbw
        clear hbw
        by_cases hlt : i < j
        · have hlti : 1000 + (i : Int) < 1000 + (j : Int) := by omega
          obtain ⟨k, hk⟩ : ∃ k, (i + j) / 2 = k := ⟨_, rfl⟩
          have hk1 : i ≤ k ∧ k < j := by omega
          have HKK := Lib.hid (show (1000 + (i : Int) + (1000 + (j : Int))) / 2 = 1000 + (k : Int) by omega)
          have HKT := Lib.hid (show (1000 + (i : Int) + (1000 + (j : Int))).tdiv 2 = 1000 + (k : Int) by rw [Int.tdiv_eq_ediv_of_nonneg (by omega)]; omega)
          by_cases he : m ≤ massV V (1000 + (k : Nat))
          · have HH := Lib.hid (show Fit V m 19000 k from .inr he)
            have HLE := Lib.hid he
            clear he hk
            go_wp2_with fail
            refine (HMC.out k _ _ (by omega) (by first | exact HKK.out | exact HKT.out | omega) HBW.out).mono ?_
            rintro e w2 ⟨rfl, hb⟩
            have HB1 := Lib.hid (below_of HBW.out hb HBW.out.size)
            clear hb
            have hle := HLE.out
            generalize massV V (1000 + (k : Int)) = q at hle ⊢
            go_wp2
            go_roundw
            case rel => exact ⟨i, k, by omega, by omega, rfl, by first | exact congrArg (Value.int .i64) HKK.out | exact congrArg (Value.int .i64) HKT.out | exact congrArg (Value.int .i64) (by omega), HA, HH, HB1.out⟩
            case measure => have := HKK.out; have := HKT.out; simp [intOf]; omega
          · have HH := Lib.hid (short_up (show 0 ≤ V by omega) he)
            have HLE := Lib.hid he
            clear he hk
            go_wp2_with fail
            refine (HMC.out k _ _ (by omega) (by first | exact HKK.out | exact HKT.out | omega) HBW.out).mono ?_
            rintro e w2 ⟨rfl, hb⟩
            have HB1 := Lib.hid (below_of HBW.out hb HBW.out.size)
            clear hb
            have hle := HLE.out
            generalize massV V (1000 + (k : Int)) = q at hle ⊢
            go_wp2
            go_roundw
            case rel => exact ⟨k + 1, j, by omega, by omega, by first | exact congrArg (Value.int .i64) (by have := HKK.out; omega) | exact congrArg (Value.int .i64) (by have := HKT.out; omega), rfl, HH, HF, HB1.out⟩
            case measure => have := HKK.out; have := HKT.out; simp [intOf]; omega
        · obtain rfl : i = j := by omega
          by_cases he : m ≤ massV V (1000 + (i : Nat))
          · have HR := Lib.hid (askM_s HP.out HIN.out (k := i) (by rw [HVV.out]; exact least_some hj he HA.out))
            have HLE := Lib.hid he
            clear he
            go_wp2_with fail
            refine (HMC.out i _ _ hj rfl HBW.out).mono ?_
            rintro e w2 ⟨rfl, hb⟩
            have HB1 := Lib.hid (below_of HB.out (below_of HBW.out hb HBW.out.size) HB.out.size)
            clear hb
            have hle := HLE.out
            generalize massV V (1000 + (i : Int)) = q at hle ⊢
            go_wp2
            go_ret2
            exact ⟨ret_two HR.out.2.symm HR.out.1.symm, HB1.out⟩
          · have h19 : i = 19000 := by
              rcases HF.out with h | h
              · exact h
              · exact absurd h he
            have HR := Lib.hid (askM_n HP.out HIN.out (by rw [HVV.out]; exact least_none (fun d hd => by
              by_cases h : d < i
              · exact HA.out d h
              · have : d = i := by omega
                rw [this]; exact he)))
            have HLE := Lib.hid he
            clear he h19
            go_wp2_with fail
            refine (HMC.out i _ _ hj rfl HBW.out).mono ?_
            rintro e w2 ⟨rfl, hb⟩
            have HB1 := Lib.hid (below_of HB.out (below_of HBW.out hb HBW.out.size) HB.out.size)
            clear hb
            have hle := HLE.out
            generalize massV V (1000 + (i : Int)) = q at hle ⊢
            go_wp2
            go_ret2
            exact ⟨ret_two HR.out.2.symm HR.out.1.symm, HB1.out⟩
    · have HIN := Lib.hid hin
      have HR := Lib.hid (askM_2 HP.out hin)
      clear hin
      generalize hn : rs.length = n at *
      clear hn
      go_enter Try.func41, Try.ntmps41
      go_wp2_with fail
      generalize w.alloc (.cells #[.string s, .slice a n c] 36) = wA at *
      refine (l05Ok_any _ s _ rs _ hpa HIA.out hs).mono ?_
      rintro e w1 ⟨rfl, hb⟩
      rw [HP.out]
      have HB := Lib.hid (below_of HBA.out hb HBA.out.size)
      clear hb hpa
      go_wp2_with fail
      refine (l00In_any m 0 1000000000 _).mono ?_
      rintro e w' ⟨rfl, rfl⟩
      rw [HIN.out]
      go_wp2
      go_ret2
      exact ⟨ret_two HR.out.2.symm HR.out.1.symm, HB.out⟩
  · have HP := Lib.hid hp
    have HR := Lib.hid (askM_1 (m := m) hp)
    generalize hn : rs.length = n at *
    clear hn
    go_enter Try.func41, Try.ntmps41
    go_wp2_with fail
    generalize w.alloc (.cells #[.string s, .slice a n c] 36) = wA at *
    refine (l05Ok_any _ s _ rs _ hpa HIA.out hs).mono ?_
    rintro e w1 ⟨rfl, hb⟩
    rw [HP.out]
    have HB := Lib.hid (below_of HBA.out hb HBA.out.size)
    clear hb hpa
    go_wp2
    go_ret2
    exact ⟨ret_two HR.out.2.symm HR.out.1.symm, HB.out⟩
end Go.Proofs.Ytgnnpimfcbkloaa
