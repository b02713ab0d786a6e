/- The direction of a split: the reference model's. -/
import Derived.Test.YtfleececlafjkaaDoorWaveS
set_option linter.unusedVariables false
namespace Go.Proofs.YtfleececlafjkaaDoor
open Go.ChangeShapes Go.WideShapes Go.ChangeAt Go.RowKit

/-- How far the wave reaches in a direction. -/
def alV (C S d : Int) : Int := C * cosV d + S * sinV d
/-- The first of the directions below k in which it reaches farthest. -/
def dirK (C S : Int) : Nat → Nat
  | 0 => 0
  | k + 1 => if alV C S (dirK C S k) < alV C S k then k else dirK C S k
theorem dir_lt (C S : Int) (k : Nat) : dirK C S k < k + 1 := by
  induction k with
  | zero => simp [dirK]
  | succ k ih => unfold dirK; split <;> omega
theorem dir_one (C S : Int) : dirK C S 1 = 0 := by unfold dirK; split <;> rfl
theorem prod_bd2 {y c : Int} (hy : -16000001 ≤ y ∧ y ≤ 16000001) (hc : -1000000 ≤ c ∧ c ≤ 1000000) : -16000001000000 ≤ y * c ∧ y * c ≤ 16000001000000 := by
  have h1 : (y * c).natAbs ≤ 16000001 * 1000000 := by rw [Int.natAbs_mul]; exact Nat.mul_le_mul (by omega) (by omega)
  omega
def saC (n : Int) (rs : List Qt) : Int := if spC n rs = 0 then (if rdC n rs = 0 ∧ rdS n rs = 0 then 6 else 0) else spC n rs
def saR (n : Int) (rs : List Qt) : Int := if saC n rs = 0 then dirK (rdC n rs) (rdS n rs) 360 else 0
set_option maxRecDepth 20000 in
set_option maxHeartbeats 4000000 in
theorem specSA_any (n : Int) (rs : List Qt) (u : Value) (w : World) (hu : SpotsAt w u rs) :
    Calls Tryd.prog 13 #[u, .int .i64 n] w fun e w' => e = .returned (.tuple #[.int .i64 (saR n rs), .int .i64 (saC n rs)]) ∧ Below w.heap.size w w' := by
  have HU := Lib.hid hu
  have HK := Lib.hid (l12Ok_any rs u w hu)
  clear hu
  rcases Bool.eq_false_or_eq_true (spotsB rs) with h1 | h1
  · have H1 := Lib.hid h1
    rcases Bool.eq_false_or_eq_true (wavB n) with h2 | h2
    · have H2 := Lib.hid h2
      have HC := Lib.hid (spC_yes h1 h2)
      have HN := Lib.hid (inB_iff.1 h2)
      have HSU := Lib.hid (fun v w (hv : TabAt w v) (hu : SpotsAt w u rs) => l12Sums_any n rs v u w hv hu h1 HN.out)
      have b1 := (rdC_bd n h1).2
      have b2 := (rdS_bd n h1).2
      have HSA := Lib.hid (show saC n rs = if rdC n rs = 0 ∧ rdS n rs = 0 then 6 else 0 by unfold saC; rw [if_pos HC.out])
      have HSR := Lib.hid (show saR n rs = if saC n rs = 0 then (dirK (rdC n rs) (rdS n rs) 360 : Int) else 0 from rfl)
      rw [HSR.out, HSA.out]
      generalize rdC n rs = C at *
      generalize rdS n rs = S at *
      clear h1 h2 HSA HSR
      by_cases hz : C = 0 ∧ S = 0
      · rw [if_pos hz, if_neg (by omega)]
        obtain ⟨rfl, rfl⟩ := hz
        go_enter Tryd.func13, Tryd.ntmps13
        go_wp2_with fail
        refine HK.out.mono ?_
        rintro e w2 ⟨rfl, hb⟩
        have HB2 := Lib.hid hb
        clear hb
        rw [H1.out]
        go_wp2_with fail
        refine (l12Waves_any n _).mono ?_
        rintro e w3 ⟨rfl, rfl⟩
        rw [H2.out]
        go_wp2_with fail
        refine (l12Table_any _).mono ?_
        rintro e w3 ⟨v, rfl, hv, hb⟩
        have HV := Lib.hid hv
        have HB3 := Lib.hid (below_of HB2.out hb HB2.out.size)
        clear hb hv
        go_wp2_with fail
        refine (HSU.out v _ HV.out (spots_kept HB3.out HU.out)).mono ?_
        rintro e w4 ⟨rfl, m, rfl⟩
        have HB4 := Lib.hid (below_of HB3.out (below_drewN _ m) HB3.out.size)
        go_wp2
        go_ret2
        exact ⟨rfl, HB4.out⟩
      · rw [if_neg hz, if_pos rfl]
        have HZ := Lib.hid hz
        have HS9 := Lib.hid (fun v d w (h : TabAt w v) => l12Sine_any v d w h)
        go_enter Tryd.func13, Tryd.ntmps13
        go_wp2_with fail
        refine HK.out.mono ?_
        rintro e w2 ⟨rfl, hb⟩
        have HB2 := Lib.hid hb
        clear hb
        rw [H1.out]
        go_wp2_with fail
        refine (l12Waves_any n _).mono ?_
        rintro e w3 ⟨rfl, rfl⟩
        rw [H2.out]
        go_wp2_with fail
        refine (l12Table_any _).mono ?_
        rintro e w3 ⟨v, rfl, hv, hb⟩
        have HV := Lib.hid hv
        have HB3 := Lib.hid (below_of HB2.out hb HB2.out.size)
        clear hb hv
        go_wp2_with fail
        refine (HSU.out v _ HV.out (spots_kept HB3.out HU.out)).mono ?_
        rintro e w4 ⟨rfl, m, rfl⟩
        have HB4 := Lib.hid (below_of HB3.out (below_drewN _ m) HB3.out.size)
        have HV4 := Lib.hid (tab_drew (n := m) HV.out)
        generalize w3.drewN m = w5 at *
        have p1 := prod_bd2 b1 (sinV_bd 90)
        have p2 := prod_bd2 b2 (sinV_bd 0)
        have HA0 := Lib.hid (show C * sinV 90 + S * sinV 0 = alV C S ((dirK C S 1 : Nat) : Int) by rw [dir_one]; rfl)
        have HC0 := Lib.hid (HS9.out v 90 w5 HV4.out)
        have HC1 := Lib.hid (HS9.out v 0 w5 HV4.out)
        generalize sinV 90 = s90 at *
        generalize sinV 0 = s0 at *
        have hw1 : IntKind.i64.wrap (C * s90) = C * s90 := IntWalk.i64_in _ (by omega)
        have hw2 : IntKind.i64.wrap (S * s0) = S * s0 := IntWalk.i64_in _ (by omega)
        have hw3 : IntKind.i64.wrap (C * s90 + S * s0) = C * s90 + S * s0 := IntWalk.i64_in _ (by omega)
        by_cases hz1 : C = 0
        · have hz2 : ¬ S = 0 := fun h => hz ⟨hz1, h⟩
          have hq1 : (C == 0) = true := by simpa using hz1
          have hq2 : (S == 0) = false := by simpa using hz2
          clear hz hz1 hz2
          go_wp2_with fail
          refine HC0.out.mono ?_
          rintro e w6 ⟨rfl, rfl⟩
          go_wp2_with fail
          refine HC1.out.mono ?_
          rintro e w6 ⟨rfl, rfl⟩
          have HB5 := Lib.hid HB4.out
          have HM := Lib.hid HA0.out
          go_wp2
          go_loopw [9, 10, 11] (fun b q i wr => ∃ k m : Nat, 1 ≤ k ∧ k ≤ 360 ∧ i = .int .i64 k ∧ b = .int .i64 (dirK C S k : Nat) ∧ q = .int .i64 (alV C S (dirK C S k : Nat)) ∧ wr = w5.drewN m) (fun _ _ i _ => 360 - (intOf i).toNat)
          case atStart => exact ⟨1, 0, by omega, by omega, rfl, by rw [dir_one]; rfl, by rw [← HM.out], rfl⟩
          case round =>
            obtain ⟨k, m, hk1, hk, rfl, rfl, rfl, rfl⟩ := hrel
            by_cases hlt : k < 360
            · have r1 := prod_bd2 b1 (sinV_bd ((k : Int) + 90))
              have r2 := prod_bd2 b2 (sinV_bd (k : Int))
              have HD := Lib.hid (show dirK C S (k + 1) = if alV C S (dirK C S k : Nat) < alV C S k then k else dirK C S k from rfl)
              have HAK := Lib.hid (show C * sinV ((k : Int) + 90) + S * sinV k = alV C S k from rfl)
              have HD0 := Lib.hid (HS9.out v ((k : Int) + 90) (w5.drewN m) (tab_drew HV4.out))
              have HD1 := Lib.hid (HS9.out v (k : Int) (w5.drewN m) (tab_drew HV4.out))
              generalize sinV ((k : Int) + 90) = sa at *
              generalize sinV (k : Int) = sb at *
              have hx1 : IntKind.i64.wrap (C * sa) = C * sa := IntWalk.i64_in _ (by omega)
              have hx2 : IntKind.i64.wrap (S * sb) = S * sb := IntWalk.i64_in _ (by omega)
              have hx3 : IntKind.i64.wrap (C * sa + S * sb) = C * sa + S * sb := IntWalk.i64_in _ (by omega)
              have hk2 : (k : Int) < 360 := by omega
              obtain ⟨A, hA⟩ : ∃ A, C * sa + S * sb = A := ⟨_, rfl⟩
              rw [hA] at HAK
              rw [← HAK.out] at HD
              have HAQ := Lib.hid hA
              generalize hbs : alV C S (dirK C S k : Nat) = best at *
              generalize hdk : dirK C S k = dk at *
              have HBS := Lib.hid hbs
              clear hbs hdk
              by_cases hbt : best < A
              · have hbt2 : best < C * sa + S * sb := by rw [hA]; exact hbt
                clear hA
                go_wp2_with fail
                refine HD0.out.mono ?_
                rintro e w6 ⟨rfl, rfl⟩
                go_wp2_with fail
                refine HD1.out.mono ?_
                rintro e w6 ⟨rfl, rfl⟩
                go_wp2
                go_roundw
                case rel => exact ⟨k + 1, m, by omega, by omega, by go_num, by rw [HD.out, if_pos hbt], by rw [HD.out, if_pos hbt, HAQ.out, HAK.out], rfl⟩
                case measure => simp [intOf]; omega
              · have hbt2 : ¬ best < C * sa + S * sb := by rw [hA]; exact hbt
                clear hA
                go_wp2_with fail
                refine HD0.out.mono ?_
                rintro e w6 ⟨rfl, rfl⟩
                go_wp2_with fail
                refine HD1.out.mono ?_
                rintro e w6 ⟨rfl, rfl⟩
                go_wp2
                go_roundw
                case rel => exact ⟨k + 1, m, by omega, by omega, by go_num, by rw [HD.out, if_neg (by omega)], by rw [HD.out, if_neg (by omega), HBS.out], rfl⟩
                case measure => simp [intOf]; omega
            · obtain rfl : k = 360 := by omega
              go_wp2
              go_ret2
              exact ⟨rfl, below_of HB5.out (below_drewN _ m) HB5.out.size⟩
        · have hq1 : (C == 0) = false := by simpa using hz1
          clear hz hz1
          go_wp2_with fail
          refine HC0.out.mono ?_
          rintro e w6 ⟨rfl, rfl⟩
          go_wp2_with fail
          refine HC1.out.mono ?_
          rintro e w6 ⟨rfl, rfl⟩
          have HB5 := Lib.hid HB4.out
          have HM := Lib.hid HA0.out
          go_wp2
          go_loopw [9, 10, 11] (fun b q i wr => ∃ k m : Nat, 1 ≤ k ∧ k ≤ 360 ∧ i = .int .i64 k ∧ b = .int .i64 (dirK C S k : Nat) ∧ q = .int .i64 (alV C S (dirK C S k : Nat)) ∧ wr = w5.drewN m) (fun _ _ i _ => 360 - (intOf i).toNat)
          case atStart => exact ⟨1, 0, by omega, by omega, rfl, by rw [dir_one]; rfl, by rw [← HM.out], rfl⟩
          case round =>
            obtain ⟨k, m, hk1, hk, rfl, rfl, rfl, rfl⟩ := hrel
            by_cases hlt : k < 360
            · have r1 := prod_bd2 b1 (sinV_bd ((k : Int) + 90))
              have r2 := prod_bd2 b2 (sinV_bd (k : Int))
              have HD := Lib.hid (show dirK C S (k + 1) = if alV C S (dirK C S k : Nat) < alV C S k then k else dirK C S k from rfl)
              have HAK := Lib.hid (show C * sinV ((k : Int) + 90) + S * sinV k = alV C S k from rfl)
              have HD0 := Lib.hid (HS9.out v ((k : Int) + 90) (w5.drewN m) (tab_drew HV4.out))
              have HD1 := Lib.hid (HS9.out v (k : Int) (w5.drewN m) (tab_drew HV4.out))
              generalize sinV ((k : Int) + 90) = sa at *
              generalize sinV (k : Int) = sb at *
              have hx1 : IntKind.i64.wrap (C * sa) = C * sa := IntWalk.i64_in _ (by omega)
              have hx2 : IntKind.i64.wrap (S * sb) = S * sb := IntWalk.i64_in _ (by omega)
              have hx3 : IntKind.i64.wrap (C * sa + S * sb) = C * sa + S * sb := IntWalk.i64_in _ (by omega)
              have hk2 : (k : Int) < 360 := by omega
              obtain ⟨A, hA⟩ : ∃ A, C * sa + S * sb = A := ⟨_, rfl⟩
              rw [hA] at HAK
              rw [← HAK.out] at HD
              have HAQ := Lib.hid hA
              generalize hbs : alV C S (dirK C S k : Nat) = best at *
              generalize hdk : dirK C S k = dk at *
              have HBS := Lib.hid hbs
              clear hbs hdk
              by_cases hbt : best < A
              · have hbt2 : best < C * sa + S * sb := by rw [hA]; exact hbt
                clear hA
                go_wp2_with fail
                refine HD0.out.mono ?_
                rintro e w6 ⟨rfl, rfl⟩
                go_wp2_with fail
                refine HD1.out.mono ?_
                rintro e w6 ⟨rfl, rfl⟩
                go_wp2
                go_roundw
                case rel => exact ⟨k + 1, m, by omega, by omega, by go_num, by rw [HD.out, if_pos hbt], by rw [HD.out, if_pos hbt, HAQ.out, HAK.out], rfl⟩
                case measure => simp [intOf]; omega
              · have hbt2 : ¬ best < C * sa + S * sb := by rw [hA]; exact hbt
                clear hA
                go_wp2_with fail
                refine HD0.out.mono ?_
                rintro e w6 ⟨rfl, rfl⟩
                go_wp2_with fail
                refine HD1.out.mono ?_
                rintro e w6 ⟨rfl, rfl⟩
                go_wp2
                go_roundw
                case rel => exact ⟨k + 1, m, by omega, by omega, by go_num, by rw [HD.out, if_neg (by omega)], by rw [HD.out, if_neg (by omega), HBS.out], rfl⟩
                case measure => simp [intOf]; omega
            · obtain rfl : k = 360 := by omega
              go_wp2
              go_ret2
              exact ⟨rfl, below_of HB5.out (below_drewN _ m) HB5.out.size⟩
    · have H2 := Lib.hid h2
      have HC := Lib.hid (spC_no h1 h2)
      have HSA := Lib.hid (show saC n rs = 2 by unfold saC; rw [HC.out, if_neg (by omega)])
      have HSR := Lib.hid (show saR n rs = 0 by unfold saR; rw [HSA.out, if_neg (by omega)])
      rw [HSR.out, HSA.out]
      clear h1 h2
      go_enter Tryd.func13, Tryd.ntmps13
      go_wp2_with fail
      refine HK.out.mono ?_
      rintro e w2 ⟨rfl, hb⟩
      have HB2 := Lib.hid hb
      clear hb
      rw [H1.out]
      go_wp2_with fail
      refine (l12Waves_any n _).mono ?_
      rintro e w3 ⟨rfl, rfl⟩
      rw [H2.out]
      go_wp2
      go_ret2
      exact ⟨rfl, HB2.out⟩
  · have H1 := Lib.hid h1
    have HC := Lib.hid (spC_bad (n := n) h1)
    have HSA := Lib.hid (show saC n rs = 1 by unfold saC; rw [HC.out, if_neg (by omega)])
    have HSR := Lib.hid (show saR n rs = 0 by unfold saR; rw [HSA.out, if_neg (by omega)])
    rw [HSR.out, HSA.out]
    clear h1
    go_enter Tryd.func13, Tryd.ntmps13
    go_wp2_with fail
    refine HK.out.mono ?_
    rintro e w2 ⟨rfl, hb⟩
    have HB2 := Lib.hid hb
    clear hb
    rw [H1.out]
    go_wp2
    go_ret2
    exact ⟨rfl, HB2.out⟩
end Go.Proofs.YtfleececlafjkaaDoor
