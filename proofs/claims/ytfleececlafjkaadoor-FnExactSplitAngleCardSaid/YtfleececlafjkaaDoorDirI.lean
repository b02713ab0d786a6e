/- The direction of a split: the program's. -/
import Derived.Test.YtfleececlafjkaaDoorWaveJ
import Derived.Test.YtfleececlafjkaaDoorDirS
import Derived.Laws.StructEq
import Derived.Laws.EntriesVeiled
set_option linter.unusedVariables false
namespace Go.Proofs.YtfleececlafjkaaDoor
open Go.ChangeShapes Go.WideShapes Go.ChangeAt Go.RowKit

theorem eqlW (x y x2 y2 : Int) (w : World) :
    (Op.equalIn 10000 42 (.agg #[.int .i64 x, .int .i64 y]) (.agg #[.int .i64 x2, .int .i64 y2])).run Tryd.prog w = .ok (x == x2 && y == y2) w := by
  have hu := Tryd.underlying2
  have hu2 := Tryd.underlying42
  rw [show (10000 : Nat) = 9999 + 1 from rfl, run_equalIn_struct w 9999 _ _ _ (by kernel_rfl) (by kernel_rfl)]
  cases h0 : (x == x2) <;> cases h1 : (y == y2) <;> simp [Program.fieldsOf, hu2, Op.eqFields, go_sem, h0, h1, hu]
theorem eqGW : Tryd.prog.eqGuardType Tryd.prog.depth 42 = false := by kernel_rfl
set_option maxHeartbeats 1000000 in
/-- The closure: how far the wave reaches. -/
theorem along_any (C S : Int) (k b : Nat) (w : World) (hT : SinOk w) (hC : -16000001 ≤ C ∧ C ≤ 16000001) (hS : -16000001 ≤ S ∧ S ≤ 16000001)
    (c0 : w.cell? ⟨b, 0, none⟩ = some (.int .i64 C)) (c1 : w.cell? ⟨b, 1, none⟩ = some (.int .i64 S)) :
    Calls Tryd.prog 28 #[.int .i64 k, .pointer (some ⟨b, 0, none⟩)] w fun e w' => e = .returned (.int .i64 (alV C S k)) ∧ ∃ m, w' = w.drewN m := by
  have HA := Lib.hid (show C * cosV k + S * sinV k = alV C S k from rfl)
  have p1 := prod_bd2 hC (sinV_bd ((k : Int) + 90))
  have p2 := prod_bd2 hS (sinV_bd (k : Int))
  have HX := Lib.hid (show cosV (k : Int) = sinV ((k : Int) + 90) from rfl)
  rw [← HX.out] at p1
  have HCS := Lib.hid (fun w (h : SinOk w) => waveCosine_any (k : Int) w (Lib.hid h))
  have HSS := Lib.hid (fun w (h : SinOk w) => waveSine_any (k : Int) w (Lib.hid h))
  have HT := Lib.hid (fun n => show SinOk (w.drewN n) from hT)
  clear HX hT
  generalize alV C S k = r at *
  generalize cosV (k : Int) = cc at *
  generalize sinV (k : Int) = ss at *
  have hw1 : IntKind.i64.wrap (C * cc) = C * cc := IntWalk.i64_in _ (by omega)
  have hw2 : IntKind.i64.wrap (S * ss) = S * ss := IntWalk.i64_in _ (by omega)
  have hw3 : IntKind.i64.wrap (C * cc + S * ss) = C * cc + S * ss := IntWalk.i64_in _ (by omega)
  go_enter Tryd.func28, Tryd.ntmps28
  go_wp2
  go_quiet (first
    | (go_at_call 18; exact Calls.quiet_of_same ((HCS.out _ (HT.out _)).mono (fun _ _ h => ⟨h.1, h.2.symm⟩)))
    | (go_at_call 29; exact Calls.quiet_of_same ((HSS.out _ (HT.out _)).mono (fun _ _ h => ⟨h.1, h.2.symm⟩))))
  go_wp2
  go_ret
  exact ⟨retS_i HA.out, _, rfl⟩
set_option maxRecDepth 20000 in
set_option maxHeartbeats 4000000 in
theorem implSA_any (n : Int) (rs : List Qt) (u : Value) (w : World) (hT : SinOk w) (hu : SpotsAt w u rs) :
    Calls Tryd.prog 14 #[u, .int .i64 n] w fun e w' => e = .returned (.tuple #[.int .i64 (saR n rs), .int .i64 (saC n rs)]) ∧ Below w.heap.size w w' := by
  have HK := Lib.hid (checked_any n rs u w hT hu)
  have HT := Lib.hid hT
  clear hT hu
  by_cases h0 : spC n rs = 0
  · have h1 : spotsB rs = true := by
      rcases Bool.eq_false_or_eq_true (spotsB rs) with h | h
      · exact h
      · rw [spC_bad h] at h0; cases h0
    have HW := Lib.hid (show cwC n rs = wsC n rs rs.length by unfold cwC; rw [if_pos h0])
    have HW2 := Lib.hid (show cwS n rs = wsS n rs rs.length by unfold cwS; rw [if_pos h0])
    have b1 := (rdC_bd n h1).2
    have b2 := (rdS_bd n h1).2
    have HRD := Lib.hid (fun w => show Calls Tryd.prog 27 #[.agg #[.int .i64 (wsC n rs rs.length), .int .i64 (wsS n rs rs.length)]] w fun e w' => e = .returned (.agg #[.int .i64 (rdC n rs), .int .i64 (rdS n rs)]) ∧ Below w.heap.size w w' from rounded_any _ _ w (rdC_bd n h1).1 (rdS_bd n h1).1)
    rw [h0, HW.out, HW2.out] at HK
    have HSA := Lib.hid (show saC n rs = if rdC n rs = 0 ∧ rdS n rs = 0 then 6 else 0 by unfold saC; rw [if_pos h0])
    have HSR := Lib.hid (show saR n rs = if saC n rs = 0 then (dirK (rdC n rs) (rdS n rs) 360 : Int) else 0 from rfl)
    rw [HSR.out, HSA.out]
    generalize wsC n rs rs.length = A at *
    generalize wsS n rs rs.length = B at *
    generalize rdC n rs = C at *
    generalize rdS n rs = S at *
    have hg := eqGW
    have hmf : ∀ (fn : Fn) (first cap : Array Value) (w : World), (Instr.makeFunc fn first cap).run Tryd.prog w = .ok (.func fn first cap) w := fun _ _ _ _ => rfl
    clear h0 h1 HSA HSR
    by_cases hz : C = 0 ∧ S = 0
    · rw [if_pos hz, if_neg (by omega)]
      have hq : ∀ w : World, (Op.equalIn 10000 42 (.agg #[.int .i64 C, .int .i64 S]) (.agg #[.int .i64 0, .int .i64 0])).run Tryd.prog w = .ok true w := fun w => by
        rw [eqlW, hz.1, hz.2]; rfl
      clear hz
      go_enter Tryd.func14, Tryd.ntmps14
      go_wp2_with fail
      refine HK.out.mono ?_
      rintro e w2 ⟨rfl, hb⟩
      have HB2 := Lib.hid hb
      clear hb
      go_wp2_with fail
      refine (HRD.out _).mono ?_
      rintro e w3 ⟨rfl, hb⟩
      have HB3 := Lib.hid (below_of (HB2.out.alloc HB2.out.size _) hb (by have := HB2.out.size; simp; omega))
      clear hb
      go_wp2
      go_ret2
      exact ⟨rfl, HB3.out.alloc HB3.out.size _⟩
    · rw [if_neg hz, if_pos rfl]
      have hq : ∀ w : World, (Op.equalIn 10000 42 (.agg #[.int .i64 C, .int .i64 S]) (.agg #[.int .i64 0, .int .i64 0])).run Tryd.prog w = .ok false w := fun w => by
        have e : (C == 0 && S == 0) = false := by
          rw [Bool.eq_false_iff]; intro h; exact hz (by simpa using h)
        rw [eqlW, e]
      clear hz
      go_enter Tryd.func14, Tryd.ntmps14
      go_wp2_with fail
      refine HK.out.mono ?_
      rintro e w2 ⟨rfl, hb⟩
      have HB2 := Lib.hid hb
      clear hb
      go_wp2_with fail
      refine (HRD.out _).mono ?_
      rintro e w3 ⟨rfl, hb⟩
      have HB3 := Lib.hid (below_of (HB2.out.alloc HB2.out.size _) hb (by have := HB2.out.size; simp; omega))
      have HB4 := Lib.hid (HB3.out.alloc HB3.out.size (.cells #[.int .i64 C, .int .i64 S] 42))
      have e0 : (w3.alloc (.cells #[.int .i64 C, .int .i64 S] 42)).cell? ⟨w3.heap.size, 0, none⟩ = some (.int .i64 C) := by go_simp
      have e1 : (w3.alloc (.cells #[.int .i64 C, .int .i64 S] 42)).cell? ⟨w3.heap.size, 1, none⟩ = some (.int .i64 S) := by go_simp
      have HAL := Lib.hid (fun (k m : Nat) => along_any C S k w3.heap.size ((w3.alloc (.cells #[.int .i64 C, .int .i64 S] 42)).drewN m) (sin_kept (below_of HB4.out (below_drewN _ m) HB4.out.size) HT.out) b1 b2 e0 e1)
      clear hb e0 e1
      go_wp2
      try generalize (w3.alloc (.cells #[.int .i64 C, .int .i64 S] 42)) = w5 at *
      go_loopw [10, 27] (fun b i wr => ∃ k m : Nat, k ≤ 360 ∧ i = .int .i64 k ∧ b = .int .i64 (dirK C S k : Nat) ∧ wr = w5.drewN m) (fun _ i _ => 360 - (intOf i).toNat)
      case atStart => exact ⟨0, 0, by omega, rfl, rfl, rfl⟩
      case round =>
        obtain ⟨k, m, hk, rfl, rfl, rfl⟩ := hrel
        by_cases hlt : k < 360
        · have HD := Lib.hid (show dirK C S (k + 1) = if alV C S (dirK C S k : Nat) < alV C S k then k else dirK C S k from rfl)
          have hk2 : (k : Int) < 360 := by omega
          have hdl := dir_lt C S k
          have HA1 := Lib.hid (HAL.out k)
          have HA2 := Lib.hid (HAL.out (dirK C S k))
          generalize alV C S (dirK C S k : Nat) = best at *
          generalize alV C S (k : Int) = A1 at *
          generalize dirK C S k = dk at *
          by_cases hbt : best < A1
          · go_wp2_with fail
            refine (HA1.out m).mono ?_
            rintro e w6 ⟨rfl, m1, rfl⟩
            rw [World.drewN_drewN]
            go_wp2_with fail
            refine (HA2.out _).mono ?_
            rintro e w6 ⟨rfl, m2, rfl⟩
            rw [World.drewN_drewN]
            go_wp2
            go_roundw
            case rel => exact ⟨k + 1, _, by omega, by go_num, by rw [HD.out, if_pos hbt], rfl⟩
            case measure => simp [intOf]; omega
          · go_wp2_with fail
            refine (HA1.out m).mono ?_
            rintro e w6 ⟨rfl, m1, rfl⟩
            rw [World.drewN_drewN]
            go_wp2_with fail
            refine (HA2.out _).mono ?_
            rintro e w6 ⟨rfl, m2, rfl⟩
            rw [World.drewN_drewN]
            go_wp2
            go_roundw
            case rel => exact ⟨k + 1, _, by omega, by go_num, by rw [HD.out, if_neg (by omega)], rfl⟩
            case measure => simp [intOf]; omega
        · obtain rfl : k = 360 := by omega
          go_wp2
          go_ret2
          exact ⟨rfl, below_of HB4.out (below_drewN _ m) HB4.out.size⟩
  · have HSA := Lib.hid (show saC n rs = spC n rs by unfold saC; rw [if_neg h0])
    have HSR := Lib.hid (show saR n rs = 0 by unfold saR; rw [HSA.out, if_neg h0])
    rw [HSR.out, HSA.out]
    generalize cwC n rs = A at *
    generalize cwS n rs = B at *
    generalize spC n rs = r at *
    have hne : (r != 0) = true := by simpa using h0
    clear h0
    go_enter Tryd.func14, Tryd.ntmps14
    go_wp2_with fail
    refine HK.out.mono ?_
    rintro e w2 ⟨rfl, hb⟩
    have HB2 := Lib.hid hb
    clear hb
    go_wp2
    go_ret2
    exact ⟨rfl, HB2.out.alloc HB2.out.size _⟩
end Go.Proofs.YtfleececlafjkaaDoor
