/- The table of sines: the program's variable, the reference model's list, and sines out of it. -/
import Derived.Test.YtfleececlafjkaaDoorRows
import Derived.Test.YtfleececlafjkaaDoorInts
import Derived.Lib.LaidTab
import Derived.MakeChecks
import Derived.WalkSmall
import Derived.ChangeVars
import Derived.Laws.IdiomStrings
set_option linter.unusedVariables false
namespace Go.Proofs.YtfleececlafjkaaDoor
open Go.ChangeShapes Go.WideShapes Go.ChangeAt Go.RowKit

section
variable {H : Type} {enc : TypeId × Value → H} {P : Program} {w w' : World} {base : Nat} {sp sp' : Nat → Bool} {held : Bool} {fuel : Nat} {t e : TypeId} {n : Nat} {cs : List Value}
theorem cells_of_ints {zs : List Int} {p : List MemPlace} (ht : P.underlying t = some (.array n e)) (he : P.underlying e = some (.int .i64)) (hce : P.cellsOf e = 1) (hct : P.cellsOf t = n)
    (h : DataW.trod enc P w base sp held fuel t cs = some (.agg (zs.map fun z => .lit (.int .i64 z)), p)) : cs = zs.map (Value.int .i64) := by
  cases fuel with
  | zero => simp [DataW.trod] at h
  | succ fuel =>
    simp only [DataW.trod, ht, hce, hct, Nat.mul_one] at h
    split at h
    · rename_i hl
      obtain ⟨xs, hm, hx⟩ := Option.map_eq_some_iff.1 h
      have hxs : xs.map (·.1) = zs.map fun z => (DataW.lit (.int .i64 z) : DataW H) := by
        have := congrArg Prod.fst hx
        simpa using this
      have hxl : xs.length = n := by simpa using Lib.mapM_length hm
      have hzl : zs.length = n := by
        have := congrArg List.length hxs
        simp at this
        omega
      apply List.ext_getElem?
      intro i
      by_cases hi : i < n
      · obtain ⟨b, hb, hf⟩ := Lib.mapM_at hm i i (by simp [hi])
        obtain ⟨s, hc, rfl, _⟩ := DataW.trod_int he hf
        have h1 : cs[i]? = some (.int .i64 s) := by
          have := congrArg (·[0]?) hc
          simpa [List.getElem?_take, List.getElem?_drop] using this
        have h2 : (xs.map (·.1))[i]? = some (DataW.lit (.int .i64 s) : DataW H) := by simp [hb]
        rw [hxs] at h2
        simp only [List.getElem?_map, Option.map_eq_some_iff, DataW.lit.injEq, Lit.int.injEq] at h2
        obtain ⟨s', hs', -, e'⟩ := h2
        rw [h1, List.getElem?_map, hs', e']
        rfl
      · rw [List.getElem?_eq_none (by omega), List.getElem?_eq_none (by simp; omega)]
    · cases h
theorem trod_ints_any (ht : P.underlying t = some (.array n e)) (he : P.underlying e = some (.int .i64)) :
    DataW.trod enc P w base sp held fuel t cs = DataW.trod enc P w' base sp' held fuel t cs := by
  cases fuel with
  | zero => rfl
  | succ fuel =>
    have one : ∀ l, DataW.trod enc P w base sp held fuel e l = DataW.trod enc P w' base sp' held fuel e l := by
      intro l
      cases fuel with
      | zero => rfl
      | succ f =>
        rcases l with _ | ⟨v, _ | ⟨v2, r⟩⟩
        · simp [DataW.trod, he]
        · cases v <;> simp [DataW.trod, he]
        · simp [DataW.trod, he]
    simp only [DataW.trod, ht, one]
end
theorem var_size {W : World} {n : String} {g : Nat} {cs : Array Value} (hg : Tryd.prog.globalNamed n = some g) (h : W.var? Tryd.prog n = some cs) : g < W.heap.size := by
  unfold World.var? at h
  rw [hg] at h
  simp only [Option.bind_some] at h
  rcases Nat.lt_or_ge g W.heap.size with hlt | hge
  · exact hlt
  · rw [Array.getElem?_eq_none hge] at h
    cases h
def sinL : List Int := [0, 17452, 34899, 52336, 69756, 87156, 104528, 121869, 139173, 156434, 173648, 190809, 207912, 224951, 241922, 258819, 275637, 292372, 309017, 325568, 342020, 358368, 374607, 390731, 406737, 422618, 438371, 453990, 469472, 484810, 500000, 515038, 529919, 544639, 559193, 573576, 587785, 601815, 615661, 629320, 642788, 656059, 669131, 681998, 694658, 707107, 719340, 731354, 743145, 754710, 766044, 777146, 788011, 798636, 809017, 819152, 829038, 838671, 848048, 857167, 866025, 874620, 882948, 891007, 898794, 906308, 913545, 920505, 927184, 933580, 939693, 945519, 951057, 956305, 961262, 965926, 970296, 974370, 978148, 981627, 984808, 987688, 990268, 992546, 994522, 996195, 997564, 998630, 999391, 999848, 1000000]
theorem sinL_len : sinL.length = 91 := rfl
theorem sinL_bd (j : Nat) : 0 ≤ sinL.getD j 0 ∧ sinL.getD j 0 ≤ 1000000 := by
  by_cases h : j < 91
  · have hA : ∀ z ∈ sinL, 0 ≤ z ∧ z ≤ 1000000 := by decide +kernel
    rw [List.getD_eq_getElem?_getD, List.getElem?_eq_getElem (by rw [sinL_len]; exact h)]
    exact hA _ (List.getElem_mem _)
  · rw [List.getD_eq_getElem?_getD, List.getElem?_eq_none (by rw [sinL_len]; omega)]
    simp
theorem gSin : Tryd.prog.globalNamed "loop.example/g00952/impl.quarterSines" = some 0 := by kernel_rfl
theorem gSinType : (Tryd.prog.globals[0]?).map (·.type) = some 54 := by kernel_rfl
theorem sinListed {H : Type} : (Rows.laid_loop_example_g00952_impl_quarterSines : DataW H) = .agg (sinL.map fun z => .lit (.int .i64 z)) := rfl
theorem cellsSin1 : Tryd.prog.cellsOf 2 = 1 := by kernel_rfl
theorem cellsSin : Tryd.prog.cellsOf 54 = 91 := by kernel_rfl
/-- The program's variable holds the table. -/
def SinOk (W : World) : Prop := W.var? Tryd.prog "loop.example/g00952/impl.quarterSines" = some (sinL.map (Value.int .i64)).toArray
theorem sin_of {rest : List (String × DataW Unit)} {W : World} (h : laidMet Tryd.prog (("loop.example/g00952/impl.quarterSines", Rows.laid_loop_example_g00952_impl_quarterSines) :: rest) W) : SinOk W := by
  obtain ⟨ps, ⟨g, t, cs, fuel, p, q, hg, ht, hv, hd, _, _⟩, _⟩ := h
  obtain rfl := Option.some.inj (gSin.symm.trans hg)
  obtain rfl := Option.some.inj (gSinType.symm.trans ht)
  rw [sinListed] at hd
  have := cells_of_ints Tryd.underlying54 Tryd.underlying2 cellsSin1 cellsSin hd
  unfold SinOk
  rw [hv, ← this]
theorem sin_cell {W : World} (h : SinOk W) (j : Nat) (hj : j < 91) : W.cell? ⟨0, j, none⟩ = some (.int .i64 (sinL.getD j 0)) := by
  have := World.var?_cell gSin h j
  rw [this, List.getD_eq_getElem?_getD, List.getElem?_eq_getElem (by rw [sinL_len]; exact hj)]
  simp [sinL_len, hj]
theorem sin_size {W : World} (h : SinOk W) : 0 < W.heap.size := var_size gSin h
theorem sin_kept {W W' : World} (hb : Below W.heap.size W W') (h : SinOk W) : SinOk W' := var?_below hb gSin (sin_size h) h

/-- The same angle from 0 to 359. -/
def angI (d : Int) : Int := d % 360
theorem ang_bd (d : Int) : 0 ≤ angI d ∧ angI d ≤ 359 := by unfold angI; omega
theorem ang_go (d : Int) : ∃ t, d.tmod 360 = t ∧ -360 < t ∧ t < 360 ∧ (t + 360).tmod 360 = angI d := by
  refine ⟨_, rfl, ?_⟩
  rcases Int.lt_or_le d 0 with h | h
  · have e : d.tmod 360 = -((-d) % 360) := by
      rw [← Int.tmod_eq_emod_of_nonneg (by omega), Int.neg_tmod, Int.neg_neg]
    rw [e, Int.tmod_eq_emod_of_nonneg (by omega)]
    unfold angI; omega
  · rw [Int.tmod_eq_emod_of_nonneg h, Int.tmod_eq_emod_of_nonneg (by omega)]
    unfold angI; omega
theorem ang_self {a : Int} (h0 : 0 ≤ a) (h1 : a ≤ 359) : angI a = a := by unfold angI; omega
theorem ang_add (d : Int) : angI (angI d + 90) = angI (d + 90) := by unfold angI; omega
/-- The place in the table of an angle below 180. -/
def qPl (a : Int) : Nat := (if 90 < a then 180 - a else a).toNat
def qS (a : Int) : Int := sinL.getD (qPl a) 0
def sinA (a : Int) : Int := if 180 ≤ a then -(qS (a - 180)) else qS a
def sinV (d : Int) : Int := sinA (angI d)
def cosV (d : Int) : Int := sinV (d + 90)
theorem qPl_lt {a : Int} (h0 : 0 ≤ a) (h1 : a < 180) : qPl a < 91 := by unfold qPl; split <;> omega
theorem qS_bd (a : Int) : 0 ≤ qS a ∧ qS a ≤ 1000000 := sinL_bd _
theorem sinA_bd (a : Int) : -1000000 ≤ sinA a ∧ sinA a ≤ 1000000 := by unfold sinA; have := qS_bd a; have := qS_bd (a - 180); split <;> omega
theorem sinV_bd (d : Int) : -1000000 ≤ sinV d ∧ sinV d ≤ 1000000 := sinA_bd _
theorem retS_i {a b : Int} (h : a = b) : Ending.returned (.int .i64 a) = .returned (.int .i64 b) := by rw [h]
theorem l12Angle_any (d : Int) (w : World) :
    Calls Tryd.prog 17 #[.int .i64 d] w fun e w' => e = .returned (.int .i64 (angI d)) ∧ w = w' := by
  obtain ⟨t, h1, h2, h3, h4⟩ := ang_go d
  obtain ⟨b0, b1⟩ := ang_bd d
  generalize angI d = r at *
  have HR := Lib.hid h4
  have hw1 : IntKind.i64.wrap t = t := IntWalk.i64_in _ (by omega)
  have hw2 : IntKind.i64.wrap (t + 360) = t + 360 := IntWalk.i64_in _ (by omega)
  have hw3 : IntKind.i64.wrap r = r := IntWalk.i64_in _ (by omega)
  go_enter Tryd.func17, Tryd.ntmps17
  go_wp2
  go_ret
  exact ⟨rfl, rfl⟩
theorem around_any (d : Int) (w : World) :
    Calls Tryd.prog 30 #[.int .i64 d] w fun e w' => e = .returned (.int .i64 (angI d)) ∧ w = w' := by
  obtain ⟨t, h1, h2, h3, h4⟩ := ang_go d
  obtain ⟨b0, b1⟩ := ang_bd d
  generalize angI d = r at *
  have HR := Lib.hid h4
  have hw1 : IntKind.i64.wrap t = t := IntWalk.i64_in _ (by omega)
  have hw2 : IntKind.i64.wrap (t + 360) = t + 360 := IntWalk.i64_in _ (by omega)
  have hw3 : IntKind.i64.wrap r = r := IntWalk.i64_in _ (by omega)
  go_enter Tryd.func30, Tryd.ntmps30
  go_wp2
  go_ret
  exact ⟨rfl, rfl⟩
/-- A slice that reads as the table. -/
def TabAt (w : World) (v : Value) : Prop := ∃ b, v = .slice (some ⟨b, 0, none⟩) 91 91 ∧ b < w.heap.size ∧ ∀ j, j < 91 → w.cell? ⟨b, j, none⟩ = some (.int .i64 (sinL.getD j 0))
theorem tab_kept {w w' : World} {v : Value} (hb : Below w.heap.size w w') (h : TabAt w v) : TabAt w' v := by
  obtain ⟨b, rfl, hl, hc⟩ := h
  exact ⟨b, rfl, Nat.lt_of_lt_of_le hl hb.size, fun j hj => (below_cell hb _ _ hl).trans (hc j hj)⟩
set_option maxRecDepth 20000 in
set_option maxHeartbeats 2000000 in
theorem l12Table_any (w : World) :
    Calls Tryd.prog 16 #[] w fun e w' => ∃ v, e = .returned v ∧ TabAt w' v ∧ Below w.heap.size w w' := by
  have HA := Lib.hid (show ∀ (C : Array Value) (T : TypeId), C = (sinL.map (Value.int .i64)).toArray → TabAt (w.alloc (.cells C T)) (.slice (some ⟨w.heap.size, 0, none⟩) 91 91) from fun C T hC => ⟨_, rfl, by simp, fun j hj => by
    rw [World.cell?_alloc_at _ _ _ _ rfl, hC, List.getD_eq_getElem?_getD, List.getElem?_eq_getElem (by rw [sinL_len]; exact hj)]
    simp [sinL_len, hj]⟩)
  go_enter Tryd.func16, Tryd.ntmps16
  go_wp2
  go_ret
  exact ⟨_, rfl, HA.out _ _ rfl, (Below.refl _ _).alloc (Nat.le_refl _) _⟩
set_option maxRecDepth 20000 in
set_option maxHeartbeats 1000000 in
theorem l12Sine_any (v : Value) (d : Int) (w : World) (h : TabAt w v) :
    Calls Tryd.prog 15 #[v, .int .i64 d] w fun e w' => e = .returned (.int .i64 (sinV d)) ∧ w = w' := by
  obtain ⟨b, rfl, hl, hc⟩ := h
  have HC := Lib.hid hc
  obtain ⟨b0, b1⟩ := ang_bd d
  have HV := Lib.hid (show sinV d = sinA (angI d) from rfl)
  have HA := Lib.hid (l12Angle_any d w)
  generalize sinV d = r at *
  generalize angI d = a at *
  clear hc
  by_cases h1 : 180 ≤ a
  · by_cases h2 : 90 < a - 180
    · obtain ⟨j, hj⟩ : ∃ j : Nat, 180 - (a - 180) = (j : Int) := Int.eq_ofNat_of_zero_le (by omega)
      have hcell := HC.out j (by omega)
      have HF := Lib.hid (show -1 * sinL.getD j 0 = r by
        rw [HV.out]; unfold sinA; rw [if_pos h1]; unfold qS qPl; rw [if_pos h2, hj]; simp)
      have hbd := sinL_bd j
      generalize sinL.getD j 0 = z at *
      have hw1 : IntKind.i64.wrap (a - 180) = a - 180 := IntWalk.i64_in _ (by omega)
      have hw2 : IntKind.i64.wrap (180 - (a - 180)) = (j : Int) := by rw [hj]; exact IntWalk.i64_in _ (by omega)
      have hw3 : IntKind.i64.wrap (-1 * z) = -1 * z := IntWalk.i64_in _ (by omega)
      have hj0 : (j : Int) < 91 := by omega
      go_enter Tryd.func15, Tryd.ntmps15
      go_wp2_with fail
      refine HA.out.mono ?_
      rintro e w2 ⟨rfl, rfl⟩
      go_wp2
      go_ret
      exact ⟨retS_i (by first | exact HF.out | (rw [← HF.out]; omega)), rfl⟩
    · obtain ⟨j, hj⟩ : ∃ j : Nat, a - 180 = (j : Int) := Int.eq_ofNat_of_zero_le (by omega)
      have hcell := HC.out j (by omega)
      have HF := Lib.hid (show -1 * sinL.getD j 0 = r by
        rw [HV.out]; unfold sinA; rw [if_pos h1]; unfold qS qPl; rw [if_neg h2, hj]; simp)
      have hbd := sinL_bd j
      generalize sinL.getD j 0 = z at *
      have hw1 : IntKind.i64.wrap (a - 180) = (j : Int) := by rw [hj]; exact IntWalk.i64_in _ (by omega)
      have hw3 : IntKind.i64.wrap (-1 * z) = -1 * z := IntWalk.i64_in _ (by omega)
      have hj0 : (j : Int) < 91 := by omega
      have hj9 : ¬ 90 < (j : Int) := by omega
      go_enter Tryd.func15, Tryd.ntmps15
      go_wp2_with fail
      refine HA.out.mono ?_
      rintro e w2 ⟨rfl, rfl⟩
      go_wp2
      go_ret
      exact ⟨retS_i (by first | exact HF.out | (rw [← HF.out]; omega)), rfl⟩
  · by_cases h2 : 90 < a
    · obtain ⟨j, hj⟩ : ∃ j : Nat, 180 - a = (j : Int) := Int.eq_ofNat_of_zero_le (by omega)
      have hcell := HC.out j (by omega)
      have HF := Lib.hid (show sinL.getD j 0 = r by
        rw [HV.out]; unfold sinA; rw [if_neg h1]; unfold qS qPl; rw [if_pos h2, hj]; simp)
      have hbd := sinL_bd j
      generalize sinL.getD j 0 = z at *
      have hw2 : IntKind.i64.wrap (180 - a) = (j : Int) := by rw [hj]; exact IntWalk.i64_in _ (by omega)
      have hw3 : IntKind.i64.wrap (1 * z) = z := by rw [Int.one_mul]; exact IntWalk.i64_in _ (by omega)
      have hj0 : (j : Int) < 91 := by omega
      go_enter Tryd.func15, Tryd.ntmps15
      go_wp2_with fail
      refine HA.out.mono ?_
      rintro e w2 ⟨rfl, rfl⟩
      go_wp2
      go_ret
      exact ⟨retS_i (by first | exact HF.out | (rw [← HF.out]; omega)), rfl⟩
    · obtain ⟨j, rfl⟩ := Int.eq_ofNat_of_zero_le b0
      have hcell := HC.out j (by omega)
      have HF := Lib.hid (show sinL.getD j 0 = r by
        rw [HV.out]; unfold sinA; rw [if_neg h1]; unfold qS qPl; rw [if_neg h2]; simp)
      have hbd := sinL_bd j
      generalize sinL.getD j 0 = z at *
      have hw3 : IntKind.i64.wrap (1 * z) = z := by rw [Int.one_mul]; exact IntWalk.i64_in _ (by omega)
      have hj0 : (j : Int) < 91 := by omega
      go_enter Tryd.func15, Tryd.ntmps15
      go_wp2_with fail
      refine HA.out.mono ?_
      rintro e w2 ⟨rfl, rfl⟩
      go_wp2
      go_ret
      exact ⟨retS_i (by first | exact HF.out | (rw [← HF.out]; omega)), rfl⟩
set_option maxRecDepth 20000 in
set_option maxHeartbeats 1000000 in
/-- An angle below 180. -/
theorem waveSine_low (d : Int) (w : World) (hT : Hid (SinOk w)) (h1 : ¬ 180 ≤ angI d) :
    Calls Tryd.prog 29 #[.int .i64 d] w fun e w' => e = .returned (.int .i64 (sinV d)) ∧ w = w' := by
  obtain ⟨b0, b1⟩ := ang_bd d
  have HV := Lib.hid (show sinV d = sinA (angI d) from rfl)
  have HA := Lib.hid (around_any d w)
  generalize sinV d = r at *
  generalize angI d = a at *
  by_cases h2 : 90 < a
  · obtain ⟨j, hj⟩ : ∃ j : Nat, 180 - a = (j : Int) := Int.eq_ofNat_of_zero_le (by omega)
    have hcell := sin_cell hT.out j (by omega)
    have HF := Lib.hid (show sinL.getD j 0 = r by
      rw [HV.out]; unfold sinA; rw [if_neg h1]; unfold qS qPl; rw [if_pos h2, hj]; simp)
    generalize sinL.getD j 0 = z at *
    have hw2 : IntKind.i64.wrap (180 - a) = (j : Int) := by rw [hj]; exact IntWalk.i64_in _ (by omega)
    have hj0 : (j : Int) < 91 := by omega
    go_enter Tryd.func29, Tryd.ntmps29
    go_wp2_with fail
    refine HA.out.mono ?_
    rintro e w2 ⟨rfl, rfl⟩
    go_wp2
    go_ret
    exact ⟨retS_i HF.out, rfl⟩
  · obtain ⟨j, rfl⟩ := Int.eq_ofNat_of_zero_le b0
    have hcell := sin_cell hT.out j (by omega)
    have HF := Lib.hid (show sinL.getD j 0 = r by
      rw [HV.out]; unfold sinA; rw [if_neg h1]; unfold qS qPl; rw [if_neg h2]; simp)
    generalize sinL.getD j 0 = z at *
    have hj0 : (j : Int) < 91 := by omega
    go_enter Tryd.func29, Tryd.ntmps29
    go_wp2_with fail
    refine HA.out.mono ?_
    rintro e w2 ⟨rfl, rfl⟩
    go_wp2
    go_ret
    exact ⟨retS_i HF.out, rfl⟩
set_option maxRecDepth 20000 in
theorem waveSine_any (d : Int) (w : World) (hT : Hid (SinOk w)) :
    Calls Tryd.prog 29 #[.int .i64 d] w fun e w' => e = .returned (.int .i64 (sinV d)) ∧ w = w' := by
  by_cases h1 : 180 ≤ angI d
  · obtain ⟨b0, b1⟩ := ang_bd d
    have HL := Lib.hid (waveSine_low (angI d - 180) w hT (by rw [ang_self (by omega) (by omega)]; omega))
    have HF := Lib.hid (show -(sinV (angI d - 180)) = sinV d by
      show -(sinA (angI (angI d - 180))) = sinA (angI d)
      rw [ang_self (a := angI d - 180) (by omega) (by omega)]
      have hh : ¬ 180 ≤ angI d - 180 := by omega
      unfold sinA
      rw [if_neg hh, if_pos h1])
    have hbd := sinV_bd (angI d - 180)
    have HA := Lib.hid (around_any d w)
    generalize sinV (angI d - 180) = z at *
    generalize sinV d = r at *
    generalize angI d = a at *
    have hw1 : IntKind.i64.wrap (a - 180) = a - 180 := IntWalk.i64_in _ (by omega)
    have hw2 : IntKind.i64.wrap (-z) = -z := IntWalk.i64_in _ (by omega)
    go_enter Tryd.func29, Tryd.ntmps29
    go_wp2_with fail
    refine HA.out.mono ?_
    rintro e w2 ⟨rfl, rfl⟩
    go_wp2_with fail
    refine HL.out.mono ?_
    rintro e w2 ⟨rfl, rfl⟩
    go_wp2
    go_ret
    exact ⟨retS_i HF.out, rfl⟩
  · exact waveSine_low d w hT h1
set_option maxRecDepth 20000 in
theorem waveCosine_any (d : Int) (w : World) (hT : Hid (SinOk w)) :
    Calls Tryd.prog 18 #[.int .i64 d] w fun e w' => e = .returned (.int .i64 (cosV d)) ∧ w = w' := by
  obtain ⟨b0, b1⟩ := ang_bd d
  have HF := Lib.hid (show sinV (angI d + 90) = cosV d by unfold cosV sinV; rw [ang_add])
  have HA := Lib.hid (around_any d w)
  generalize angI d = a at *
  have HS := Lib.hid (waveSine_any (a + 90) w hT)
  generalize cosV d = r at *
  generalize sinV (a + 90) = z at *
  have hw1 : IntKind.i64.wrap (a + 90) = a + 90 := IntWalk.i64_in _ (by omega)
  go_enter Tryd.func18, Tryd.ntmps18
  go_wp2_with fail
  refine HA.out.mono ?_
  rintro e w2 ⟨rfl, rfl⟩
  go_wp2_with fail
  refine HS.out.mono ?_
  rintro e w2 ⟨rfl, rfl⟩
  go_wp2
  go_ret
  exact ⟨retS_i HF.out, rfl⟩
set_option maxRecDepth 20000 in
theorem implWC_any (d : Int) (w : World) (hT : Hid (SinOk w)) :
    Calls Tryd.prog 7 #[.int .i64 d] w fun e w' => e = .returned (.int .i64 (cosV d)) ∧ Below w.heap.size w w' := by
  have HC := Lib.hid (waveCosine_any d w hT)
  generalize cosV d = r at *
  go_enter Tryd.func7, Tryd.ntmps7
  go_wp2_with fail
  refine HC.out.mono ?_
  rintro e w2 ⟨rfl, rfl⟩
  go_wp2
  go_ret
  exact ⟨rfl, Below.refl _ _⟩
set_option maxRecDepth 20000 in
theorem specWC_any (d : Int) (w : World) :
    Calls Tryd.prog 6 #[.int .i64 d] w fun e w' => e = .returned (.int .i64 (cosV d)) ∧ Below w.heap.size w w' := by
  obtain ⟨b0, b1⟩ := ang_bd d
  have HF := Lib.hid (show sinV (angI d + 90) = cosV d by unfold cosV sinV; rw [ang_add])
  have HA := Lib.hid (l12Angle_any d)
  have HS := Lib.hid (fun v w h => l12Sine_any v (angI d + 90) w h)
  generalize sinV (angI d + 90) = z at *
  generalize angI d = a at *
  generalize cosV d = r at *
  have hw1 : IntKind.i64.wrap (a + 90) = a + 90 := IntWalk.i64_in _ (by omega)
  go_enter Tryd.func6, Tryd.ntmps6
  go_wp2_with fail
  refine (l12Table_any w).mono ?_
  rintro e w2 ⟨v, rfl, hv, hb⟩
  have HV := Lib.hid hv
  have HB := Lib.hid hb
  clear hv hb
  go_wp2_with fail
  refine (HA.out _).mono ?_
  rintro e w3 ⟨rfl, rfl⟩
  go_wp2_with fail
  refine (HS.out v _ HV.out).mono ?_
  rintro e w3 ⟨rfl, rfl⟩
  go_wp2
  go_ret
  exact ⟨retS_i HF.out, HB.out⟩
end Go.Proofs.YtfleececlafjkaaDoor
