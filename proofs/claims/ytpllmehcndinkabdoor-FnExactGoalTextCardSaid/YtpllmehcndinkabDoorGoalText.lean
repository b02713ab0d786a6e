/- Goals as text, by both programs. -/
import Derived.Test.YtpllmehcndinkabDoorGoalV
import Derived.Test.YtpllmehcndinkabDoorSndTextI
import Derived.Test.YtpllmehcndinkabDoorDecimal
import Derived.Lib.ItoaLen
import Derived.Deep.RegionHeld3
set_option linter.unusedVariables false
namespace Go.Proofs.YtpllmehcndinkabDoor
open Go.ChangeShapes Go.WideShapes Go.ChangeAt Go.RowKit

def glT (S : ByteArray) (t q : Int) : ByteArray := S ++ ⟨#[32]⟩ ++ decText t ++ ⟨#[32]⟩ ++ decText q
def glV (a b c e f t q : Int) : ByteArray := if goalB a b c e f t q = true then glT (sdT [a, b, c, e, f]) t q else ByteArray.empty
theorem glDec_size (z : Int) (h0 : -9223372036854775808 ≤ z) (h1 : z ≤ 9223372036854775807) : (decText z).size ≤ 21 := Lib.itoa_length_le z h0 h1
theorem gl_snd {a b c e f t q : Int} (h : goalB a b c e f t q = true) : sndB a b c e f = true ∧ (0 ≤ t ∧ t ≤ 20000) ∧ 0 ≤ q ∧ q ≤ 20 := by
  unfold goalB at h
  rw [Bool.and_eq_true, Bool.and_eq_true] at h
  exact ⟨h.1, inB_iff.1 h.2.1, inB_iff.1 h.2.2⟩
theorem gl_sd {a b c e f : Int} (h : sndB a b c e f = true) : (sdT [a, b, c, e, f]).size ≤ 200 :=
  sd_size [a, b, c, e, f] (fun j hj => idx5 (a := a) (b := b) (c := c) (e := e) (f := f) (j := j) hj (all5_iff.2 (snd_iff.1 h).1)) 5 (by omega)
set_option maxHeartbeats 2000000 in
theorem l10Text_any (g : Nat) (a b c e f t q : Int) (w : World) (hG : goalB a b c e f t q = true) (h : Seven w g a b c e f t q) :
    Calls Tryd.prog 8 #[.pointer (some ⟨g, 0, none⟩)] w fun en w' => en = .returned (.string (glT (sdT [a, b, c, e, f]) t q)) ∧ Below w.heap.size w w' := by
  obtain ⟨h1, ⟨t0, t1⟩, q0, q1⟩ := gl_snd hG
  have hg := five_lt h.1
  have hS := gl_sd h1
  have hT := glDec_size t (by omega) (by omega)
  have hQ := glDec_size q (by omega) (by omega)
  have HTX := Lib.hid (l04Text_any g a b c e f w.drew h1 h.1)
  have g5 := h.2.1
  have g6 := h.2.2
  have HGL := Lib.hid (show glT (sdT [a, b, c, e, f]) t q = sdT [a, b, c, e, f] ++ ⟨#[32]⟩ ++ decText t ++ ⟨#[32]⟩ ++ decText q from rfl)
  have hbd : Below w.heap.size w w.drew := ⟨rfl, rfl, rfl, Nat.le_refl _, fun _ _ => rfl⟩
  have HSK := Lib.hid (fun W (hW : Below w.heap.size w W) => show W.cell? ⟨g, 5, none⟩ = some (.int .i64 t) ∧ W.cell? ⟨g, 6, none⟩ = some (.int .i64 q) ∧ Below w.heap.size w W from ⟨(below_cell hW _ _ hg).trans g5, (below_cell hW _ _ hg).trans g6, hW⟩)
  clear h hG h1
  generalize sdT [a, b, c, e, f] = S at *
  have n1 : ¬ 9223372036854775807 < S.size + 1 := by omega
  have n2 : ¬ 9223372036854775807 < S.size + 1 + (decText t).size := by omega
  have n3 : ¬ 9223372036854775807 < S.size + 1 + (decText t).size + 1 := by omega
  have n4 : ¬ 9223372036854775807 < S.size + 1 + (decText t).size + 1 + (decText q).size := by omega
  clear hS hT hQ
  go_enter Tryd.func8, Tryd.ntmps8
  go_wp2
  go_region_held3 (fun W => W.cell? ⟨g, 5, none⟩ = some (.int .i64 t) ∧ W.cell? ⟨g, 6, none⟩ = some (.int .i64 q) ∧ Below w.heap.size w W)
    (first | exact HSK.out _ hbd | exact HSK.out _ hk1 | exact HSK.out _ hk2 | exact HSK.out _ hk3 | assumption)
    (first
      | (go_at_call 16; refine HTX.out.mono ?_; rintro en w1 ⟨rfl, hb1⟩; have hk1 := below_of hbd hb1 hbd.size)
      | (go_at_call_of 17 (Value.int .i64 t); refine (specDec_any t _ (by omega) (by omega)).mono ?_; rintro en w2 ⟨rfl, hb2⟩; have hk2 := below_of hk1 hb2 hk1.size)
      | (go_at_call_of 17 (Value.int .i64 q); refine (specDec_any q _ (by omega) (by omega)).mono ?_; rintro en w3 ⟨rfl, hb3⟩; have hk3 := below_of hk2 hb3 hk2.size))
  go_wp2
  go_ret
  exact ⟨ret_str HGL.out.symm, hk3⟩
theorem specGT_any (a b c e f t q : Int) (w : World) :
    Calls Tryd.prog 4 #[.agg #[.int .i64 a, .int .i64 b, .int .i64 c, .int .i64 e, .int .i64 f, .int .i64 t, .int .i64 q]] w fun en w' => en = .returned (.string (glV a b c e f t q)) ∧ Below w.heap.size w w' := by
  have HG := Lib.hid (l10Goal_any w.heap.size a b c e f t q _ (seven_alloc w a b c e f t q 29))
  have hba := below_alG w (.cells #[.int .i64 a, .int .i64 b, .int .i64 c, .int .i64 e, .int .i64 f, .int .i64 t, .int .i64 q] 29)
  have hl := alloc_ltG w (.cells #[.int .i64 a, .int .i64 b, .int .i64 c, .int .i64 e, .int .i64 f, .int .i64 t, .int .i64 q] 29)
  have HSV := Lib.hid (fun W (hW : Below (w.alloc (.cells #[.int .i64 a, .int .i64 b, .int .i64 c, .int .i64 e, .int .i64 f, .int .i64 t, .int .i64 q] 29)).heap.size (w.alloc (.cells #[.int .i64 a, .int .i64 b, .int .i64 c, .int .i64 e, .int .i64 f, .int .i64 t, .int .i64 q] 29)) W) => seven_kept hW hl (seven_alloc w a b c e f t q 29))
  have HBA := Lib.hid hba
  clear hba
  rcases Bool.eq_false_or_eq_true (goalB a b c e f t q) with h0 | h0
  · have H0 := Lib.hid h0
    have HV := Lib.hid (show glV a b c e f t q = glT (sdT [a, b, c, e, f]) t q by unfold glV; rw [if_pos h0])
    rw [h0] at HG
    go_enter Tryd.func4, Tryd.ntmps4
    go_wp2_with fail
    refine HG.out.mono ?_
    rintro en w1 ⟨rfl, hb⟩
    have HB1 := Lib.hid (below_of HBA.out hb HBA.out.size)
    have HS1 := Lib.hid (HSV.out _ hb)
    clear hb
    go_wp2_with fail
    refine (l10Text_any w.heap.size a b c e f t q _ H0.out HS1.out).mono ?_
    rintro en w2 ⟨rfl, hb⟩
    have HB2 := Lib.hid (below_of HB1.out hb HB1.out.size)
    clear hb
    go_wp2
    go_ret
    exact ⟨ret_str HV.out.symm, HB2.out⟩
  · have HV := Lib.hid (show glV a b c e f t q = ByteArray.empty by unfold glV; rw [if_neg (by rw [h0]; decide)])
    rw [h0] at HG
    go_enter Tryd.func4, Tryd.ntmps4
    go_wp2_with fail
    refine HG.out.mono ?_
    rintro en w1 ⟨rfl, hb⟩
    have HB1 := Lib.hid (below_of HBA.out hb HBA.out.size)
    clear hb
    go_wp2
    go_ret
    exact ⟨ret_str HV.out.symm, HB1.out⟩
theorem gl_join (S T Q : ByteArray) : Lib.join ([S, T, Q].map (·.data.toList)) [32] = (S ++ ⟨#[32]⟩ ++ T ++ ⟨#[32]⟩ ++ Q).data.toList := by
  simp only [Joins.data_append]
  simp [Lib.join]
theorem news3 (w : World) (x y z : ByteArray) (T : TypeId) (j : Nat) (u : ByteArray) (h : ([x, y, z] : List ByteArray)[j]? = some u) : (w.alloc (.cells #[.string x, .string y, .string z] T)).cell? ⟨w.heap.size, 0 + j, none⟩ = some (.string u) := by
  match j, h with
  | 0, h => simp at h; subst h; go_simp
  | 1, h => simp at h; subst h; go_simp
  | 2, h => simp at h; subst h; go_simp
  | j + 3, h => simp at h
set_option maxRecDepth 20000 in
set_option maxHeartbeats 4000000 in
theorem implGT_any (a b c e f t q : Int) (w : World) (hp : Hid (PowOk w)) :
    Calls Tryd.prog 6 #[.agg #[.int .i64 a, .int .i64 b, .int .i64 c, .int .i64 e, .int .i64 f, .int .i64 t, .int .i64 q]] w fun en w' => en = .returned (.string (glV a b c e f t q)) ∧ Below w.heap.size w w' := by
  have hba := below_alG w (.cells #[.int .i64 a, .int .i64 b, .int .i64 c, .int .i64 e, .int .i64 f, .int .i64 t, .int .i64 q] 29)
  have hl := alloc_ltG w (.cells #[.int .i64 a, .int .i64 b, .int .i64 c, .int .i64 e, .int .i64 f, .int .i64 t, .int .i64 q] 29)
  have hsv := seven_alloc w a b c e f t q 29
  have HBA := Lib.hid hba
  have HVG := Lib.hid (fun w => implVG_any a b c e f t q w)
  have HSV := Lib.hid (fun W (hW : Below (w.alloc (.cells #[.int .i64 a, .int .i64 b, .int .i64 c, .int .i64 e, .int .i64 f, .int .i64 t, .int .i64 q] 29)).heap.size (w.alloc (.cells #[.int .i64 a, .int .i64 b, .int .i64 c, .int .i64 e, .int .i64 f, .int .i64 t, .int .i64 q] 29)) W) => seven_kept hW hl hsv)
  obtain ⟨⟨c0, c1, c2, c3, c4⟩, c5, c6⟩ := hsv
  clear hba
  rcases Bool.eq_false_or_eq_true (goalB a b c e f t q) with h0 | h0
  · obtain ⟨h1, ⟨t0, t1⟩, q0, q1⟩ := gl_snd h0
    have hS := gl_sd h1
    have hT := glDec_size t (by omega) (by omega)
    have hQ := glDec_size q (by omega) (by omega)
    have HV := Lib.hid (show glV a b c e f t q = sdT [a, b, c, e, f] ++ ⟨#[32]⟩ ++ decText t ++ ⟨#[32]⟩ ++ decText q by unfold glV; rw [if_pos h0]; rfl)
    have HST := Lib.hid (fun w hp => implSndText_any a b c e f w hp)
    rw [show sdV a b c e f = sdT [a, b, c, e, f] by unfold sdV; rw [if_pos h1]] at HST
    rw [h0] at HVG
    clear h0 h1
    generalize sdT [a, b, c, e, f] = S at *
    have HSZ := Lib.hid (show (S ++ ⟨#[32]⟩ ++ decText t ++ ⟨#[32]⟩ ++ decText q).size ≤ 1000 by simp only [ByteArray.size_append]; show S.size + 1 + (decText t).size + 1 + (decText q).size ≤ 1000; omega)
    clear hS hT hQ
    go_enter Tryd.func6, Tryd.ntmps6
    go_wp2_with fail
    generalize w.alloc (.cells #[.int .i64 a, .int .i64 b, .int .i64 c, .int .i64 e, .int .i64 f, .int .i64 t, .int .i64 q] 29) = wA at *
    refine (HVG.out _).mono ?_
    rintro en w1 ⟨rfl, hb⟩
    obtain ⟨⟨d0, d1, d2, d3, d4⟩, d5, d6⟩ := HSV.out _ hb
    have hl1 := Nat.lt_of_lt_of_le hl hb.size
    have HB1 := Lib.hid (below_of HBA.out hb HBA.out.size)
    have hbd : Below w1.heap.size w1 w1.drew := ⟨rfl, rfl, rfl, Nat.le_refl _, fun _ _ => rfl⟩
    have HSK := Lib.hid (fun W (hW : Below w1.heap.size w1 W) => show W.cell? ⟨w.heap.size, 0, none⟩ = some (.int .i64 a) ∧ W.cell? ⟨w.heap.size, 1, none⟩ = some (.int .i64 b) ∧ W.cell? ⟨w.heap.size, 2, none⟩ = some (.int .i64 c) ∧ W.cell? ⟨w.heap.size, 3, none⟩ = some (.int .i64 e) ∧ W.cell? ⟨w.heap.size, 4, none⟩ = some (.int .i64 f) ∧ W.cell? ⟨w.heap.size, 5, none⟩ = some (.int .i64 t) ∧ W.cell? ⟨w.heap.size, 6, none⟩ = some (.int .i64 q) ∧ Below w1.heap.size w1 W from
      ⟨(below_cell hW _ _ hl1).trans d0, (below_cell hW _ _ hl1).trans d1, (below_cell hW _ _ hl1).trans d2, (below_cell hW _ _ hl1).trans d3, (below_cell hW _ _ hl1).trans d4, (below_cell hW _ _ hl1).trans d5, (below_cell hW _ _ hl1).trans d6, hW⟩)
    have HPW := Lib.hid (fun W (hW : Below w1.heap.size w1 W) => pow_kept hW (pow_kept HB1.out hp.out))
    clear hb c0 c1 c2 c3 c4 c5 c6 d0 d1 d2 d3 d4 d5 d6
    go_wp2_with fail
    go_region_held3 (fun W => W.cell? ⟨w.heap.size, 0, none⟩ = some (.int .i64 a) ∧ W.cell? ⟨w.heap.size, 1, none⟩ = some (.int .i64 b) ∧ W.cell? ⟨w.heap.size, 2, none⟩ = some (.int .i64 c) ∧ W.cell? ⟨w.heap.size, 3, none⟩ = some (.int .i64 e) ∧ W.cell? ⟨w.heap.size, 4, none⟩ = some (.int .i64 f) ∧ W.cell? ⟨w.heap.size, 5, none⟩ = some (.int .i64 t) ∧ W.cell? ⟨w.heap.size, 6, none⟩ = some (.int .i64 q) ∧ Below w1.heap.size w1 W)
      (first | with_reducible exact HSK.out _ hbd | with_reducible exact HSK.out _ hk1 | with_reducible exact HSK.out _ hk2 | with_reducible exact HSK.out _ hk3 | with_reducible exact HSK.out _ hk4 | with_reducible exact HSK.out _ hk5 | assumption)
      (first
        | (go_at_call 12; refine (HST.out _ (Lib.hid (HPW.out _ hbd))).mono ?_; rintro en w2 ⟨rfl, hb2⟩; have hk1 := below_of hbd hb2 hbd.size)
        | (go_at_call_of 13 (Value.int .i64 t); refine (implDecimal_any t _ (by omega) (by omega) (Lib.hid (HPW.out _ hk1))).mono ?_; rintro en w3 ⟨rfl, hb3⟩; have hk2 := below_of hk1 hb3 hk1.size)
        | (go_at_call_of 13 (Value.int .i64 q); refine (implDecimal_any q _ (by omega) (by omega) (Lib.hid (HPW.out _ hk2))).mono ?_; rintro en w4 ⟨rfl, hb4⟩; have hk3 := below_of hk2 hb4 hk2.size; have hk4 := below_of hk3 (below_alG w4 (.cells #[.string S, .string (decText t), .string (decText q)] 9)) hk3.size)
        | (go_at_call 11; refine (Tryd.strings_Join w4.heap.size 0 3 [S, decText t, decText q] ⟨#[32]⟩ _ (fun j x hj => news3 _ _ _ _ _ j x hj) (alloc_ltG _ _) (by show (3 : Nat) ≤ _; decide) (Nat.le_refl 3) (by rw [show (⟨#[32]⟩ : ByteArray).data.toList = [32] from rfl, gl_join, strsize]; have := HSZ.out; omega)).mono ?_; rintro en w5 ⟨rfl, hb5⟩; have hk5 := below_of hk4 hb5 hk4.size))
    have HB5 := Lib.hid (below_of HB1.out hk5 HB1.out.size)
    have HR := Lib.hid (show (⟨(Lib.join [S.data.toList, (decText t).data.toList, (decText q).data.toList] [32]).toArray⟩ : ByteArray) = glV a b c e f t q by
      have hj : Lib.join [S.data.toList, (decText t).data.toList, (decText q).data.toList] [32] = _ := gl_join S (decText t) (decText q)
      rw [hj, HV.out])
    rw [HR.out]
    go_wp2
    go_ret
    exact ⟨rfl, HB5.out⟩
  · have HV := Lib.hid (show glV a b c e f t q = ByteArray.empty by unfold glV; rw [if_neg (by rw [h0]; decide)])
    rw [h0] at HVG
    clear h0
    go_enter Tryd.func6, Tryd.ntmps6
    go_wp2_with fail
    generalize w.alloc (.cells #[.int .i64 a, .int .i64 b, .int .i64 c, .int .i64 e, .int .i64 f, .int .i64 t, .int .i64 q] 29) = wA at *
    refine (HVG.out _).mono ?_
    rintro en w1 ⟨rfl, hb⟩
    have HB1 := Lib.hid (below_of HBA.out hb HBA.out.size)
    clear hb
    go_wp2
    go_ret
    exact ⟨ret_str HV.out.symm, HB1.out⟩
end Go.Proofs.YtpllmehcndinkabDoor
