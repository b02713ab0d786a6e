/- At every text, FnExactReadTemperament returns true and leaves the memory as it was: ReadTemperament answers as the reference model, in memory of its own. Condition: the package-level variables that the row lists hold what the program's text lays (the card ties them). -/
import Derived.Test.YtndmakimkghihabDoorCards
import Derived.Test.YtndmakimkghihabDoorTie
import Derived.Test.YtndmakimkghihabDoorBase
import Derived.Test.YtndmakimkghihabDoorLaidOut
import Derived.Test.YtndmakimkghihabDoorTemLaw
import Derived.Deep.DeepHandedRow
import Derived.Deep.DeepWitnessRowRef
import Derived.LaidMore
import Derived.Lay
namespace Go.Proofs.YtndmakimkghihabDoor.fnExactReadTemperament
open Go.ChangeShapes Go.WideShapes Go.ChangeAt Go.RowKit
open Go.ChangeMaps (open_string shut_string)
set_option linter.unusedVariables false

theorem own : ownKnob Tryd.prog.godebug = none := by kernel_rfl

theorem facts {W : World} (h : laidMetH Tryd.prog Rows.fnExactReadTemperamentRow.laid W) : ReadOk W := by
  rw [MakeChecks.laidMetH_plain _ _ _ (by kernel_rfl)] at h
  have h2 := laid_tail (laid_tail h)
  have h3 := laid_tail (laid_tail h2)
  exact ⟨pow_of h2, err_of gSyn (by kernel_rfl) Tryd.underlying83 (laid_tail h3), err_of gRan (by kernel_rfl) Tryd.underlying83 h3⟩

noncomputable def laidWorld (os : Os) : World := (World.doorLaid Tryd.prog 400 os).layVars Tryd.prog [("unicode/utf8.first", Rows.laid_unicode_utf8_first)]
set_option maxRecDepth 100000 in
theorem laid_met (os : Os) : laidMetH Tryd.prog Rows.fnExactReadTemperamentRow.laid ((laidWorld os).forCall (fun _ _ => 0) ⟨#[], #[.string ⟨#[]⟩], []⟩).memory :=
  laidMetH_of_parts3 (fuel := 8) (laidMet_of_run' 8 (by kernel_rfl) (by kernel_rfl)) (by kernel_rfl) (by kernel_rfl)

set_option maxRecDepth 100000 in
set_option maxHeartbeats 4000000 in
theorem walk (a0 : ByteArray) (w0 : a0.size ≤ maxLen) (w : World) (hF : Hid (ReadOk w)) (hSh : Hid (w.ShapedOpen Tryd.prog)) :
    Calls Tryd.prog 6 #[.string a0] w fun e w' => e = .returned (.bool true) ∧ Below w.heap.size w w' := by
  have HL := Lib.hid (show ListOk w from ⟨hF.out, max_of hSh.out⟩)
  clear hF hSh
  have hmax : a0.size ≤ 9223372036854775807 := by unfold maxLen at w0; omega
  by_cases hbig : 1048576 < a0.size
  · go_enter Tryd.func6, Tryd.ntmps6
    go_wp2
    go_ret
    exact ⟨rfl, Below.refl _ _⟩
  · have HS := Lib.hid w0
    clear w0
    obtain ⟨s, zs, o, hzl, huni⟩ := tem_uni a0
    have HU := Lib.hid huni
    obtain ⟨n, hn⟩ : ∃ n, zs.length = n := ⟨_, rfl⟩
    have HN := Lib.hid hn
    rw [hn] at hzl
    clear huni hn
    have hoo : (o != o) = false := by simp
    have hz3 : ((1 + (n : Int)) != (1 + (n : Int))) = false := by simp
    go_enter Tryd.func6, Tryd.ntmps6
    go_wp2_with fail
    refine (specTemRead_any a0 _ (by omega)).mono ?_
    intro e w1 h
    obtain ⟨v1, rfl, ht1, hb1⟩ := HU.out _ _ _ h
    obtain ⟨a1, n1, c1, rfl, -⟩ := tv_form ht1
    have HT1 := Lib.hid ht1
    have HB1 := Lib.hid hb1
    clear h ht1 hb1
    have HA1 := Lib.hid ((Below.refl w1.heap.size w1).alloc (Nat.le_refl _) (.cells #[.string s, .slice a1 n1 c1] 46))
    have hB2 : (w1.alloc (.cells #[.string s, .slice a1 n1 c1] 46)).heap.size = w1.heap.size + 1 := by simp
    go_wp2_with fail
    refine (implTemRead_any a0 _ (by omega) (Lib.hid (list_kept HA1.out (list_kept HB1.out HL.out)))).mono ?_
    intro e w2 h
    obtain ⟨v2, rfl, ht2, hb2⟩ := HU.out _ _ _ h
    obtain ⟨a2, n2, c2, rfl, -⟩ := tv_form ht2
    have p0 : w2.cell? ⟨w1.heap.size, 0, none⟩ = some (.string s) := by rw [below_cell hb2 _ _ (by simp)]; go_simp
    have p1 : w2.cell? ⟨w1.heap.size, 1, none⟩ = some (.slice a1 n1 c1) := by rw [below_cell hb2 _ _ (by simp)]; go_simp
    rw [hB2] at ht2
    have hz2 : w1.heap.size + 1 ≤ w2.heap.size := by have := hb2.size; omega
    have HT2 := Lib.hid ht2
    have HR2 := Lib.hid (below_of HA1.out hb2 HA1.out.size)
    clear h ht2 hb2 hB2
    have HA2 := Lib.hid ((Below.refl w2.heap.size w2).alloc (Nat.le_refl _) (.cells #[.string s, .slice a2 n2 c2] 46))
    have q0 : (w2.alloc (.cells #[.string s, .slice a2 n2 c2] 46)).cell? ⟨w1.heap.size, 0, none⟩ = some (.string s) := by rw [below_cell HA2.out _ _ hz2]; exact p0
    have q1 : (w2.alloc (.cells #[.string s, .slice a2 n2 c2] 46)).cell? ⟨w1.heap.size, 1, none⟩ = some (.slice a1 n1 c1) := by rw [below_cell HA2.out _ _ hz2]; exact p1
    clear p0 p1
    go_wp2_with fail
    refine (eqTemp_any s _ _ zs _ (tv_ints (tv_kept HA2.out HT2.out)) (tv_ints (tv_kept (HR2.out.trans (HA2.out.mono (by omega))) HT1.out))).mono ?_
    rintro e w3 ⟨rfl, hb3⟩
    have r0 : w3.cell? ⟨w1.heap.size, 0, none⟩ = some (.string s) := by rw [below_cell hb3 _ _ (by simp; omega)]; exact q0
    have r1 : w3.cell? ⟨w1.heap.size, 1, none⟩ = some (.slice a1 n1 c1) := by rw [below_cell hb3 _ _ (by simp; omega)]; exact q1
    have t0 : w3.cell? ⟨w2.heap.size, 0, none⟩ = some (.string s) := by rw [below_cell hb3 _ _ (by simp)]; go_simp
    have t1 : w3.cell? ⟨w2.heap.size, 1, none⟩ = some (.slice a2 n2 c2) := by rw [below_cell hb3 _ _ (by simp)]; go_simp
    have HX3 := Lib.hid (below_of HA2.out hb3 HA2.out.size)
    have HT3 := Lib.hid (tv_kept HX3.out HT2.out)
    have HR3 := Lib.hid (HR2.out.trans (HX3.out.mono (by omega)))
    have hz3' : w2.heap.size + 1 ≤ w3.heap.size := by have := hb3.size; simp at this; omega
    clear hb3 q0 q1
    go_wp2_with fail
    refine (markTemp_any s _ zs (w1.heap.size + 1) _ (by omega) HT3.out).mono ?_
    rintro e w4 ⟨rfl, ht4, hb4, hf4⟩
    rw [HN.out] at ht4 ⊢
    have u0 : w4.cell? ⟨w1.heap.size, 0, none⟩ = some (.string s) := by rw [hf4 _ _ (by omega) (tv_block HT2.out _ (.inr (by omega)))]; exact r0
    have u1 : w4.cell? ⟨w1.heap.size, 1, none⟩ = some (.slice a1 n1 c1) := by rw [hf4 _ _ (by omega) (tv_block HT2.out _ (.inr (by omega)))]; exact r1
    have y0 : w4.cell? ⟨w2.heap.size, 0, none⟩ = some (.string s) := by rw [hf4 _ _ (by omega) (tv_block HT2.out _ (.inl (by omega)))]; exact t0
    have y1 : w4.cell? ⟨w2.heap.size, 1, none⟩ = some (.slice a2 n2 c2) := by rw [hf4 _ _ (by omega) (tv_block HT2.out _ (.inl (by omega)))]; exact t1
    have HT4 := Lib.hid ht4
    have HR4 := Lib.hid (HR3.out.trans (hb4.mono (by omega)))
    have hz4 : w2.heap.size + 1 ≤ w4.heap.size := by have := hb4.size; omega
    clear ht4 hb4 hf4 r0 r1 t0 t1
    go_wp2_with fail
    refine (heldTemp_any s _ n (w1.heap.size + 1) _ HT4.out).mono ?_
    rintro e w5 ⟨rfl, hb5⟩
    have r0 : w5.cell? ⟨w1.heap.size, 0, none⟩ = some (.string s) := by rw [below_cell hb5 _ _ (by omega)]; exact u0
    have r1 : w5.cell? ⟨w1.heap.size, 1, none⟩ = some (.slice a1 n1 c1) := by rw [below_cell hb5 _ _ (by omega)]; exact u1
    have t0 : w5.cell? ⟨w2.heap.size, 0, none⟩ = some (.string s) := by rw [below_cell hb5 _ _ (by omega)]; exact y0
    have t1 : w5.cell? ⟨w2.heap.size, 1, none⟩ = some (.slice a2 n2 c2) := by rw [below_cell hb5 _ _ (by omega)]; exact y1
    have HT5 := Lib.hid (tv_kept hb5 HT4.out)
    have HR5 := Lib.hid (HR4.out.trans (hb5.mono (by omega)))
    have hz5 : w2.heap.size + 1 ≤ w5.heap.size := by have := hb5.size; omega
    clear hb5 u0 u1 y0 y1
    go_wp2_with fail
    refine (implTemRead_any a0 _ (by omega) (Lib.hid (list_kept HR5.out (list_kept HB1.out HL.out)))).mono ?_
    intro e w6 h
    obtain ⟨v3, rfl, ht6, hb6⟩ := HU.out _ _ _ h
    obtain ⟨a3, n3, c3, rfl, -⟩ := tv_form ht6
    have hz6 : w2.heap.size + 1 ≤ w6.heap.size := by have := hb6.size; omega
    have HT6 := Lib.hid ht6
    have HT56 := Lib.hid (tv_kept hb6 HT5.out)
    have HR6 := Lib.hid (HR5.out.trans (hb6.mono (by omega)))
    have HA6 := Lib.hid ((Below.refl w6.heap.size w6).alloc (Nat.le_refl _) (.cells #[.string s, .slice a3 n3 c3] 46))
    have u0 : (w6.alloc (.cells #[.string s, .slice a3 n3 c3] 46)).cell? ⟨w1.heap.size, 0, none⟩ = some (.string s) := by rw [below_cell HA6.out _ _ (by omega), below_cell hb6 _ _ (by omega)]; exact r0
    have u1 : (w6.alloc (.cells #[.string s, .slice a3 n3 c3] 46)).cell? ⟨w1.heap.size, 1, none⟩ = some (.slice a1 n1 c1) := by rw [below_cell HA6.out _ _ (by omega), below_cell hb6 _ _ (by omega)]; exact r1
    have y0 : (w6.alloc (.cells #[.string s, .slice a3 n3 c3] 46)).cell? ⟨w2.heap.size, 0, none⟩ = some (.string s) := by rw [below_cell HA6.out _ _ (by omega), below_cell hb6 _ _ (by omega)]; exact t0
    have y1 : (w6.alloc (.cells #[.string s, .slice a3 n3 c3] 46)).cell? ⟨w2.heap.size, 1, none⟩ = some (.slice a2 n2 c2) := by rw [below_cell HA6.out _ _ (by omega), below_cell hb6 _ _ (by omega)]; exact t1
    clear h ht6 hb6 r0 r1 t0 t1
    go_wp2_with fail
    refine (eqTemp_any s _ _ zs _ (tv_ints (tv_kept HA6.out HT6.out)) (tv_ints (tv_kept (HR6.out.trans (HA6.out.mono (by omega))) HT1.out))).mono ?_
    rintro e w7 ⟨rfl, hb7⟩
    have t0 : w7.cell? ⟨w2.heap.size, 0, none⟩ = some (.string s) := by rw [below_cell hb7 _ _ (by simp; omega)]; exact y0
    have t1 : w7.cell? ⟨w2.heap.size, 1, none⟩ = some (.slice a2 n2 c2) := by rw [below_cell hb7 _ _ (by simp; omega)]; exact y1
    have HX7 := Lib.hid (below_of HA6.out hb7 HA6.out.size)
    have HT7 := Lib.hid (tv_kept HX7.out HT56.out)
    have HR7 := Lib.hid (HR6.out.trans (HX7.out.mono (by omega)))
    have hz7 : w2.heap.size + 1 ≤ w7.heap.size := by have := HX7.out.size; omega
    clear hb7 u0 u1 y0 y1
    go_wp2_with fail
    refine (heldTemp_any s _ n (w1.heap.size + 1) _ HT7.out).mono ?_
    rintro e w8 ⟨rfl, hb8⟩
    have HB8 := Lib.hid (below_of HB1.out (HR7.out.trans (hb8.mono (by omega))) HB1.out.size)
    clear hb8 t0 t1
    go_wp2
    go_ret
    exact ⟨rfl, HB8.out⟩

set_option maxRecDepth 100000 in
theorem contract (H : Type) (enc : TypeId × Value → H) (W : World) (base : Nat) (args : Array Value) (ds gs : List (DataW H)) (before : List MemPlace)
    (hval : ∀ (j : Nat) t v, Tryd.f6.params[j]? = some t → args[j]? = some v → Value.okWide Tryd.prog W .any base t v)
    (hW : DataW.Whole enc Tryd.prog Tryd.f6.params.toList Rows.fnExactReadTemperamentSpec.vars false W args.toList ds gs before) (hL : laidMetH Tryd.prog Rows.fnExactReadTemperamentRow.laid W) (hSh : W.ShapedOpen Tryd.prog) :
    Calls Tryd.prog 6 args W fun e W' => ∃ v, e = .returned v ∧ Rows.fnExactReadTemperamentSpec.post enc Tryd.prog Tryd.f6 false true false false W args v W' := by
  have hF := facts hL
  have hW' := hW
  obtain ⟨p, q, hA0, hV, rfl, hfz, hnd⟩ := hW
  have hA : DataW.TrodAll enc Tryd.prog W 0 (fun _ => true) true Tryd.f6.params.toList args.toList ds p := hA0
  rw [Tryd.params6] at hA hval
  obtain ⟨v0, vs0, d0, ds0, p0, q0, hargs, rfl, rfl, h0, r0⟩ := trodAll_cons hA
  obtain ⟨rfl, rfl, rfl⟩ := trodAll_nil r0
  obtain rfl : args = #[v0] := by cases args; simp_all
  obtain ⟨rfl, rfl⟩ := trodVars_none hV
  simp only [List.append_nil] at hW'
  have hlt0 : ∀ x ∈ p0, x.block < W.heap.size := fun x hx => hW'.lt x (by simp [hx])
  have kept0 := fun (W2 : World) (hb : Below W.heap.size W W2) => Below.trod laidOut (by kernel_rfl) (of_decide_eq_true (by kernel_rfl)) h0 hb hlt0
  obtain ⟨a0, rfl, -, -, w0⟩ := open_string Tryd.underlying9 (hval 0 9 v0 rfl rfl) h0
  clear hA0
  refine (walk a0 w0 W (Lib.hid hF) (Lib.hid hSh)).mono fun e W' ⟨he, hg⟩ => ?_
  subst he
  refine ⟨_, rfl, post_at (pa := p0) (pv := []) hW' (by simp) hg (fun _ _ => (trodAll_cons_mk (shut_bool Tryd.underlying4 _) trodAll_mk0)) ?_ rfl⟩
  have hk := (trodAll_cons_mk (kept0 W' hg) trodAll_mk0)
  simp only [List.append_nil] at hk
  exact hk

set_option maxRecDepth 100000 in
theorem reads (os : Os) {H : Type} (enc : TypeId × Value → H) : DataW.whole enc Tryd.prog ((laidWorld os).forCall (fun _ _ => 0) ⟨#[], #[.string ⟨#[]⟩], []⟩).memory Tryd.f6.params.toList Rows.fnExactReadTemperamentSpec.vars false (#[.string ⟨#[]⟩] : Array Value).toList 8
    = some ([.lit (.string [])], [], []) := by kernel_rfl

set_option maxRecDepth 100000 in
theorem lifted (os : Os) (started : os.Started) (H : Type) (enc : TypeId × Value → H) (F : Stop.Interp) :
    ReturnsInHanded {} Tryd.checked os 6 .any ((OpenSpec.ofChange Rows.fnExactReadTemperamentSpec).preRow enc Tryd.prog Tryd.f6 Rows.fnExactReadTemperamentRow.domain false Rows.fnExactReadTemperamentRow.laid) (((OpenSpec.ofChange Rows.fnExactReadTemperamentSpec).at F).post enc Tryd.prog Tryd.f6 false true false false) := by
  refine returnsInHanded_of_row (C := Tryd.checked) (s := OpenSpec.ofChange Rows.fnExactReadTemperamentSpec) own started (by kernel_rfl) Tryd.func6
    (witness_row_atRef (enc := enc) (C := Tryd.checked) false (laidWorld os) #[.string ⟨#[]⟩] (World.layVars_os _ _ _) (by kernel_rfl) (by kernel_rfl) (by kernel_rfl)
      (OpenSpec.preRow_of_cond 8 (reads os enc) (by kernel_rfl) (fun k hk => by cases hk) (by kernel_rfl) (laid_met os))) ?_
  intro W base args ds gs before hval hW _ _ hr hL hSh _
  exact contract H enc W base args ds gs before hval hW hL hSh

theorem said : Rows.FnExactReadTemperamentSaid :=
  OpenClaim.holds_of_cond 6 Tryd.f6 rfl rfl rfl rfl rfl rfl rfl ⟨rfl, rfl, rfl, rfl, rfl⟩ rfl rfl rfl rfl rfl (by kernel_rfl) Tryd.func6 (by kernel_rfl)
    (of_decide_eq_true (by kernel_rfl)) (by unfold Func.isWrapper; first | (rw [if_pos (by decide +kernel)]; kernel_rfl) | (rw [if_neg (by decide +kernel)]; exact ⟨rfl, rfl⟩))
    (fun os started H enc _ F => by rw [OpenClaim.pre_eq_preRow]; exact lifted os started H enc F)

theorem plain (f : FuncId) (fn : Func) (hf : Tryd.pinned.checked.prog.funcNamed "loop.example/g00952/laws.FnExactReadTemperament" = some f) (hfn : Tryd.pinned.checked.prog.funcs[f]? = some fn) :
    true = Tryd.pinned.checked.prog.looks [] ∧ ∀ (j : Nat) t, fn.params[j]? = some t → Tryd.pinned.checked.prog.wantsStandIn t = false := by
  obtain rfl : f = 6 := Option.some.inj ((show Tryd.prog.funcNamed "loop.example/g00952/laws.FnExactReadTemperament" = some 6 by kernel_rfl).symm.trans hf) |>.symm
  obtain rfl : fn = Tryd.f6 := (Option.some.inj (Tryd.func6.symm.trans hfn)).symm
  refine ⟨by kernel_rfl, fun j t ht => ?_⟩
  rw [Tryd.params6] at ht
  obtain rfl : t = 9 := by simpa using Array.mem_of_getElem? ht
  exact (show Tryd.prog.wantsStandIn 9 = false by kernel_rfl)
end Go.Proofs.YtndmakimkghihabDoor.fnExactReadTemperament

namespace Go.Proofs.YtndmakimkghihabDoor
/-- The given card. -/
theorem fnExactReadTemperament_holds : Rows.FnExactReadTemperamentCardSaid :=
  Claim7.holds_tied_plain_at .later [] _ _ _ _ fnExactReadTemperament.said (fun _ h => by cases h) (by kernel_rfl) (fun _ h => by cases h) fnExactReadTemperament_row_tie rfl ⟨rfl, rfl⟩ (by kernel_rfl) rfl fnExactReadTemperament.plain (by kernel_rfl)
#print axioms fnExactReadTemperament_holds
end Go.Proofs.YtndmakimkghihabDoor
