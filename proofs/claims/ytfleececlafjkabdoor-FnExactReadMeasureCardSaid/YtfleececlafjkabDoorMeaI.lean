/- The text of a measurement: the program's; a measurement as an argument. -/
import Derived.Test.YtfleececlafjkabDoorMeaT
import Derived.Test.YtfleececlafjkabDoorShelfC
import Derived.Lib.Join
set_option linter.unusedVariables false
namespace Go.Proofs.YtfleececlafjkabDoor
open Go.ChangeShapes Go.WideShapes Go.ChangeAt Go.RowKit Go.Deep

theorem results_cellM {P : Program} {fn : Func} {p : Tmp} {ty : TypeId} (h : fn.results = #[.cell p ty]) (tmps : Array Value) (w : World) :
    (results fn tmps).run P w = ((asAddr (tmps.getD p undef)).run P w).andThen fun a w1 => (loadVar ty a).run P w1 := by
  simp only [results, h]
  simp [Sem.run_bind, Result.andThen]
set_option maxHeartbeats 1000000 in
theorem meaValid_any (s : ByteArray) (k f : Int) (w : World) (hs : s.size ≤ maxLen) :
    Calls Tryd.prog 20 #[.agg #[.string s, .int .i64 k, .int .i64 f]] w fun e w' => e = .returned (.bool (meaB s k f)) ∧ Below w.heap.size w w' := by
  have HM := Lib.hid (mea_new w s k f 26)
  have hl : w.heap.size < (w.alloc (.cells #[.string s, .int .i64 k, .int .i64 f] 26)).heap.size := by simp
  have HB := Lib.hid ((Below.refl w.heap.size w).alloc (Nat.le_refl _) (.cells #[.string s, .int .i64 k, .int .i64 f] 26))
  rcases Bool.eq_false_or_eq_true (nameB s) with h1 | h1
  · have H1 := Lib.hid h1
    rcases Bool.eq_false_or_eq_true (inB k 1 5) with h2 | h2
    · have H2 := Lib.hid h2
      have HF := Lib.hid (show meaB s k f = okF f by unfold meaB; rw [h1, h2]; rfl)
      clear h1 h2
      go_enter Tryd.func20, Tryd.ntmps20
      go_wp2_with fail
      generalize (w.alloc (.cells #[.string s, .int .i64 k, .int .i64 f] 26)) = wA at *
      refine (implIsName_any s _ hs).mono ?_
      rintro e w2 ⟨rfl, hb⟩
      rw [H1.out]
      obtain ⟨c0, c1, c2⟩ := mea_kept hb hl HM.out
      have hl2 := Nat.lt_of_lt_of_le hl hb.size
      have HB2 := Lib.hid (below_of HB.out hb HB.out.size)
      clear hb
      go_wp2_with fail
      refine (isPartial_any k _).mono ?_
      rintro e w3 ⟨rfl, hb⟩
      rw [H2.out]
      obtain ⟨d0, d1, d2⟩ := mea_kept hb hl2 ⟨c0, c1, c2⟩
      have HB3 := Lib.hid (below_of HB2.out hb HB2.out.size)
      clear hb c0 c1 c2
      go_wp2_with fail
      refine (implIsFrequency_any f _).mono ?_
      rintro e w4 ⟨rfl, hb⟩
      have HB4 := Lib.hid (below_of HB3.out hb HB3.out.size)
      clear hb
      go_wp2
      go_ret
      exact ⟨ret_bool HF.out.symm, HB4.out⟩
    · have H2 := Lib.hid h2
      have HF := Lib.hid (show meaB s k f = false by unfold meaB; rw [h1, h2]; rfl)
      clear h1 h2
      go_enter Tryd.func20, Tryd.ntmps20
      go_wp2_with fail
      generalize (w.alloc (.cells #[.string s, .int .i64 k, .int .i64 f] 26)) = wA at *
      refine (implIsName_any s _ hs).mono ?_
      rintro e w2 ⟨rfl, hb⟩
      rw [H1.out]
      obtain ⟨c0, c1, c2⟩ := mea_kept hb hl HM.out
      have HB2 := Lib.hid (below_of HB.out hb HB.out.size)
      clear hb
      go_wp2_with fail
      refine (isPartial_any k _).mono ?_
      rintro e w3 ⟨rfl, hb⟩
      rw [H2.out]
      have HB3 := Lib.hid (below_of HB2.out hb HB2.out.size)
      clear hb c0 c1 c2
      go_wp2
      go_ret
      exact ⟨ret_bool HF.out.symm, HB3.out⟩
  · have H1 := Lib.hid h1
    have HF := Lib.hid (show meaB s k f = false by unfold meaB; rw [h1]; rfl)
    clear h1
    go_enter Tryd.func20, Tryd.ntmps20
    go_wp2_with fail
    generalize (w.alloc (.cells #[.string s, .int .i64 k, .int .i64 f] 26)) = wA at *
    refine (implIsName_any s _ hs).mono ?_
    rintro e w2 ⟨rfl, hb⟩
    rw [H1.out]
    have HB2 := Lib.hid (below_of HB.out hb HB.out.size)
    clear hb
    go_wp2
    go_ret
    exact ⟨ret_bool HF.out.symm, HB2.out⟩
theorem app_listM (a b : ByteArray) : (a ++ b).data.toList = a.data.toList ++ b.data.toList := by simp
theorem join_three (a b c : ByteArray) : (⟨(Lib.join ([a, b, c].map (·.data.toList)) (⟨#[32]⟩ : ByteArray).data.toList).toArray⟩ : ByteArray) = a ++ (⟨#[32]⟩ : ByteArray) ++ b ++ (⟨#[32]⟩ : ByteArray) ++ c := by
  have e : ∀ l : List UInt8, (⟨l.toArray⟩ : ByteArray).data.toList = l := fun l => by simp
  apply ByteArray.ext
  apply Array.ext'
  rw [e]
  simp only [app_listM, List.map_cons, List.map_nil, Lib.join_cons, Lib.joinTail]
  simp
theorem join_three_len (a b c : ByteArray) : (Lib.join ([a, b, c].map (·.data.toList)) (⟨#[32]⟩ : ByteArray).data.toList).length = a.size + 1 + b.size + 1 + c.size := by
  have h := congrArg ByteArray.size (join_three a b c)
  have e : ∀ l : List UInt8, (⟨l.toArray⟩ : ByteArray).size = l.length := fun l => by show l.toArray.size = _; simp
  rw [e] at h
  rw [h]
  have e1 : (⟨#[32]⟩ : ByteArray).size = 1 := rfl
  simp only [ByteArray.size_append, e1]
theorem cellM3 (w : World) (a b c : ByteArray) (T : TypeId) (g : Nat) (hg : g = w.heap.size) : ∀ (j : Nat) (x : ByteArray), [a, b, c][j]? = some x → (w.alloc (.cells #[.string a, .string b, .string c] T)).cell? ⟨g, 0 + j, none⟩ = some (.string x) := by
  subst hg
  intro j x hj
  match j, hj with
  | 0, hj => simp at hj; subst hj; go_simp
  | 1, hj => simp at hj; subst hj; go_simp
  | 2, hj => simp at hj; subst hj; go_simp
  | j + 3, hj => simp at hj
theorem meaS_next {w w' w2 : World} {p : Nat} {x y z : Value}
    (h : w'.cell? ⟨p, 0, none⟩ = some x ∧ w'.cell? ⟨p, 1, none⟩ = some y ∧ w'.cell? ⟨p, 2, none⟩ = some z ∧ p < w'.heap.size ∧ Below w.heap.size w w') (hb : Below w'.heap.size w' w2) :
    w2.cell? ⟨p, 0, none⟩ = some x ∧ w2.cell? ⟨p, 1, none⟩ = some y ∧ w2.cell? ⟨p, 2, none⟩ = some z ∧ p < w2.heap.size ∧ Below w.heap.size w w2 :=
  ⟨(below_cell hb _ _ h.2.2.2.1).trans h.1, (below_cell hb _ _ h.2.2.2.1).trans h.2.1, (below_cell hb _ _ h.2.2.2.1).trans h.2.2.1, Nat.lt_of_lt_of_le h.2.2.2.1 hb.size, below_of h.2.2.2.2 hb h.2.2.2.2.size⟩
theorem meaS_al {w w' : World} {p : Nat} {x y z : Value} {o : Obj}
    (h : w'.cell? ⟨p, 0, none⟩ = some x ∧ w'.cell? ⟨p, 1, none⟩ = some y ∧ w'.cell? ⟨p, 2, none⟩ = some z ∧ p < w'.heap.size ∧ Below w.heap.size w w') :
    (w'.alloc o).cell? ⟨p, 0, none⟩ = some x ∧ (w'.alloc o).cell? ⟨p, 1, none⟩ = some y ∧ (w'.alloc o).cell? ⟨p, 2, none⟩ = some z ∧ p < (w'.alloc o).heap.size ∧ Below w.heap.size w (w'.alloc o) :=
  meaS_next h ((Below.refl _ _).alloc (Nat.le_refl _) o)
set_option maxRecDepth 20000 in
set_option maxHeartbeats 4000000 in
theorem implMT_yes (s : ByteArray) (k f : Int) (w : World) (hs : s.size ≤ maxLen) (hv : meaB s k f = true) (hp : Hid (PowOk w ∧ PartOk w)) :
    Calls Tryd.prog 9 #[.agg #[.string s, .int .i64 k, .int .i64 f]] w fun e w' => e = .returned (.string (meaT s k f)) ∧ Below w.heap.size w w' := by
  have HM := Lib.hid (mea_new w s k f 26)
  have hl : w.heap.size < (w.alloc (.cells #[.string s, .int .i64 k, .int .i64 f] 26)).heap.size := by simp
  have HB := Lib.hid ((Below.refl w.heap.size w).alloc (Nat.le_refl _) (.cells #[.string s, .int .i64 k, .int .i64 f] 26))
  have H1 := Lib.hid hv
  obtain ⟨v1, v2, v3⟩ := mea_iff.1 hv
  obtain ⟨f0, f1⟩ := okF_iff.1 v3
  have z1 := nameM_size v1
  have z2 := pnT_size k
  have z3 := hzT_size f.toNat (by omega)
  have HN := Lib.hid (show meaT s k f = s ++ (⟨#[32]⟩ : ByteArray) ++ pnT k ++ (⟨#[32]⟩ : ByteArray) ++ hzT f.toNat from rfl)
  have HP := Lib.hid (fun w (h : PartOk w) => implPartName_any k w (Lib.hid h))
  have HH := Lib.hid (fun w (h : PowOk w) => implHertzText_any f w (Lib.hid h))
  rw [if_pos v3] at HH
  generalize pnT k = tp at *
  generalize hzT f.toNat = th at *
  have HJL := Lib.hid (join_three_len s tp th)
  have HJE := Lib.hid (show (⟨(Lib.join [s.data.toList, tp.data.toList, th.data.toList] [32]).toArray⟩ : ByteArray) = s ++ (⟨#[32]⟩ : ByteArray) ++ tp ++ (⟨#[32]⟩ : ByteArray) ++ th from join_three s tp th)
  clear v1 v2 v3 hv
  go_enter Tryd.func9, Tryd.ntmps9
  go_wp2_with fail
  generalize (w.alloc (.cells #[.string s, .int .i64 k, .int .i64 f] 26)) = wA at *
  refine (meaValid_any s k f _ hs).mono ?_
  rintro e w2 ⟨rfl, hb⟩
  rw [H1.out]
  obtain ⟨c0, c1, c2⟩ := mea_kept hb hl HM.out
  have hl2 := Nat.lt_of_lt_of_le hl hb.size
  have HB2 := Lib.hid (below_of HB.out hb HB.out.size)
  have HPO := Lib.hid (show PowOk w2 from pow_kept HB2.out hp.out.1)
  have HPA := Lib.hid (show PartOk w2 from part_kept HB2.out hp.out.2)
  clear hb
  go_wp2
  have HS0 := Lib.hid (show w2.drew.cell? ⟨w.heap.size, 0, none⟩ = some (.string s) ∧ w2.drew.cell? ⟨w.heap.size, 1, none⟩ = some (.int .i64 k) ∧ w2.drew.cell? ⟨w.heap.size, 2, none⟩ = some (.int .i64 f) ∧ w.heap.size < w2.drew.heap.size ∧ Below w2.heap.size w2 w2.drew from ⟨c0, c1, c2, hl2, ⟨rfl, rfl, rfl, Nat.le_refl _, fun _ _ => rfl⟩⟩)
  go_region_held3 (fun w' => w'.cell? ⟨w.heap.size, 0, none⟩ = some (.string s) ∧ w'.cell? ⟨w.heap.size, 1, none⟩ = some (.int .i64 k) ∧ w'.cell? ⟨w.heap.size, 2, none⟩ = some (.int .i64 f) ∧ w.heap.size < w'.heap.size ∧ Below w2.heap.size w2 w')
    (first | exact HS0.out | assumption | exact meaS_al hs7)
    (first
      | (go_at_call 22; refine (HP.out _ (part_kept HS0.out.2.2.2.2 HPA.out)).mono ?_; rintro e w6 ⟨rfl, hb6⟩; have hs6 := meaS_next HS0.out hb6)
      | (go_at_call 23; refine (HH.out _ (pow_kept hs6.2.2.2.2 HPO.out)).mono ?_; rintro e w7 ⟨rfl, hb7⟩; have hs7 := meaS_next hs6 hb7)
      | (go_at_call 21; refine (Tryd.strings_Join w7.heap.size 0 3 [s, tp, th] ⟨#[32]⟩ _ (cellM3 _ _ _ _ _ _ rfl) (by simp) (by simp) (by simp) (by rw [HJL.out]; omega)).mono ?_; rintro e w8 ⟨rfl, hb8⟩; have hs8 := meaS_next (meaS_al hs7) hb8))
  have HB8 := Lib.hid (below_of HB2.out hs8.2.2.2.2 HB2.out.size)
  rw [HJE.out]
  clear hs6 hs7 hs8 hb6 hb7 hb8
  go_wp2
  go_ret
  exact ⟨ret_strM HN.out.symm, HB8.out⟩
theorem implMT_any (s : ByteArray) (k f : Int) (w : World) (hs : s.size ≤ maxLen) (hp : Hid (PowOk w ∧ PartOk w)) :
    Calls Tryd.prog 9 #[.agg #[.string s, .int .i64 k, .int .i64 f]] w fun e w' => e = .returned (.string (meaV s k f)) ∧ Below w.heap.size w w' := by
  rcases Bool.eq_false_or_eq_true (meaB s k f) with h1 | h1
  · rw [show meaV s k f = meaT s k f by unfold meaV; rw [if_pos h1]]
    exact implMT_yes s k f w hs h1 hp
  · have H1 := Lib.hid h1
    have HB := Lib.hid ((Below.refl w.heap.size w).alloc (Nat.le_refl _) (.cells #[.string s, .int .i64 k, .int .i64 f] 26))
    have HR := Lib.hid (show meaV s k f = ByteArray.empty by unfold meaV; rw [if_neg (by rw [h1]; simp)])
    rw [HR.out]
    clear h1 hp
    go_enter Tryd.func9, Tryd.ntmps9
    go_wp2_with fail
    generalize (w.alloc (.cells #[.string s, .int .i64 k, .int .i64 f] 26)) = wA at *
    refine (meaValid_any s k f _ hs).mono ?_
    rintro e w2 ⟨rfl, hb⟩
    rw [H1.out]
    have HB2 := Lib.hid (below_of HB.out hb HB.out.size)
    clear hb
    go_wp2
    go_ret
    exact ⟨rfl, HB2.out⟩
set_option maxHeartbeats 1000000 in
theorem toMeasure_any (s : ByteArray) (k f : Int) (w : World) :
    Calls Tryd.prog 8 #[.agg #[.string s, .int .i64 k, .int .i64 f]] w fun e w' => e = .returned (.agg #[.string s, .int .i64 k, .int .i64 f]) ∧ Below w.heap.size w w' := by
  go_enter Tryd.func8, Tryd.ntmps8
  go_wp2
  try simp only [Exit.inBlock, Exit.then]
  refine bodyPost_ret_by (v := .agg #[.string s, .int .i64 k, .int .i64 f]) (by rw [results_cellM rfl]; go_simp) rfl ?_
  exact ⟨rfl, (((Below.refl _ _).alloc (Nat.le_refl _) _).alloc (by simp) _).alloc (by simp <;> omega) _⟩
theorem szMeasure_any (s : ByteArray) (k f left : Int) (w : World) (hs : s.size ≤ 9223372036854775807) (h0 : 0 ≤ left) (h1 : left ≤ 1048576) :
    Calls Tryd.prog 6 #[.agg #[.string s, .int .i64 k, .int .i64 f], .int .i64 left] w fun e w' => e = .returned (.int .i64 (if left - (s.size : Int) < 0 then -1 else left - s.size)) ∧ Below w.heap.size w w' := by
  by_cases h : left - (s.size : Int) < 0
  · rw [if_pos h]
    go_enter Tryd.func6, Tryd.ntmps6
    go_wp2
    go_ret
    exact ⟨rfl, (Below.refl _ _).alloc (Nat.le_refl _) _⟩
  · rw [if_neg h]
    go_enter Tryd.func6, Tryd.ntmps6
    go_wp2
    go_ret
    exact ⟨rfl, (Below.refl _ _).alloc (Nat.le_refl _) _⟩
theorem arrayM3 {α : Type} {cs : Array α} (h : cs.size = 3) : ∃ c0 c1 c2, cs = #[c0, c1, c2] := by
  obtain ⟨l⟩ := cs
  match l, h with
  | [c0, c1, c2], _ => exact ⟨c0, c1, c2, rfl⟩
set_option maxRecDepth 20000 in
/-- An argument of type Measure. -/
theorem measure_arg {H : Type} {enc : TypeId × Value → H} {W : World} {base : Nat} {v : Value} {d : DataW H} {p : List MemPlace} (hval : Value.okWide Tryd.prog W .any base 23 v) (h : DataW.Trod enc Tryd.prog W 0 (fun _ => true) true 23 v d p) :
    ∃ (s : ByteArray) (k f : Int), v = .agg #[.string s, .int .i64 k, .int .i64 f] ∧ (s.size ≤ 9223372036854775807 ∧ (Lit.int .i64 k).wf = true ∧ (Lit.int .i64 f).wf = true) := by
  obtain ⟨cs, rfl, hsz⟩ := okWide_struct Tryd.underlying23 hval
  obtain ⟨v0, v1, v2, rfl⟩ := arrayM3 (hsz.trans (by kernel_rfl))
  obtain ⟨fuel, hf⟩ := h
  obtain ⟨y0, y1, y2, n, -, -, h0, h1, h2⟩ := trod_struct3 Tryd.underlying23 hf
  have es : Tryd.prog.cellsOf 9 = 1 := by kernel_rfl
  have e1 : Tryd.prog.cellsOf 2 = 1 := by kernel_rfl
  dsimp only at h0 h1 h2
  rw [es] at h0
  rw [e1] at h1 h2
  have h0' : DataW.trod enc Tryd.prog W 0 (fun _ => true) true n 9 [v0] = some y0 := h0
  have h1' : DataW.trod enc Tryd.prog W 0 (fun _ => true) true n 2 [v1] = some y1 := h1
  have h2' : DataW.trod enc Tryd.prog W 0 (fun _ => true) true n 2 [v2] = some y2 := h2
  obtain ⟨s, hs, -, hsz2⟩ := DataW.trod_string Tryd.underlying9 h0'
  obtain ⟨k, hk, -, wk⟩ := DataW.trod_int Tryd.underlying2 h1'
  obtain ⟨f, hf', -, wf⟩ := DataW.trod_int Tryd.underlying2 h2'
  obtain rfl : v0 = .string s := by simpa using hs
  obtain rfl : v1 = .int .i64 k := by simpa using hk
  obtain rfl : v2 = .int .i64 f := by simpa using hf'
  unfold maxLen at hsz2
  exact ⟨s, k, f, rfl, by omega, wk, wf⟩
end Go.Proofs.YtfleececlafjkabDoor
