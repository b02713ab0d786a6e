/- ReadList: the program's walk. -/
import Derived.Test.YtikoehjalcljnaaDoorReadSpec
import Derived.Test.YtikoehjalcljnaaDoorParts
import Derived.Test.YtikoehjalcljnaaDoorShelfD
namespace Go.Proofs.YtikoehjalcljnaaDoor
open Go.ChangeShapes Go.WideShapes Go.ChangeAt Go.RowKit

/-- The variables that the program's reading of a list looks into. -/
def MaxOk (w : World) : Prop := ∃ m, w.cell? ⟨0, 0, none⟩ = some (.int .i64 m)
structure ListOk (w : World) : Prop where
  rd : ReadOk w
  mx : MaxOk w
theorem max_kept {W W' : World} (hb : Below W.heap.size W W') (h : MaxOk W) : MaxOk W' := by
  obtain ⟨m, hm⟩ := h
  exact ⟨m, by rw [hb.cell (p := ⟨_, 0, none⟩) (Lib.lt_of_cell hm)]; exact hm⟩
theorem list_kept {W W' : World} (hb : Below W.heap.size W W') (h : ListOk W) : ListOk W' := ⟨read_kept hb h.rd, max_kept hb h.mx⟩
theorem max_of {W : World} (h : W.ShapedOpen Tryd.prog) : MaxOk W := Tryd.laysM147.s1_3 W h

theorem mxP_kept {W W' : World} (hb : Below W.heap.size W W') (h : MaxOk W) : MaxOk W' := max_kept hb h
theorem splitNL_any (s : ByteArray) (w : World) (hm : MaxOk w) (hs : s.size ≤ 1048576) :
    Calls Tryd.prog 35 #[.string s, .string ⟨#[44]⟩, .int .i64 65] w fun e w' => ∃ (g cap : Nat) (qs : List ByteArray), e = .returned (.slice (some ⟨g, 0, none⟩) qs.length cap) ∧ qs.map (·.data.toList) = Lib.splitK [44] 0 (min 65 (s.data.toList.length + 1) - 1) s.data.toList ∧
      g < w'.heap.size ∧ (∀ j, j < qs.length → w'.cell? ⟨g, j, none⟩ = some (.string (qs.getD j ByteArray.empty))) ∧ Below w.heap.size w w' := by
  obtain ⟨m, hm⟩ := hm
  refine (Tryd.strings_SplitN s ⟨#[44]⟩ 65 m w (by omega) hm (by decide) (by decide) (by decide)).mono ?_
  rintro e w' ⟨rfl, rfl⟩
  refine ⟨w.heap.size, _, Lib.splitB ⟨#[44]⟩ 0 (min 65 (s.size + 1) - 1) s, rfl, ?_, by simp, fun j hj => ?_, (Below.refl _ _).alloc (Nat.le_refl _) _⟩
  · rw [Lib.splitB_data, size_list]
  · rw [World.cell?_alloc_new]
    unfold Lib.cellsOf
    rw [List.getElem?_toArray, List.getElem?_append_left (by simpa using hj), List.getElem?_map, List.getD_eq_getElem?_getD, List.getElem?_eq_getElem hj]
    rfl


theorem partsL_many {s : ByteArray} {qs : List ByteArray} (hq : qs.map (·.data.toList) = Lib.splitK [44] 0 (min 65 (s.data.toList.length + 1) - 1) s.data.toList) (h : 64 < qs.length) : 64 < (splitL 44 s.data.toList).length := by
  by_cases hc : 64 < (splitL 44 s.data.toList).length
  · exact hc
  · have e := (split65 44 s.data.toList).2 (by omega)
    rw [← hq] at e
    have := congrArg List.length e
    rw [List.length_map] at this
    omega
theorem partsL_few {s : ByteArray} {qs : List ByteArray} (hq : qs.map (·.data.toList) = Lib.splitK [44] 0 (min 65 (s.data.toList.length + 1) - 1) s.data.toList) (h : ¬ 64 < qs.length) : qs.map (·.data.toList) = splitL 44 s.data.toList := by
  have hc : ¬ 64 < (splitL 44 s.data.toList).length := by
    intro hc
    have := (split65 44 s.data.toList).1 hc
    rw [← hq, List.length_map] at this
    exact h this
  have e := (split65 44 s.data.toList).2 (by omega)
  rwa [← hq] at e
theorem cells_one (w : World) (x : Int) (T : TypeId) (n : Nat) (hn : n = w.heap.size) : ∀ j, j < 1 → (w.alloc (.cells #[.int .i64 x] T)).cell? ⟨n, 0 + j, none⟩ = some (.int .i64 ([x].getD j 0)) := by
  subst hn
  intro j hj
  match j, hj with
  | 0, _ => go_simp
theorem in_one (lo hi c : Int) : allIn lo hi [c] = inB c lo hi := by simp [allIn]
set_option maxRecDepth 20000 in
set_option maxHeartbeats 1000000 in
theorem readerL_any (q : ByteArray) (w : World) (hs : q.size ≤ 1048576) (hp : Hid (ReadOk w)) (_hm : Hid (MaxOk w)) :
    Calls Tryd.prog 49 #[.string q] w fun e w' => (∃ v, e = .returned (.tuple #[.int .i64 v, .bool (numIn q.data.toList).isSome]) ∧ ∀ x, numIn q.data.toList = some x → v = x) ∧ Below w.heap.size w w' := by
  by_cases ho : numOk q = true
  · rcases Bool.eq_false_or_eq_true (inB (numV q) (-1000000000000) 1000000000000) with hin | hin
    · have HY := Lib.hid (numIn_yes hin ho)
      have HIN := Lib.hid hin
      clear hin
      go_enter Tryd.func49, Tryd.ntmps49
      go_wp2_with fail
      refine (implReadDecimal_any q _ hs hp).mono ?_
      rintro e w3 ⟨hr, hb3⟩
      unfold NumRet at hr
      subst hr
      have HB3 := Lib.hid hb3
      clear hb3
      generalize numV q = z at *
      go_wp2_with fail
      refine (within_i64 _ _ [z] _ 0 1 1 _ rfl (by omega) (cells_one _ _ _ _ rfl)).mono ?_
      rintro e w5 ⟨rfl, rfl⟩
      rw [in_one, HIN.out]
      go_wp2
      go_ret2
      exact ⟨⟨z, by rw [HY.out]; rfl, fun x hx => by rw [HY.out] at hx; exact Option.some.inj hx⟩, HB3.out.alloc HB3.out.size _⟩
    · have HY := Lib.hid (numIn_out hin)
      have HIN := Lib.hid hin
      clear hin
      go_enter Tryd.func49, Tryd.ntmps49
      go_wp2_with fail
      refine (implReadDecimal_any q _ hs hp).mono ?_
      rintro e w3 ⟨hr, hb3⟩
      unfold NumRet at hr
      subst hr
      have HB3 := Lib.hid hb3
      clear hb3
      generalize numV q = z at *
      go_wp2_with fail
      refine (within_i64 _ _ [z] _ 0 1 1 _ rfl (by omega) (cells_one _ _ _ _ rfl)).mono ?_
      rintro e w5 ⟨rfl, rfl⟩
      rw [in_one, HIN.out]
      go_wp2
      go_ret2
      exact ⟨⟨z, by rw [HY.out]; rfl, fun x hx => by rw [HY.out] at hx; cases hx⟩, HB3.out.alloc HB3.out.size _⟩
  · have ho' : numOk q = false := by simpa using ho
    have HY := Lib.hid (numIn_no ho')
    clear ho
    go_enter Tryd.func49, Tryd.ntmps49
    go_wp2_with fail
    refine (implReadDecimal_any q _ hs hp).mono ?_
    rintro e w3 ⟨hr, hb3⟩
    unfold NumRet at hr
    subst hr
    have HB3 := Lib.hid hb3
    clear hb3
    generalize numV q = z at *
    go_wp2
    go_ret2
    exact ⟨⟨z, by rw [HY.out]; rfl, fun x hx => by rw [HY.out] at hx; cases hx⟩, HB3.out⟩
set_option maxRecDepth 20000 in
set_option maxHeartbeats 2000000 in
theorem readPartsL_any (s : ByteArray) (w : World) (hs : s.size ≤ 1048576) (hp : Hid (ReadOk w)) (hmx : Hid (MaxOk w)) :
    Calls Tryd.prog 48 #[.string s, .string ⟨#[44]⟩, .int .i64 64, .func (.func 49) #[] #[]] w (PartsPost (fun q => numIn q.data.toList) 44 64 s w) := by
  obtain ⟨i0, hi, hz0, hz1, hz2⟩ := info_parts infoI64
  have HF : Hid (∀ (q : ByteArray) (w1 : World), q.size ≤ 1048576 → Hid (ReadOk w1) → Hid (MaxOk w1) → Calls Tryd.prog 49 #[.string q] w1 fun e w' => (∃ v, e = .returned (.tuple #[.int .i64 v, .bool ((fun q => numIn q.data.toList) q).isSome]) ∧ ∀ x, (fun q => numIn q.data.toList) q = some x → v = x) ∧ Below w1.heap.size w1 w') := Lib.hid (fun q w1 h1 h2 h3 => readerL_any q w1 h1 h2 h3)
  go_enter Tryd.func48, Tryd.ntmps48
  go_wp2_with fail
  refine (splitNL_any s _ hmx.out hs).mono ?_
  rintro e w1 ⟨g1, c1, qs, rfl, hqs, hlt1, hcells, hb1⟩
  obtain ⟨n, hn⟩ : ∃ n, qs.length = n := ⟨_, rfl⟩
  rw [hn] at hcells ⊢
  have HN := Lib.hid hn
  have HQS := Lib.hid hqs
  have HCE := Lib.hid hcells
  have HB1 := Lib.hid hb1
  have hsz1 := hb1.size
  clear hqs hcells hb1 hn
  by_cases h64 : 64 < n
  · have HV := Lib.hid (partsL_many HQS.out (by rw [HN.out]; exact h64))
    have h64i : (64 : Int) < (n : Int) := by omega
    go_wp2
    go_ret2
    exact ⟨HB1.out, .inl ⟨rfl, .inl HV.out⟩⟩
  · have HV := Lib.hid (partsL_few HQS.out (by rw [HN.out]; exact h64))
    have hk1 : 1 ≤ n := by
      have h0 := splitL_ne 44 s.data.toList
      rw [← HV.out] at h0
      cases hq : qs with
      | nil => rw [hq] at h0; exact absurd rfl h0
      | cons a l => have := HN.out; rw [hq] at this; simp at this; omega
    have h64i : ¬ (64 : Int) < (n : Int) := by omega
    go_wp2_with (at_make; refine wpList_make_full _ rfl _ _ 58 rfl w1.heap.size 2 i0 (.int .i64 0) 1 Tryd.underlying58 hi hz0 hz1 .i64 .i64 _ _ n rfl rfl rfl rfl (by rw [hz2]; omega) (by unfold maxLen; omega) (Nat.le_refl _) ?_; intro w0 hown hgrow)
    have HB0 := Lib.hid ((Below.refl w1.heap.size w1).grown hgrow (Nat.le_refl _) (fun k hk => by cases hk))
    rw [made_ints] at hown
    have HO0 := Lib.hid (show w0.ownsRow w1.heap.size 2 1 (.slice (some ⟨w1.heap.size, 0, none⟩) n n) n (i64s (filledP [] n)) by unfold filledP; rw [List.length_nil, Nat.sub_zero, List.nil_append]; exact hown)
    clear hgrow hown
    go_wp2
    go_loopw [30] (fun i wr => ∃ (k : Nat) (zs : List Int), k ≤ n ∧ i = .int .i64 k ∧ Hid (zs.length = k) ∧ Hid (∀ j, j < k → (fun q => numIn q.data.toList) (qs.getD j ByteArray.empty) = some (zs.getD j 0)) ∧ wr.ownsRow w1.heap.size 2 1 (.slice (some ⟨w1.heap.size, 0, none⟩) n n) n (i64s (filledP zs n)) ∧ Below w1.heap.size w1 wr) (fun i _ => n - (intOf i).toNat)
    case atStart => exact ⟨0, [], by omega, rfl, rfl, fun j hj => by omega, HO0.out, HB0.out⟩
    case round =>
      obtain ⟨k, zs, hk, rfl, HL, HA, hown, hbw⟩ := hrel
      have HO := Lib.hid hown
      have HB := Lib.hid hbw
      have hsz := hbw.size
      by_cases hlt : k < n
      · have hcell : wr.cell? ⟨g1, k, none⟩ = some (.string (qs.getD k ByteArray.empty)) := by rw [hbw.cell (p := ⟨g1, k, none⟩) hlt1]; exact HCE.out k hlt
        have hq := partP_size HV.out k (by rw [HN.out]; exact hlt)
        have HP := Lib.hid (read_kept (HB1.out.trans (hbw.mono hsz1)) hp.out)
        have HMX := Lib.hid (mxP_kept (HB1.out.trans (hbw.mono hsz1)) hmx.out)
        have HNO := Lib.hid (show (fun q => numIn q.data.toList) (qs.getD k ByteArray.empty) = none → ∃ (ps : List ByteArray) (k : Nat), ps.map (·.data.toList) = splitL 44 s.data.toList ∧ k < ps.length ∧ (fun q => numIn q.data.toList) (ps.getD k ByteArray.empty) = none from fun h => ⟨qs, k, HV.out, by rw [HN.out]; exact hlt, h⟩)
        have HKEEP := Lib.hid (show ∀ z, (fun q => numIn q.data.toList) (qs.getD k ByteArray.empty) = some z → ∀ j, j < k + 1 → (fun q => numIn q.data.toList) (qs.getD j ByteArray.empty) = some ((zs ++ [z]).getD j 0) from fun z hz j hj => by
          by_cases e : j = k
          · subst e
            rw [hz, snocP_last zs z j HL.out]
          · rw [snocP_get zs z j (by rw [HL.out]; omega)]; exact HA.out j (by omega))
        have hkn : (k : Int) < (n : Int) := by omega
        have hk0 : (0 : Int) ≤ (k : Int) := by omega
        clear hown hbw
        generalize qs.getD k ByteArray.empty = q at *
        obtain ⟨r, hr⟩ : ∃ r, (fun q => numIn q.data.toList) q = r := ⟨_, rfl⟩
        rw [hr] at HNO HKEEP
        have HR := Lib.hid hr
        clear hr
        go_wp2_with fail
        refine (HF.out q _ (by omega) HP HMX).mono ?_
        rintro e w3 ⟨⟨z, rfl, hzr⟩, hb3⟩
        rw [HR.out] at hzr ⊢
        have HZR := Lib.hid hzr
        have HO3 := Lib.hid (rowP_keep hb3 HO.out)
        have HB3 := Lib.hid (below_of HB.out hb3 HB.out.size)
        have hs3 := hb3.size
        clear hb3 hcell hzr
        cases r with
        | none =>
          go_wp2
          go_ret2
          exact ⟨HB1.out.trans (HB3.out.mono hsz1), .inl ⟨rfl, .inr (HNO.out (by first | rfl | trivial))⟩⟩
        | some x =>
          obtain rfl : z = x := HZR.out x rfl
          have hw3 : w1.heap.size < w3.heap.size := (HO3.out.lt _ rfl).2
          have hf := HO3.out.frozenAt k
          have hat : w3.cell? ⟨w1.heap.size, k, none⟩ = (i64s (filledP zs n))[k]? := HO3.out.cellAt k (by omega)
          obtain ⟨old, hold⟩ := filledP_get zs n k HL.out hlt
          rw [hold] at hat
          have HS := Lib.hid (HO3.out.stored k (.int .i64 z))
          have HBS := Lib.hid (HB3.out.setCell (p := ⟨w1.heap.size, k, none⟩) (Nat.le_refl _) (.int .i64 z))
          have HFN := Lib.hid (filledP_next zs n k z HL.out hlt)
          have HKP := Lib.hid (HKEEP.out z rfl)
          clear hold HKEEP HNO HZR
          go_wp2
          go_roundw
          case rel => exact ⟨k + 1, zs ++ [z], by omega, by go_num, (show (zs ++ [z]).length = k + 1 by rw [List.length_append, HL.out]; rfl), HKP.out, by rw [← HFN.out]; exact HS.out.1, HBS.out⟩
          case measure => simp [intOf]; omega
      · obtain rfl : k = n := by omega
        clear hown hbw
        have hfl : filledP zs k = zs := by unfold filledP; rw [HL.out, Nat.sub_self]; simp
        rw [hfl] at HO
        clear hfl
        go_wp2
        go_ret2
        exact ⟨HB1.out.trans (HB.out.mono hsz1), .inr ⟨qs, zs, _, HV.out, by rw [HN.out]; omega, by rw [HL.out, HN.out], fun j hj => HA.out j (by rw [HN.out] at hj; exact hj), rfl, ownP_row HL.out (rowP_base HO.out hsz1)⟩⟩

set_option maxRecDepth 100000 in
set_option maxHeartbeats 1600000 in
theorem implReadList_any (s : ByteArray) (w : World) (hs : s.size ≤ 1048576) (hp : Hid (ListOk w)) :
    Calls Tryd.prog 31 #[.string s] w (ReadPost s w) := by
  by_cases hm : s = ⟨#[45]⟩
  · have HV := Lib.hid (show readV s.data.toList = some [] by unfold readV; rw [if_pos (minus_list hm)])
    subst hm
    go_enter Tryd.func31, Tryd.ntmps31
    go_wp2
    go_ret2
    exact ⟨(Below.refl _ _).alloc (Nat.le_refl _) _, .inr ⟨[], _, HV.out, by simp, rfl, own_of_row rfl (by simpa [i64s] using World.ownsRow_made w #[] 0 (Nat.le_refl _) (by simp) (by simp))⟩⟩
  · have hml : s.data.toList ≠ [45] := fun h => hm (bytes_same h)
    have hcmp : (s.toList == [45]) = false := beq_eq_false_iff_ne.2 (by rw [ByteArray.toList_eq]; exact hml)
    have HML := Lib.hid hml
    clear hm hml
    go_enter Tryd.func31, Tryd.ntmps31
    go_wp2_with fail
    refine (readPartsL_any s _ hs (Lib.hid hp.out.rd) (Lib.hid hp.out.mx)).mono ?_
    rintro e w1 ⟨hb, ⟨rfl, hn⟩ | ⟨ps, zs, v, hps, hl, hzl, hall, rfl, hown⟩⟩
    · have HB := Lib.hid hb
      have HV := Lib.hid (show readV s.data.toList = none by
        unfold readV
        rw [if_neg HML.out]
        by_cases h64 : 64 < (splitL 44 s.data.toList).length
        · rw [if_pos h64]
        · rw [if_neg h64]
          rcases hn with h | ⟨ps, k, h1, h2, h3⟩
          · exact absurd h h64
          · rw [← h1]
            exact nums_none _ k (by rw [List.length_map]; exact h2) (by rw [mapP_getD ps k h2]; exact h3))
      clear hb hn
      go_wp2
      go_ret2
      exact ⟨HB.out, .inl ⟨HV.out, rfl⟩⟩
    · have HB := Lib.hid hb
      have HV := Lib.hid (show readV s.data.toList = some zs by
        unfold readV
        rw [if_neg HML.out, if_neg (by rw [← hps, List.length_map]; omega), ← hps]
        exact nums_some _ zs (by rw [List.length_map]; exact hzl) (fun j hj => by
          rw [List.length_map] at hj
          rw [mapP_getD ps j hj]; exact hall j hj))
      have HO := Lib.hid hown
      have HL := Lib.hid (show zs.length ≤ 64 by omega)
      clear hb hps hl hzl hall hown
      go_wp2
      go_ret2
      exact ⟨HB.out, .inr ⟨zs, v, HV.out, HL.out, rfl, HO.out⟩⟩
end Go.Proofs.YtikoehjalcljnaaDoor
