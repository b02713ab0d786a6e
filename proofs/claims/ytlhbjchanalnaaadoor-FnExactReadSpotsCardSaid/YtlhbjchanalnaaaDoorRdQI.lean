/- Spots read back from their text: the program's parts. -/
import Derived.Test.YtlhbjchanalnaaaDoorRdQS
import Derived.Test.YtlhbjchanalnaaaDoorSpotI
import Derived.Test.YtlhbjchanalnaaaDoorShelfD
import Derived.Test.YtlhbjchanalnaaaDoorShelfG
set_option linter.unusedVariables false
namespace Go.Proofs.YtlhbjchanalnaaaDoor
open Go.ChangeShapes Go.WideShapes Go.ChangeAt Go.RowKit Go.Deep

def MaxOk (w : World) : Prop := ∃ m, w.cell? ⟨0, 0, none⟩ = some (.int .i64 m)
theorem mxQ_kept {W W' : World} (hb : Below W.heap.size W W') (h : MaxOk W) : MaxOk W' := by
  obtain ⟨m, hm⟩ := h
  exact ⟨m, by rw [hb.cell (p := ⟨_, 0, none⟩) (Lib.lt_of_cell hm)]; exact hm⟩
structure RqOk (W : World) : Prop where
  rd : ReadOk W
  mx : MaxOk W
theorem rq_kept {W W' : World} (hb : Below W.heap.size W W') (h : RqOk W) : RqOk W' := ⟨read_kept hb h.rd, mxQ_kept hb h.mx⟩
theorem cutQ_any (s : ByteArray) (w : World) (hs : s.size ≤ 1048576) (hm : Hid (MaxOk w)) :
    Calls Tryd.prog 19 #[.string s, .string ⟨#[58]⟩] w fun en w' => en = .returned (.tuple #[.string ⟨(Lib.cut s.data.toList [58]).1.toArray⟩, .string ⟨(Lib.cut s.data.toList [58]).2.1.toArray⟩, .bool (Lib.cut s.data.toList [58]).2.2]) ∧ Below w.heap.size w w' := by
  obtain ⟨mm, hmm⟩ := hm.out
  refine (Tryd.strings_Cut s ⟨#[58]⟩ mm _ (by omega) hmm).mono ?_
  rintro en w1 ⟨rfl, kd, rfl⟩
  exact ⟨rfl, below_drewN w kd⟩
/-- Block g holds no spot yet, and may be written. -/
def CleanQ (w : World) (g : Nat) : Prop := QIn w g 0 zQ ∧ w.frozen? ⟨g, 0, none⟩ = false ∧ w.frozen? ⟨g, 1, none⟩ = false
theorem cleanQ_kept {w w' : World} {B g : Nat} (hb : Below B w w') (hg : g < B) (h : CleanQ w g) : CleanQ w' g :=
  ⟨⟨by rw [hb.cell (p := ⟨g, 0, none⟩) hg]; exact h.1.c0, by rw [hb.cell (p := ⟨g, 0 + 1, none⟩) hg]; exact h.1.c1⟩, by rw [hb.frozen (p := ⟨g, 0, none⟩) hg]; exact h.2.1, by rw [hb.frozen (p := ⟨g, 1, none⟩) hg]; exact h.2.2⟩
theorem cleanQ_alloc (w : World) (T : TypeId) : CleanQ (w.alloc (.cells #[.int .i64 0, .int .i64 0] T)) w.heap.size :=
  ⟨⟨by unfold zQ; go_simp, by unfold zQ; go_simp⟩, by go_simp, by go_simp⟩
theorem rdQ_is (q : ByteArray) {a b : ByteArray} (ha : a.data.toList = (Lib.cut q.data.toList [58]).1) (hb : b.data.toList = (Lib.cut q.data.toList [58]).2.1) : rdQ q = if numOk a = true ∧ numOk b = true then some (numV a, numV b) else none := by
  unfold rdQ
  rw [rdQ_cut, ← ha, ← hb, pairQ_of]
set_option maxRecDepth 20000 in
set_option maxHeartbeats 2000000 in
theorem readSpot_any (q : ByteArray) (w : World) (hs : q.size ≤ 1048576) (hp : Hid (RqOk w)) :
    Calls Tryd.prog 13 #[.string q] w fun e w' => (∃ x y, e = .returned (.tuple #[.agg #[.int .i64 x, .int .i64 y], .bool (rdQ q).isSome]) ∧ ∀ z, rdQ q = some z → z = (x, y)) ∧ Below w.heap.size w w' := by
  obtain ⟨F1, F2⟩ := cut_len58 q.data.toList
  rw [size_list] at F1 F2
  obtain ⟨a, ha⟩ : ∃ a : ByteArray, (⟨(Lib.cut q.data.toList [58]).1.toArray⟩ : ByteArray) = a := ⟨_, rfl⟩
  obtain ⟨b, hb⟩ : ∃ b : ByteArray, (⟨(Lib.cut q.data.toList [58]).2.1.toArray⟩ : ByteArray) = b := ⟨_, rfl⟩
  have hda : a.data.toList = (Lib.cut q.data.toList [58]).1 := by rw [← ha]
  have hdb : b.data.toList = (Lib.cut q.data.toList [58]).2.1 := by rw [← hb]
  have HRD := Lib.hid (rdQ_is q hda hdb)
  have hza : a.size ≤ 1048576 := by rw [← size_list a, hda]; omega
  have hzb : b.size ≤ 1048576 := by rw [← size_list b, hdb]; omega
  have HC := Lib.hid (fun w (hm : Hid (MaxOk w)) => cutQ_any q w hs hm)
  rw [ha, hb] at HC
  generalize (Lib.cut q.data.toList [58]).2.2 = cc at *
  clear ha hb hda hdb F1 F2
  have HA := Lib.hid (fun w (h : Hid (ReadOk w)) => implReadDecimal_any a w hza h)
  have HBB := Lib.hid (fun w (h : Hid (ReadOk w)) => implReadDecimal_any b w hzb h)
  unfold NumRet at HA HBB
  generalize numV a = x at *
  generalize numV b = y at *
  generalize numOk a = oa at *
  generalize numOk b = ob at *
  have HE := Lib.hid (show (rdQ q).isSome = (oa && ob) ∧ ∀ z, rdQ q = some z → z = (x, y) by
    rw [HRD.out]
    cases oa <;> cases ob <;> simp <;> intro a b h1 h2 <;> subst h1 h2 <;> rfl)
  rw [HE.out.1]
  clear HRD hza hzb
  go_enter Tryd.func13, Tryd.ntmps13
  go_wp2_with fail
  have hc0 := cleanQ_alloc w 33
  have hcl : w.heap.size < (w.alloc (.cells #[.int .i64 0, .int .i64 0] 33)).heap.size := by rw [World.size_alloc]; omega
  have HBA := Lib.hid ((Below.refl w.heap.size w).alloc (Nat.le_refl _) (.cells #[.int .i64 0, .int .i64 0] 33))
  generalize w.alloc (.cells #[.int .i64 0, .int .i64 0] 33) = wA at *
  have HP0 := Lib.hid (rq_kept HBA.out hp.out)
  refine (HC.out _ (Lib.hid HP0.out.mx)).mono ?_
  rintro en w1 ⟨rfl, hb⟩
  have HX1 := Lib.hid (cleanQ_kept hb hcl hc0)
  have hcl1 := Nat.lt_of_lt_of_le hcl hb.size
  have HP1 := Lib.hid (rq_kept hb HP0.out)
  have HB1 := Lib.hid (below_of HBA.out hb HBA.out.size)
  clear hb hc0
  go_wp2_with fail
  refine (HA.out _ (Lib.hid HP1.out.rd)).mono ?_
  rintro en w2 ⟨rfl, hb⟩
  have HX2 := Lib.hid (cleanQ_kept hb hcl1 HX1.out)
  have hcl2 := Nat.lt_of_lt_of_le hcl1 hb.size
  have HP2 := Lib.hid (rq_kept hb HP1.out)
  have HB2 := Lib.hid (below_of HB1.out hb HB1.out.size)
  clear hb
  go_wp2_with fail
  refine (HBB.out _ (Lib.hid HP2.out.rd)).mono ?_
  rintro en w3 ⟨rfl, hb⟩
  obtain ⟨⟨c0, c1⟩, f0, f1⟩ := cleanQ_kept hb hcl2 HX2.out
  unfold zQ at c0 c1
  simp only [Nat.zero_add] at c1
  have HB3 := Lib.hid (below_of HB2.out hb HB2.out.size)
  clear hb
  cases oa
  · go_wp2
    try simp only [Exit.inBlock, Exit.then]
    refine bodyPost_ret_by (v := .tuple #[.agg #[.int .i64 x, .int .i64 y], .bool (false && ob)]) (by rw [results_cell_tmp rfl]; go_simp) rfl ?_
    exact ⟨⟨x, y, rfl, HE.out.2⟩, (HB3.out.setCell (Nat.le_refl _) _).setCell (Nat.le_refl _) _⟩
  · go_wp2
    try simp only [Exit.inBlock, Exit.then]
    refine bodyPost_ret_by (v := .tuple #[.agg #[.int .i64 x, .int .i64 y], .bool (true && ob)]) (by rw [results_cell_tmp rfl]; go_simp) rfl ?_
    exact ⟨⟨x, y, rfl, HE.out.2⟩, (HB3.out.setCell (Nat.le_refl _) _).setCell (Nat.le_refl _) _⟩
theorem split17 (c : UInt8) (l : List UInt8) : (16 < (splitL c l).length → 16 < (Lib.splitK [c] 0 (min 17 (l.length + 1) - 1) l).length) ∧ ((splitL c l).length ≤ 16 → Lib.splitK [c] 0 (min 17 (l.length + 1) - 1) l = splitL c l) := by
  have hl := splitL_len c l
  obtain ⟨h1, h2⟩ := splitK_spec c (min 17 (l.length + 1) - 1) l
  refine ⟨fun h => ?_, fun h => h1 (by omega)⟩
  by_cases h3 : (splitL c l).length ≤ min 17 (l.length + 1) - 1 + 1
  · rw [h1 h3]; exact h
  · rw [h2 (by omega)]; omega
theorem splitNQ_any (s : ByteArray) (w : World) (hm : MaxOk w) (hs : s.size ≤ 1048576) :
    Calls Tryd.prog 18 #[.string s, .string ⟨#[32]⟩, .int .i64 17] w fun e w' => ∃ (g cap : Nat) (qs : List ByteArray), e = .returned (.slice (some ⟨g, 0, none⟩) qs.length cap) ∧ qs.map (·.data.toList) = Lib.splitK [32] 0 (min 17 (s.data.toList.length + 1) - 1) s.data.toList ∧
      g < w'.heap.size ∧ (∀ j, j < qs.length → w'.cell? ⟨g, j, none⟩ = some (.string (qs.getD j ByteArray.empty))) ∧ Below w.heap.size w w' := by
  obtain ⟨m, hm⟩ := hm
  refine (Tryd.strings_SplitN s ⟨#[32]⟩ 17 m w (by omega) hm (by decide) (by decide) (by decide)).mono ?_
  rintro e w' ⟨rfl, rfl⟩
  refine ⟨w.heap.size, _, Lib.splitB ⟨#[32]⟩ 0 (min 17 (s.size + 1) - 1) s, rfl, ?_, by simp, fun j hj => ?_, (Below.refl _ _).alloc (Nat.le_refl _) _⟩
  · rw [Lib.splitB_data, size_list]
  · rw [World.cell?_alloc_new]
    unfold Lib.cellsOf
    rw [List.getElem?_toArray, List.getElem?_append_left (by simpa using hj), List.getElem?_map, List.getD_eq_getElem?_getD, List.getElem?_eq_getElem hj]
    rfl
theorem partsQ_many {s : ByteArray} {qs : List ByteArray} (hq : qs.map (·.data.toList) = Lib.splitK [32] 0 (min 17 (s.data.toList.length + 1) - 1) s.data.toList) (h : 16 < qs.length) : 16 < (splitL 32 s.data.toList).length := by
  by_cases hc : 16 < (splitL 32 s.data.toList).length
  · exact hc
  · have e := (split17 32 s.data.toList).2 (by omega)
    rw [← hq] at e
    have := congrArg List.length e
    rw [List.length_map] at this
    omega
theorem partsQ_few {s : ByteArray} {qs : List ByteArray} (hq : qs.map (·.data.toList) = Lib.splitK [32] 0 (min 17 (s.data.toList.length + 1) - 1) s.data.toList) (h : ¬ 16 < qs.length) : qs.map (·.data.toList) = splitL 32 s.data.toList := by
  have hc : ¬ 16 < (splitL 32 s.data.toList).length := by
    intro hc
    have := (split17 32 s.data.toList).1 hc
    rw [← hq, List.length_map] at this
    exact h this
  have e := (split17 32 s.data.toList).2 (by omega)
  rwa [← hq] at e
def fQ (zs : List Qt) (n : Nat) : List Qt := zs ++ List.replicate (n - zs.length) zQ
theorem fQ_next (zs : List Qt) (n k : Nat) (z : Qt) (hk : zs.length = k) (h : k < n) : (fQ zs n).set k z = fQ (zs ++ [z]) n := by
  unfold fQ
  rw [List.length_append, List.length_singleton, hk, show n - k = n - (k + 1) + 1 from by omega, List.replicate_succ, List.set_append_right _ _ (by simp [hk]), hk, Nat.sub_self, List.set_cons_zero]
  simp
theorem fQ_len (zs : List Qt) (n : Nat) (h : zs.length ≤ n) : (fQ zs n).length = n := by unfold fQ; rw [List.length_append, List.length_replicate]; omega
theorem fQ_all (zs : List Qt) (n : Nat) (h : zs.length = n) : fQ zs n = zs := by unfold fQ; rw [h, Nat.sub_self]; simp
theorem fQ_none (n : Nat) : fQ [] n = List.replicate n zQ := by unfold fQ; simp
/-- All parts of s are read, and there are no more than 16 of them; or none is answered. -/
def PartsQ (s : ByteArray) (w : World) (e : Ending) (w' : World) : Prop := Below w.heap.size w w' ∧
  ((e = .returned (.tuple #[.slice none 0 0, .bool false]) ∧ (16 < (splitL 32 s.data.toList).length ∨ ∃ (ps : List ByteArray) (k : Nat), ps.map (·.data.toList) = splitL 32 s.data.toList ∧ k < ps.length ∧ rdQ (ps.getD k ByteArray.empty) = none)) ∨
   ∃ (ps : List ByteArray) (zs : List Qt) (v : Value), ps.map (·.data.toList) = splitL 32 s.data.toList ∧ ps.length ≤ 16 ∧ zs.length = ps.length ∧ (∀ j, j < ps.length → rdQ (ps.getD j ByteArray.empty) = some (zs.getD j zQ)) ∧ e = .returned (.tuple #[v, .bool true]) ∧ RowQ w' w.heap.size v zs)
theorem rowQ_base {w : World} {B B' : Nat} {v : Value} {xs : List Qt} (h : RowQ w B v xs) (hB : B' ≤ B) : RowQ w B' v xs := by
  obtain ⟨h1, h2 | ⟨g, cap, cur, h3, h4, h5⟩⟩ := h
  · exact ⟨h1, .inl h2⟩
  · exact ⟨h1, .inr ⟨g, cap, cur, h3, Nat.le_trans hB h4, h5⟩⟩
set_option maxRecDepth 20000 in
set_option maxHeartbeats 2000000 in
theorem readPartsQ_any (s : ByteArray) (w : World) (hs : s.size ≤ 1048576) (hp : Hid (RqOk w)) :
    Calls Tryd.prog 12 #[.string s, .string ⟨#[32]⟩, .int .i64 16, .func (.func 13) #[] #[]] w (PartsQ s w) := by
  obtain ⟨i0, hi, hz0, hz1, hz2⟩ := info_parts infoQ
  have HF := Lib.hid (fun (q : ByteArray) (w1 : World) (h1 : q.size ≤ 1048576) (h2 : Hid (RqOk w1)) => readSpot_any q w1 h1 h2)
  go_enter Tryd.func12, Tryd.ntmps12
  go_wp2_with fail
  refine (splitNQ_any s _ hp.out.mx hs).mono ?_
  rintro e w1 ⟨g1, c1, qs, rfl, hqs, hlt1, hcells, hb1⟩
  obtain ⟨n, hn⟩ : ∃ n, qs.length = n := ⟨_, rfl⟩
  rw [hn] at hcells ⊢
  have HN := Lib.hid hn
  have HQS := Lib.hid hqs
  have HCE := Lib.hid hcells
  have HB1 := Lib.hid hb1
  have hsz1 := hb1.size
  clear hqs hcells hb1 hn
  by_cases h64 : 16 < n
  · have HV := Lib.hid (partsQ_many HQS.out (by rw [HN.out]; exact h64))
    have h64i : (16 : Int) < (n : Int) := by omega
    go_wp2
    go_ret2
    exact ⟨HB1.out, .inl ⟨rfl, .inl HV.out⟩⟩
  · have HV := Lib.hid (partsQ_few HQS.out (by rw [HN.out]; exact h64))
    have h64i : ¬ (16 : Int) < (n : Int) := by omega
    go_wp2_with (at_make; refine wpList_make_full _ rfl _ _ 22 rfl w1.heap.size 33 i0 (.agg #[.int .i64 0, .int .i64 0]) 2 Tryd.underlying22 hi hz0 hz1 .i64 .i64 _ _ n rfl rfl rfl rfl (by rw [hz2]; omega) (by unfold maxLen; omega) (Nat.le_refl _) ?_; intro w0 hown hgrow)
    have HB0 := Lib.hid ((Below.refl w1.heap.size w1).grown hgrow (Nat.le_refl _) (fun k hk => by cases hk))
    rw [made_spots, ← fQ_none] at hown
    have HO0 := Lib.hid hown
    clear hgrow hown
    go_wp2
    go_loopw [30] (fun i wr => ∃ (k : Nat) (zs : List Qt), k ≤ n ∧ i = .int .i64 k ∧ Hid (zs.length = k) ∧ Hid (∀ j, j < k → rdQ (qs.getD j ByteArray.empty) = some (zs.getD j zQ)) ∧ wr.ownsRow w1.heap.size 33 2 (.slice (some ⟨w1.heap.size, 0, none⟩) n n) n (i64s (flatQ (fQ zs n))) ∧ Below w1.heap.size w1 wr) (fun i _ => n - (intOf i).toNat)
    case atStart => exact ⟨0, [], by omega, rfl, rfl, fun j hj => by omega, HO0.out, HB0.out⟩
    case round =>
      obtain ⟨k, zs, hk, rfl, HL, HA, hown, hbw⟩ := hrel
      have HO := Lib.hid hown
      have HB := Lib.hid hbw
      have hsz := hbw.size
      by_cases hlt : k < n
      · have hcell : wr.cell? ⟨g1, k, none⟩ = some (.string (qs.getD k ByteArray.empty)) := by rw [hbw.cell (p := ⟨g1, k, none⟩) hlt1]; exact HCE.out k hlt
        have hq := partQ_size HV.out k (by rw [HN.out]; exact hlt)
        have HP := Lib.hid (rq_kept (HB1.out.trans (hbw.mono hsz1)) hp.out)
        have HNO := Lib.hid (show rdQ (qs.getD k ByteArray.empty) = none → ∃ (ps : List ByteArray) (k : Nat), ps.map (·.data.toList) = splitL 32 s.data.toList ∧ k < ps.length ∧ rdQ (ps.getD k ByteArray.empty) = none from fun h => ⟨qs, k, HV.out, by rw [HN.out]; exact hlt, h⟩)
        have HKEEP := Lib.hid (show ∀ z, rdQ (qs.getD k ByteArray.empty) = some z → ∀ j, j < k + 1 → rdQ (qs.getD j ByteArray.empty) = some ((zs ++ [z]).getD j zQ) from fun z hz j hj => by
          by_cases e : j = k
          · subst e
            rw [hz, snocQ_last zs z j HL.out]
          · rw [snocQ_get zs z j (by rw [HL.out]; omega)]; exact HA.out j (by omega))
        have hkn : (k : Int) < (n : Int) := by omega
        have hk0 : (0 : Int) ≤ (k : Int) := by omega
        clear hown hbw
        generalize qs.getD k ByteArray.empty = q at *
        obtain ⟨r, hr⟩ : ∃ r, rdQ q = r := ⟨_, rfl⟩
        rw [hr] at HNO HKEEP
        have HR := Lib.hid hr
        clear hr
        go_wp2_with fail
        refine (HF.out q _ (by omega) HP).mono ?_
        rintro e w3 ⟨⟨x, y, rfl, hzr⟩, hb3⟩
        rw [HR.out] at hzr ⊢
        have HZR := Lib.hid hzr
        have HO3 := Lib.hid (row_keepQ hb3 HO.out)
        have HB3 := Lib.hid (below_of HB.out hb3 HB.out.size)
        have hs3 := hb3.size
        clear hb3 hcell hzr
        cases r with
        | none =>
          go_wp2
          go_ret2
          exact ⟨HB1.out.trans ((HB3.out.alloc (by omega) _).mono hsz1), .inl ⟨rfl, .inr (HNO.out (by first | rfl | trivial))⟩⟩
        | some z =>
          have HZ := Lib.hid (HZR.out z rfl)
          have HKP := Lib.hid (show ∀ j, j < k + 1 → rdQ (qs.getD j ByteArray.empty) = some ((zs ++ [(x, y)]).getD j zQ) by rw [← HZ.out]; exact HKEEP.out z rfl)
          have hw3 : w1.heap.size < w3.heap.size := (HO3.out.lt _ rfl).2
          have f0 := HO3.out.frozenAt (k * 2)
          have f1 := HO3.out.frozenAt (k * 2 + 1)
          obtain ⟨d0, d1⟩ := own_inQ (fQ_len zs n (by rw [HL.out]; omega)) HO3.out k hlt
          have HS := Lib.hid (storeQ HO3.out k (x, y))
          rw [fQ_next zs n k (x, y) HL.out hlt] at HS
          generalize (fQ zs n).getD k zQ = old at *
          have HBS := Lib.hid ((HB3.out.setCell (p := ⟨w1.heap.size, k * 2, none⟩) (Nat.le_refl _) (.int .i64 x)).setCell (p := ⟨w1.heap.size, k * 2 + 1, none⟩) (Nat.le_refl _) (.int .i64 y))
          clear HKEEP HNO HZR
          go_wp2
          go_roundw
          case rel => exact ⟨k + 1, zs ++ [(x, y)], by omega, by go_num, (show (zs ++ [(x, y)]).length = k + 1 by rw [List.length_append, HL.out]; rfl), HKP.out, HS.out.alloc _, HBS.out.alloc (by simp; omega) _⟩
          case measure => simp [intOf]; omega
      · obtain rfl : k = n := by omega
        clear hown hbw
        rw [fQ_all zs k HL.out] at HO
        go_wp2
        go_ret2
        exact ⟨HB1.out.trans (HB.out.mono hsz1), .inr ⟨qs, zs, _, HV.out, by rw [HN.out]; omega, by rw [HL.out, HN.out], fun j hj => HA.out j (by rw [HN.out] at hj; exact hj), rfl, rowQ_base (by unfold RowQ; rw [HL.out]; exact HO.out) hsz1⟩⟩
end Go.Proofs.YtlhbjchanalnaaaDoor
