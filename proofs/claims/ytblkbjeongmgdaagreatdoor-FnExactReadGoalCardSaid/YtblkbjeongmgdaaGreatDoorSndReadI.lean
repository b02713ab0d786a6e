/- A sound read back from its text: the program's walk. -/
import Derived.Test.YtblkbjeongmgdaaGreatDoorSndRead
import Derived.Test.YtblkbjeongmgdaaGreatDoorMaxOf
import Derived.Test.YtblkbjeongmgdaaGreatDoorParts
import Derived.Test.YtblkbjeongmgdaaGreatDoorShelfD
import Derived.Laws.Cover3
namespace Go.Proofs.YtblkbjeongmgdaaGreatDoor
open Go.ChangeShapes Go.WideShapes Go.ChangeAt Go.RowKit

theorem split6 (c : UInt8) (l : List UInt8) : (5 < (splitL c l).length → 5 < (Lib.splitK [c] 0 (min 6 (l.length + 1) - 1) l).length) ∧ ((splitL c l).length ≤ 5 → Lib.splitK [c] 0 (min 6 (l.length + 1) - 1) l = splitL c l) := by
  have hl := splitL_len c l
  obtain ⟨h1, h2⟩ := splitK_spec c (min 6 (l.length + 1) - 1) l
  refine ⟨fun h => ?_, fun h => h1 (by omega)⟩
  by_cases h3 : (splitL c l).length ≤ min 6 (l.length + 1) - 1 + 1
  · rw [h1 h3]; exact h
  · rw [h2 (by omega)]; omega
theorem splitNS_any (s : ByteArray) (w : World) (hm : MaxOk w) (hs : s.size ≤ 1048576) :
    Calls Tryz.prog 11 #[.string s, .string ⟨#[32]⟩, .int .i64 6] w fun e w' => ∃ (g cap : Nat) (qs : List ByteArray), e = .returned (.slice (some ⟨g, 0, none⟩) qs.length cap) ∧ qs.map (·.data.toList) = Lib.splitK [32] 0 (min 6 (s.data.toList.length + 1) - 1) s.data.toList ∧
      g < w'.heap.size ∧ (∀ j, j < qs.length → w'.cell? ⟨g, j, none⟩ = some (.string (qs.getD j ByteArray.empty))) ∧ Below w.heap.size w w' := by
  obtain ⟨m, hm⟩ := hm
  refine (Tryz.strings_SplitN s ⟨#[32]⟩ 6 m w (by omega) hm (by decide) (by decide) (by decide)).mono ?_
  rintro e w' ⟨rfl, rfl⟩
  refine ⟨w.heap.size, _, Lib.splitB ⟨#[32]⟩ 0 (min 6 (s.size + 1) - 1) s, rfl, ?_, by simp, fun j hj => ?_, (Below.refl _ _).alloc (Nat.le_refl _) _⟩
  · rw [Lib.splitB_data, size_list]
  · rw [World.cell?_alloc_new]
    unfold Lib.cellsOf
    rw [List.getElem?_toArray, List.getElem?_append_left (by simpa using hj), List.getElem?_map, List.getD_eq_getElem?_getD, List.getElem?_eq_getElem hj]
    rfl
theorem partsS_many {s : ByteArray} {qs : List ByteArray} (hq : qs.map (·.data.toList) = Lib.splitK [32] 0 (min 6 (s.data.toList.length + 1) - 1) s.data.toList) (h : 5 < qs.length) : 5 < (splitL 32 s.data.toList).length := by
  by_cases hc : 5 < (splitL 32 s.data.toList).length
  · exact hc
  · have e := (split6 32 s.data.toList).2 (by omega)
    rw [← hq] at e
    have := congrArg List.length e
    rw [List.length_map] at this
    omega
theorem partsS_few {s : ByteArray} {qs : List ByteArray} (hq : qs.map (·.data.toList) = Lib.splitK [32] 0 (min 6 (s.data.toList.length + 1) - 1) s.data.toList) (h : ¬ 5 < qs.length) : qs.map (·.data.toList) = splitL 32 s.data.toList := by
  have hc : ¬ 5 < (splitL 32 s.data.toList).length := by
    intro hc
    have := (split6 32 s.data.toList).1 hc
    rw [← hq, List.length_map] at this
    exact h this
  have e := (split6 32 s.data.toList).2 (by omega)
  rwa [← hq] at e
theorem mxP_kept {W W' : World} (hb : Below W.heap.size W W') (h : MaxOk W) : MaxOk W' := mx_kept hb h
theorem readerS_any (q : ByteArray) (w : World) (hs : q.size ≤ 1048576) (hp : Hid (ReadOk w)) (hm : Hid (MaxOk w)) :
    Calls Tryz.prog 24 #[.string q] w fun e w' => (∃ v, e = .returned (.tuple #[.int .i64 v, .bool (rdV hzTx q).isSome]) ∧ ∀ x, rdV hzTx q = some x → v = x) ∧ Below w.heap.size w w' := by
  refine (implReadHertz_any q w hs hp hm.out).mono ?_
  rintro e w' ⟨he, hb⟩
  refine ⟨⟨(rdV hzTx q).getD 0, he, fun x hx => by rw [hx]; rfl⟩, hb⟩
set_option maxRecDepth 20000 in
set_option maxHeartbeats 2000000 in
theorem readPartsS_any (s : ByteArray) (w : World) (hs : s.size ≤ 1048576) (hp : Hid (ReadOk w)) (hmx : Hid (MaxOk w)) :
    Calls Tryz.prog 23 #[.string s, .string ⟨#[32]⟩, .int .i64 5, .func (.func 24) #[] #[]] w (PartsPost (rdV hzTx) 32 5 s w) := by
  obtain ⟨i0, hi, hz0, hz1, hz2⟩ := info_parts infoI64
  have HF : Hid (∀ (q : ByteArray) (w1 : World), q.size ≤ 1048576 → Hid (ReadOk w1) → Hid (MaxOk w1) → Calls Tryz.prog 24 #[.string q] w1 fun e w' => (∃ v, e = .returned (.tuple #[.int .i64 v, .bool ((rdV hzTx) q).isSome]) ∧ ∀ x, (rdV hzTx) q = some x → v = x) ∧ Below w1.heap.size w1 w') := Lib.hid (fun q w1 h1 h2 h3 => readerS_any q w1 h1 h2 h3)
  go_enter Tryz.func23, Tryz.ntmps23
  go_wp2_with fail
  refine (splitNS_any s _ hmx.out hs).mono ?_
  rintro e w1 ⟨g1, c1, qs, rfl, hqs, hlt1, hcells, hb1⟩
  obtain ⟨n, hn⟩ : ∃ n, qs.length = n := ⟨_, rfl⟩
  rw [hn] at hcells ⊢
  have HN := Lib.hid hn
  have HQS := Lib.hid hqs
  have HCE := Lib.hid hcells
  have HB1 := Lib.hid hb1
  have hsz1 := hb1.size
  clear hqs hcells hb1 hn
  by_cases h64 : 5 < n
  · have HV := Lib.hid (partsS_many HQS.out (by rw [HN.out]; exact h64))
    have h64i : (5 : Int) < (n : Int) := by omega
    go_wp2
    go_ret2
    exact ⟨HB1.out, .inl ⟨rfl, .inl HV.out⟩⟩
  · have HV := Lib.hid (partsS_few HQS.out (by rw [HN.out]; exact h64))
    have hk1 : 1 ≤ n := by
      have h0 := splitL_ne 32 s.data.toList
      rw [← HV.out] at h0
      cases hq : qs with
      | nil => rw [hq] at h0; exact absurd rfl h0
      | cons a l => have := HN.out; rw [hq] at this; simp at this; omega
    have h64i : ¬ (5 : Int) < (n : Int) := by omega
    go_wp2_with (at_make; refine wpList_make_full _ rfl _ _ 42 rfl w1.heap.size 2 i0 (.int .i64 0) 1 Tryz.underlying42 hi hz0 hz1 .i64 .i64 _ _ n rfl rfl rfl rfl (by rw [hz2]; omega) (by unfold maxLen; omega) (Nat.le_refl _) ?_; intro w0 hown hgrow)
    have HB0 := Lib.hid ((Below.refl w1.heap.size w1).grown hgrow (Nat.le_refl _) (fun k hk => by cases hk))
    rw [made_ints] at hown
    have HO0 := Lib.hid (show w0.ownsRow w1.heap.size 2 1 (.slice (some ⟨w1.heap.size, 0, none⟩) n n) n (i64s (filledP [] n)) by unfold filledP; rw [List.length_nil, Nat.sub_zero, List.nil_append]; exact hown)
    clear hgrow hown
    go_wp2
    go_loopw [30] (fun i wr => ∃ (k : Nat) (zs : List Int), k ≤ n ∧ i = .int .i64 k ∧ Hid (zs.length = k) ∧ Hid (∀ j, j < k → (rdV hzTx) (qs.getD j ByteArray.empty) = some (zs.getD j 0)) ∧ wr.ownsRow w1.heap.size 2 1 (.slice (some ⟨w1.heap.size, 0, none⟩) n n) n (i64s (filledP zs n)) ∧ Below w1.heap.size w1 wr) (fun i _ => n - (intOf i).toNat)
    case atStart => exact ⟨0, [], by omega, rfl, rfl, fun j hj => by omega, HO0.out, HB0.out⟩
    case round =>
      obtain ⟨k, zs, hk, rfl, HL, HA, hown, hbw⟩ := hrel
      have HO := Lib.hid hown
      have HB := Lib.hid hbw
      have hsz := hbw.size
      by_cases hlt : k < n
      · have hcell : wr.cell? ⟨g1, k, none⟩ = some (.string (qs.getD k ByteArray.empty)) := by rw [hbw.cell (p := ⟨g1, k, none⟩) hlt1]; exact HCE.out k hlt
        have hq := partP_size HV.out k (by rw [HN.out]; exact hlt)
        have HP := Lib.hid (read_kept (HB1.out.trans (hbw.mono hsz1)) hp.out)
        have HMX := Lib.hid (mxP_kept (HB1.out.trans (hbw.mono hsz1)) hmx.out)
        have HNO := Lib.hid (show (rdV hzTx) (qs.getD k ByteArray.empty) = none → ∃ (ps : List ByteArray) (k : Nat), ps.map (·.data.toList) = splitL 32 s.data.toList ∧ k < ps.length ∧ (rdV hzTx) (ps.getD k ByteArray.empty) = none from fun h => ⟨qs, k, HV.out, by rw [HN.out]; exact hlt, h⟩)
        have HKEEP := Lib.hid (show ∀ z, (rdV hzTx) (qs.getD k ByteArray.empty) = some z → ∀ j, j < k + 1 → (rdV hzTx) (qs.getD j ByteArray.empty) = some ((zs ++ [z]).getD j 0) from fun z hz j hj => by
          by_cases e : j = k
          · subst e
            rw [hz, snocP_last zs z j HL.out]
          · rw [snocP_get zs z j (by rw [HL.out]; omega)]; exact HA.out j (by omega))
        have hkn : (k : Int) < (n : Int) := by omega
        have hk0 : (0 : Int) ≤ (k : Int) := by omega
        clear hown hbw
        generalize qs.getD k ByteArray.empty = q at *
        obtain ⟨r, hr⟩ : ∃ r, (rdV hzTx) q = r := ⟨_, rfl⟩
        rw [hr] at HNO HKEEP
        have HR := Lib.hid hr
        clear hr
        go_wp2_with fail
        refine (HF.out q _ (by omega) HP HMX).mono ?_
        rintro e w3 ⟨⟨z, rfl, hzr⟩, hb3⟩
        rw [HR.out] at hzr ⊢
        have HZR := Lib.hid hzr
        have HO3 := Lib.hid (rowP_keep hb3 HO.out)
        have HB3 := Lib.hid (below_of HB.out hb3 HB.out.size)
        have hs3 := hb3.size
        clear hb3 hcell hzr
        cases r with
        | none =>
          go_wp2
          go_ret2
          exact ⟨HB1.out.trans (HB3.out.mono hsz1), .inl ⟨rfl, .inr (HNO.out (by first | rfl | trivial))⟩⟩
        | some x =>
          obtain rfl : z = x := HZR.out x rfl
          have hw3 : w1.heap.size < w3.heap.size := (HO3.out.lt _ rfl).2
          have hf := HO3.out.frozenAt k
          have hat : w3.cell? ⟨w1.heap.size, k, none⟩ = (i64s (filledP zs n))[k]? := HO3.out.cellAt k (by omega)
          obtain ⟨old, hold⟩ := filledP_get zs n k HL.out hlt
          rw [hold] at hat
          have HS := Lib.hid (HO3.out.stored k (.int .i64 z))
          have HBS := Lib.hid (HB3.out.setCell (p := ⟨w1.heap.size, k, none⟩) (Nat.le_refl _) (.int .i64 z))
          have HFN := Lib.hid (filledP_next zs n k z HL.out hlt)
          have HKP := Lib.hid (HKEEP.out z rfl)
          clear hold HKEEP HNO HZR
          go_wp2
          go_roundw
          case rel => exact ⟨k + 1, zs ++ [z], by omega, by go_num, (show (zs ++ [z]).length = k + 1 by rw [List.length_append, HL.out]; rfl), HKP.out, by rw [← HFN.out]; exact HS.out.1, HBS.out⟩
          case measure => simp [intOf]; omega
      · obtain rfl : k = n := by omega
        clear hown hbw
        have hfl : filledP zs k = zs := by unfold filledP; rw [HL.out, Nat.sub_self]; simp
        rw [hfl] at HO
        clear hfl
        go_wp2
        go_ret2
        exact ⟨HB1.out.trans (HB.out.mono hsz1), .inr ⟨qs, zs, _, HV.out, by rw [HN.out]; omega, by rw [HL.out, HN.out], fun j hj => HA.out j (by rw [HN.out] at hj; exact hj), rfl, ownP_row HL.out (rowP_base HO.out hsz1)⟩⟩


theorem rd_none_at {s : ByteArray} {ps : List ByteArray} (h : ps.map (·.data.toList) = splitL 32 s.data.toList) {k : Nat} (hk : k < ps.length) (hn : rdV hzTx (ps.getD k ByteArray.empty) = none) : ∀ a b c e f, ¬ SndRd s a b c e f := by
  by_cases h5 : ps.length = 5
  · exact rd_part h (by omega) hn
  · exact rd_len h h5
theorem rd_many {s : ByteArray} (h : 5 < (splitL 32 s.data.toList).length) : ∀ a b c e f, ¬ SndRd s a b c e f := by
  rintro a b c e f ⟨ps, g1, g2, -, -⟩
  have := congrArg List.length g1
  rw [List.length_map] at this
  omega
set_option maxRecDepth 100000 in
set_option maxHeartbeats 4000000 in
theorem implReadSnd_any (s : ByteArray) (w : World) (hs : s.size ≤ 1048576) (hp : Hid (ReadOk w)) (hm : MaxOk w) :
    Calls Tryz.prog 12 #[.string s] w fun en w' => RdIs s en ∧ Below w.heap.size w w' := by
  have HM := Lib.hid hm
  clear hm
  go_enter Tryz.func12, Tryz.ntmps12
  go_wp2_with fail
  have hc0 := clean_alloc w 23
  have HBA := Lib.hid ((Below.refl w.heap.size w).alloc (Nat.le_refl _) (.cells #[.int .i64 0, .int .i64 0, .int .i64 0, .int .i64 0, .int .i64 0] 23))
  generalize w.alloc (.cells #[.int .i64 0, .int .i64 0, .int .i64 0, .int .i64 0, .int .i64 0] 23) = wA at *
  have hcl := clean_lt hc0
  refine (readPartsS_any s _ hs (Lib.hid (read_kept HBA.out hp.out)) (Lib.hid (mx_kept HBA.out HM.out))).mono ?_
  rintro en w1 ⟨hb1, ⟨rfl, hno⟩ | ⟨ps, zs, v, hps, hl, hzl, hall, rfl, hown⟩⟩
  · have HV := Lib.hid (show ∀ a b c e f, ¬ SndRd s a b c e f by
      rcases hno with h | ⟨ps, k, h1, h2, h3⟩
      · exact rd_many h
      · exact rd_none_at h1 h2 h3)
    have HC1 := Lib.hid (clean_kept hb1 hcl hc0)
    have HB1 := Lib.hid (below_of HBA.out hb1 HBA.out.size)
    clear hb1 hc0 hno
    obtain ⟨⟨z0, z1, z2, z3, z4⟩, f0, f1, f2, f3, f4⟩ := HC1.out
    go_wp2
    try simp only [Exit.inBlock, Exit.then]
    refine bodyPost_ret_by (v := .tuple #[.agg #[.int .i64 0, .int .i64 0, .int .i64 0, .int .i64 0, .int .i64 0], .bool false]) (by rw [results_cell_tmp rfl]; go_simp) rfl ?_
    exact ⟨.inr ⟨HV.out, rfl⟩, (((((HB1.out.setCell (Nat.le_refl _) _).setCell (Nat.le_refl _) _).setCell (Nat.le_refl _) _).setCell (Nat.le_refl _) _).setCell (Nat.le_refl _) _)⟩
  · have HC1 := Lib.hid (clean_kept hb1 hcl hc0)
    have HB1 := Lib.hid (below_of HBA.out hb1 HBA.out.size)
    have hcl1 : w.heap.size < w1.heap.size := Nat.lt_of_lt_of_le hcl hb1.size
    obtain ⟨g, cap, rfl, hg1, hg2, hrow⟩ := hown
    clear hb1 hc0
    by_cases h5 : zs.length = 5
    · obtain ⟨a, b, c, e, f, rfl⟩ := list_five h5
      have HPS := Lib.hid hps
      have HPL := Lib.hid (show ps.length = 5 by rw [← hzl]; rfl)
      have HALL := Lib.hid (show ∀ j, j < 5 → rdV hzTx (ps.getD j ByteArray.empty) = some ([a, b, c, e, f].getD j 0) from fun j hj => hall j (by rw [← hzl]; exact hj))
      have hcc := own_cells (zs := [a, b, c, e, f]) (n := 5) rfl hrow
      have r0 : w1.cell? ⟨g, 0, none⟩ = some (.int .i64 a) := hcc 0 (by decide)
      have r1 : w1.cell? ⟨g, 1, none⟩ = some (.int .i64 b) := hcc 1 (by decide)
      have r2 : w1.cell? ⟨g, 2, none⟩ = some (.int .i64 c) := hcc 2 (by decide)
      have r3 : w1.cell? ⟨g, 3, none⟩ = some (.int .i64 e) := hcc 3 (by decide)
      have r4 : w1.cell? ⟨g, 4, none⟩ = some (.int .i64 f) := hcc 4 (by decide)
      have hAA := fun (w : World) => run_arrayAt (P := Tryz.prog) (w := w) 52 2 5 (some ⟨g, 0, none⟩) 5 cap Tryz.underlying52 (Nat.le_refl _)
      have hlen : [a, b, c, e, f].length = 5 := rfl
      clear hcc hrow hps hzl hall hl h5
      rw [hlen]
      clear hlen
      go_wp2_with fail
      have hBB := (Below.refl w1.heap.size w1).alloc (Nat.le_refl _) (.cells #[.int .i64 a, .int .i64 b, .int .i64 c, .int .i64 e, .int .i64 f] 52)
      have hfa := five_alloc w1 a b c e f 52
      have hlt : w1.heap.size < (w1.alloc (.cells #[.int .i64 a, .int .i64 b, .int .i64 c, .int .i64 e, .int .i64 f] 52)).heap.size := by simp
      have HCB := Lib.hid (clean_kept hBB hcl1 HC1.out)
      have HBB := Lib.hid (below_of HB1.out hBB HB1.out.size)
      clear hAA r0 r1 r2 r3 r4
      generalize w1.alloc (.cells #[.int .i64 a, .int .i64 b, .int .i64 c, .int .i64 e, .int .i64 f] 52) = wB at *
      have hclB : w.heap.size < wB.heap.size := Nat.lt_of_lt_of_le hcl1 hBB.size
      clear hBB
      refine (pvalid_any a b c e f _).mono ?_
      rintro en w4 ⟨rfl, hb⟩
      have H54 := Lib.hid (five_kept hb hlt hfa)
      have HC4 := Lib.hid (clean_kept hb hclB HCB.out)
      have HB4 := Lib.hid (below_of HBB.out hb HBB.out.size)
      have hcl4 : w.heap.size < w4.heap.size := Nat.lt_of_lt_of_le hclB hb.size
      clear hb hfa hlt
      rcases Bool.eq_false_or_eq_true (sndB a b c e f) with h2 | h2
      · have H2 := Lib.hid h2
        rw [h2]
        obtain ⟨d0, d1, d2, d3, d4⟩ := H54.out
        go_wp2_with fail
        refine (psound_any a b c e f _).mono ?_
        rintro en w5 ⟨rfl, hb⟩
        obtain ⟨⟨z0, z1, z2, z3, z4⟩, f0, f1, f2, f3, f4⟩ := clean_kept hb hcl4 HC4.out
        have HB5 := Lib.hid (below_of HB4.out hb HB4.out.size)
        clear hb d0 d1 d2 d3 d4
        go_wp2
        try simp only [Exit.inBlock, Exit.then]
        refine bodyPost_ret_by (v := .tuple #[.agg #[.int .i64 a, .int .i64 b, .int .i64 c, .int .i64 e, .int .i64 f], .bool true]) (by rw [results_cell_tmp rfl]; go_simp) rfl ?_
        exact ⟨.inl ⟨a, b, c, e, f, ⟨ps, HPS.out, HPL.out, HALL.out, H2.out⟩, rfl⟩, (((((HB5.out.setCell (Nat.le_refl _) _).setCell (Nat.le_refl _) _).setCell (Nat.le_refl _) _).setCell (Nat.le_refl _) _).setCell (Nat.le_refl _) _)⟩
      · have H2 := Lib.hid h2
        rw [h2]
        obtain ⟨⟨z0, z1, z2, z3, z4⟩, f0, f1, f2, f3, f4⟩ := HC4.out
        go_wp2
        try simp only [Exit.inBlock, Exit.then]
        refine bodyPost_ret_by (v := .tuple #[.agg #[.int .i64 0, .int .i64 0, .int .i64 0, .int .i64 0, .int .i64 0], .bool false]) (by rw [results_cell_tmp rfl]; go_simp) rfl ?_
        exact ⟨.inr ⟨rd_bad HPS.out HALL.out H2.out, rfl⟩, (((((HB4.out.setCell (Nat.le_refl _) _).setCell (Nat.le_refl _) _).setCell (Nat.le_refl _) _).setCell (Nat.le_refl _) _).setCell (Nat.le_refl _) _)⟩
    · have HV := Lib.hid (rd_len hps (by rw [← hzl]; exact h5))
      generalize zs.length = n at *
      have hne : ((n : Int) != 5) = true := by simp; omega
      obtain ⟨⟨z0, z1, z2, z3, z4⟩, f0, f1, f2, f3, f4⟩ := HC1.out
      clear h5 hps hl hzl hall hrow
      go_wp2
      try simp only [Exit.inBlock, Exit.then]
      refine bodyPost_ret_by (v := .tuple #[.agg #[.int .i64 0, .int .i64 0, .int .i64 0, .int .i64 0, .int .i64 0], .bool false]) (by rw [results_cell_tmp rfl]; go_simp) rfl ?_
      exact ⟨.inr ⟨HV.out, rfl⟩, (((((HB1.out.setCell (Nat.le_refl _) _).setCell (Nat.le_refl _) _).setCell (Nat.le_refl _) _).setCell (Nat.le_refl _) _).setCell (Nat.le_refl _) _)⟩
end Go.Proofs.YtblkbjeongmgdaaGreatDoor
