/- A sound read back from its text: the program's walk. -/
import Derived.Test.YtmkopmdeelfmgabDoorSndRead
import Derived.Test.YtmkopmdeelfmgabDoorMaxOf
import Derived.Test.YtmkopmdeelfmgabDoorShelfD
namespace Go.Proofs.YtmkopmdeelfmgabDoor
open Go.ChangeShapes Go.WideShapes Go.ChangeAt Go.RowKit

theorem split6 (c : UInt8) (l : List UInt8) : (5 < (splitL c l).length → 5 < (Lib.splitK [c] 0 (min 6 (l.length + 1) - 1) l).length) ∧ ((splitL c l).length ≤ 5 → Lib.splitK [c] 0 (min 6 (l.length + 1) - 1) l = splitL c l) := by
  have hl := splitL_len c l
  obtain ⟨h1, h2⟩ := splitK_spec c (min 6 (l.length + 1) - 1) l
  refine ⟨fun h => ?_, fun h => h1 (by omega)⟩
  by_cases h3 : (splitL c l).length ≤ min 6 (l.length + 1) - 1 + 1
  · rw [h1 h3]; exact h
  · rw [h2 (by omega)]; omega
theorem splitN6_any (s : ByteArray) (w : World) (hm : MaxOk w) (hs : s.size ≤ 1048576) :
    Calls Tryd.prog 37 #[.string s, .string ⟨#[32]⟩, .int .i64 6] w fun e w' => ∃ (g cap : Nat) (qs : List ByteArray), e = .returned (.slice (some ⟨g, 0, none⟩) qs.length cap) ∧ qs.map (·.data.toList) = Lib.splitK [32] 0 (min 6 (s.data.toList.length + 1) - 1) s.data.toList ∧
      g < w'.heap.size ∧ (∀ j, j < qs.length → w'.cell? ⟨g, j, none⟩ = some (.string (qs.getD j ByteArray.empty))) ∧ Below w.heap.size w w' := by
  obtain ⟨m, hm⟩ := hm
  refine (Tryd.strings_SplitN s ⟨#[32]⟩ 6 m w (by omega) hm (by decide) (by decide) (by decide)).mono ?_
  rintro e w' ⟨rfl, rfl⟩
  refine ⟨w.heap.size, _, Lib.splitB ⟨#[32]⟩ 0 (min 6 (s.size + 1) - 1) s, rfl, ?_, by simp, fun j hj => ?_, (Below.refl _ _).alloc (Nat.le_refl _) _⟩
  · rw [Lib.splitB_data, size_list]
  · rw [World.cell?_alloc_new]
    unfold Lib.cellsOf
    rw [List.getElem?_toArray, List.getElem?_append_left (by simpa using hj), List.getElem?_map, List.getD_eq_getElem?_getD, List.getElem?_eq_getElem hj]
    rfl
theorem six_no {s : ByteArray} {qs : List ByteArray} (hq : qs.map (·.data.toList) = Lib.splitK [32] 0 (min 6 (s.data.toList.length + 1) - 1) s.data.toList) (hn : qs.length ≠ 5) : ∀ a b c e f, ¬ SndRd s a b c e f := by
  by_cases h : 5 < (splitL 32 s.data.toList).length
  · rintro a b c e f ⟨ps, g1, g2, -, -⟩
    have := congrArg List.length g1
    rw [List.length_map] at this
    omega
  · exact rd_len (hq.trans ((split6 32 s.data.toList).2 (by omega))) hn
theorem six_yes {s : ByteArray} {qs : List ByteArray} (hq : qs.map (·.data.toList) = Lib.splitK [32] 0 (min 6 (s.data.toList.length + 1) - 1) s.data.toList) (hn : qs.length = 5) : qs.map (·.data.toList) = splitL 32 s.data.toList := by
  by_cases h : 5 < (splitL 32 s.data.toList).length
  · have := (split6 32 s.data.toList).1 h
    rw [← hq, List.length_map] at this
    omega
  · exact hq.trans ((split6 32 s.data.toList).2 (by omega))
def fill5 (zs : List Int) : List Int := zs ++ List.replicate (5 - zs.length) 0
theorem fill5_len (zs : List Int) (h : zs.length ≤ 5) : (fill5 zs).length = 5 := by simp [fill5]; omega
theorem fill5_next (zs : List Int) (k : Nat) (z : Int) (hk : zs.length = k) (h : k < 5) : (i64s (fill5 zs)).set k (.int .i64 z) = i64s (fill5 (zs ++ [z])) := by
  unfold fill5 i64s
  rw [List.length_append, List.length_singleton, hk, show 5 - k = 5 - (k + 1) + 1 from by omega, List.replicate_succ, List.map_append, List.map_cons, List.set_append_right _ _ (by simp [hk]), List.length_map, hk, Nat.sub_self, List.set_cons_zero]
  simp
theorem fill5_all {zs : List Int} (h : zs.length = 5) : fill5 zs = zs := by unfold fill5; rw [h]; simp

set_option maxRecDepth 100000 in
set_option maxHeartbeats 4000000 in
theorem implReadSnd_any (s : ByteArray) (w : World) (hs : s.size ≤ 1048576) (hp : Hid (ReadOk w)) (hm : MaxOk w) :
    Calls Tryd.prog 14 #[.string s] w fun en w' => RdIs s en ∧ Below w.heap.size w w' := by
  have HM := Lib.hid hm
  clear hm
  go_enter Tryd.func14, Tryd.ntmps14
  go_wp2_with fail
  have hc0 := clean_alloc w 27
  have HBA := Lib.hid ((Below.refl w.heap.size w).alloc (Nat.le_refl _) (.cells #[.int .i64 0, .int .i64 0, .int .i64 0, .int .i64 0, .int .i64 0] 27))
  generalize w.alloc (.cells #[.int .i64 0, .int .i64 0, .int .i64 0, .int .i64 0, .int .i64 0] 27) = wA at *
  have hcl := clean_lt hc0
  refine (splitN6_any s _ (mx_kept HBA.out HM.out) hs).mono ?_
  rintro en w1 ⟨g1, c1, ps, rfl, hps, hlt1, hcells, hb1⟩
  obtain ⟨n, hn⟩ : ∃ n, ps.length = n := ⟨_, rfl⟩
  rw [hn] at hcells ⊢
  have HN := Lib.hid hn
  have HCE := Lib.hid hcells
  have HC1 := Lib.hid (clean_kept hb1 hcl hc0)
  have HB1 := Lib.hid (below_of HBA.out hb1 HBA.out.size)
  have hcl1 : w.heap.size < w1.heap.size := Nat.lt_of_lt_of_le hcl hb1.size
  clear hcells hb1 hc0
  by_cases h5 : n = 5
  · have HPS := Lib.hid (six_yes hps (by rw [hn]; exact h5))
    subst h5
    clear hps hn
    go_wp2
    have hD := World.ownsRow_lit (e := 58) w1 (i64s (fill5 [])).toArray 5 (Nat.le_refl _) (by decide) (size := 1) rfl
    have HD := Lib.hid hD
    clear hD
    go_loopw [18] (fun i wr => ∃ (k : Nat) (zs : List Int), k ≤ 5 ∧ i = .int .i64 k ∧ Hid (zs.length = k) ∧ Hid (∀ j, j < k → rdV hzTx (ps.getD j ByteArray.empty) = some (zs.getD j 0)) ∧ wr.ownsRow w1.heap.size 58 1 (.slice (some ⟨w1.heap.size, 0, none⟩) 5 5) 5 (i64s (fill5 zs)) ∧ Below w1.heap.size w1 wr) (fun i _ => 5 - (intOf i).toNat)
    case atStart => exact ⟨0, [], by omega, rfl, rfl, fun j hj => by omega, HD.out, (Below.refl _ _).alloc (Nat.le_refl _) _⟩
    case round =>
      obtain ⟨k, zs, hk, rfl, HL, HA, hown, hbw⟩ := hrel
      have HO := Lib.hid hown
      have HB := Lib.hid hbw
      have hsz := hbw.size
      by_cases hlt : k < 5
      · have hcell : wr.cell? ⟨g1, k, none⟩ = some (.string (ps.getD k ByteArray.empty)) := by rw [hbw.cell (p := ⟨g1, k, none⟩) hlt1]; exact HCE.out k hlt
        have hq := part_size HPS.out k (by rw [HN.out]; exact hlt)
        have HPQ := Lib.hid (fun (h : rdV hzTx (ps.getD k ByteArray.empty) = none) => rd_part HPS.out hlt h)
        have HKEEP := Lib.hid (show ∀ z, rdV hzTx (ps.getD k ByteArray.empty) = some z → ∀ j, j < k + 1 → rdV hzTx (ps.getD j ByteArray.empty) = some ((zs ++ [z]).getD j 0) from fun z hz j hj => by
          by_cases e : j = k
          · subst e
            have := snoc_last zs z
            rw [HL.out] at this
            rw [hz, this]
          · rw [snoc_get zs z j (by rw [HL.out]; omega)]; exact HA.out j (by omega))
        have hk2 : (k : Int) < 5 := by omega
        have hk3 : (0 : Int) ≤ (k : Int) := by omega
        have HP := Lib.hid (read_kept hbw (read_kept HB1.out hp.out))
        have HMX := Lib.hid (mx_kept hbw (mx_kept HB1.out HM.out))
        clear hown hbw
        generalize ps.getD k ByteArray.empty = q at *
        obtain ⟨r, hr⟩ : ∃ r, rdV hzTx q = r := ⟨_, rfl⟩
        rw [hr] at HPQ HKEEP
        have HR := Lib.hid hr
        clear hr
        go_wp2_with fail
        refine (implReadHertz_any q _ (by omega) HP HMX.out).mono ?_
        rintro en w3 ⟨he, hb3⟩
        unfold PairIs at he
        rw [HR.out] at he
        subst he
        have HO3 := Lib.hid (row_keep5 hb3 HO.out)
        have HB3 := Lib.hid (HB.out.trans (hb3.mono hsz))
        have hsz3 : w1.heap.size ≤ w3.heap.size := HB3.out.size
        clear hb3 hcell HO HB
        cases r with
        | none =>
          obtain ⟨⟨z0, z1, z2, z3, z4⟩, f0, f1, f2, f3, f4⟩ := clean_kept HB3.out hcl1 HC1.out
          have HF := Lib.hid (below_of HB1.out HB3.out HB1.out.size)
          go_wp2
          try simp only [Exit.inBlock, Exit.then]
          refine bodyPost_ret_by (v := .tuple #[.agg #[.int .i64 0, .int .i64 0, .int .i64 0, .int .i64 0, .int .i64 0], .bool false]) (by rw [results_cell_tmp rfl]; go_simp) rfl ?_
          exact ⟨.inr ⟨HPQ.out (by simp), rfl⟩, ((((HF.out.setCell (Nat.le_refl _) _).setCell (Nat.le_refl _) _).setCell (Nat.le_refl _) _).setCell (Nat.le_refl _) _).setCell (Nat.le_refl _) _⟩
        | some z =>
          have hf := HO3.out.frozenAt k
          obtain ⟨old, hold⟩ : ∃ old, w3.cell? ⟨w1.heap.size, k, none⟩ = some (.int .i64 old) := ⟨_, by rw [HO3.out.cellAt k (by omega)]; exact i64s_get _ k (by rw [fill5_len _ (by rw [HL.out]; omega)]; exact hlt)⟩
          have HFN := Lib.hid (fill5_next zs k z HL.out hlt)
          go_wp2
          go_roundw
          case rel =>
            refine ⟨k + 1, zs ++ [z], by omega, by go_num, (show (zs ++ [z]).length = k + 1 by rw [List.length_append, HL.out]; rfl), HKEEP.out z rfl, ?_, HB3.out.setCell (Nat.le_refl _) _⟩
            rw [← HFN.out]
            exact (HO3.out.stored k (.int .i64 z)).1
          case measure => simp [intOf]; omega
      · obtain rfl : k = 5 := by omega
        rw [fill5_all HL.out] at hown
        obtain ⟨a, b, c, e, f, rfl⟩ := list_five HL.out
        have r := row_cells (zs := [a, b, c, e, f]) (n := 5) rfl hown
        have r0 := r 0 (by decide)
        have r1 := r 1 (by decide)
        have r2 := r 2 (by decide)
        have r3 := r 3 (by decide)
        have r4 := r 4 (by decide)
        have HC2 := Lib.hid (clean_kept hbw hcl1 HC1.out)
        have HB2 := Lib.hid (below_of HB1.out hbw HB1.out.size)
        have hcl2 : w.heap.size < wr.heap.size := Nat.lt_of_lt_of_le hcl1 hbw.size
        have H5 := Lib.hid (show Five wr w1.heap.size a b c e f from ⟨r0, r1, r2, r3, r4⟩)
        clear hown hbw r HO HB
        go_wp2_with fail
        refine (pvalid_any a b c e f _).mono ?_
        rintro en w4 ⟨rfl, hb⟩
        have H54 := Lib.hid (five_below hb H5.out)
        have HC4 := Lib.hid (clean_kept hb hcl2 HC2.out)
        have HB4 := Lib.hid (below_of HB2.out hb HB2.out.size)
        have hcl4 : w.heap.size < w4.heap.size := Nat.lt_of_lt_of_le hcl2 hb.size
        clear hb r0 r1 r2 r3 r4
        rcases Bool.eq_false_or_eq_true (sndB a b c e f) with h2 | h2
        · have H2 := Lib.hid h2
          rw [h2]
          obtain ⟨d0, d1, d2, d3, d4⟩ := H54.out
          go_wp2_with fail
          refine (psound_any a b c e f _).mono ?_
          rintro en w5 ⟨rfl, hb⟩
          obtain ⟨⟨z0, z1, z2, z3, z4⟩, f0, f1, f2, f3, f4⟩ := clean_kept hb hcl4 HC4.out
          have HB5 := Lib.hid (below_of HB4.out hb HB4.out.size)
          clear hb d0 d1 d2 d3 d4
          go_wp2
          try simp only [Exit.inBlock, Exit.then]
          refine bodyPost_ret_by (v := .tuple #[.agg #[.int .i64 a, .int .i64 b, .int .i64 c, .int .i64 e, .int .i64 f], .bool true]) (by rw [results_cell_tmp rfl]; go_simp) rfl ?_
          exact ⟨.inl ⟨a, b, c, e, f, ⟨ps, HPS.out, HN.out, HA.out, H2.out⟩, rfl⟩, ((((HB5.out.setCell (Nat.le_refl _) _).setCell (Nat.le_refl _) _).setCell (Nat.le_refl _) _).setCell (Nat.le_refl _) _).setCell (Nat.le_refl _) _⟩
        · have H2 := Lib.hid h2
          rw [h2]
          obtain ⟨⟨z0, z1, z2, z3, z4⟩, f0, f1, f2, f3, f4⟩ := HC4.out
          go_wp2
          try simp only [Exit.inBlock, Exit.then]
          refine bodyPost_ret_by (v := .tuple #[.agg #[.int .i64 0, .int .i64 0, .int .i64 0, .int .i64 0, .int .i64 0], .bool false]) (by rw [results_cell_tmp rfl]; go_simp) rfl ?_
          exact ⟨.inr ⟨rd_bad HPS.out HA.out H2.out, rfl⟩, ((((HB4.out.setCell (Nat.le_refl _) _).setCell (Nat.le_refl _) _).setCell (Nat.le_refl _) _).setCell (Nat.le_refl _) _).setCell (Nat.le_refl _) _⟩
  · have HV := Lib.hid (six_no hps (by rw [hn]; exact h5))
    have hne : ((n : Int) != 5) = true := by simp; omega
    obtain ⟨⟨z0, z1, z2, z3, z4⟩, f0, f1, f2, f3, f4⟩ := HC1.out
    clear h5 hps hn
    go_wp2
    try simp only [Exit.inBlock, Exit.then]
    refine bodyPost_ret_by (v := .tuple #[.agg #[.int .i64 0, .int .i64 0, .int .i64 0, .int .i64 0, .int .i64 0], .bool false]) (by rw [results_cell_tmp rfl]; go_simp) rfl ?_
    exact ⟨.inr ⟨HV.out, rfl⟩, ((((HB1.out.setCell (Nat.le_refl _) _).setCell (Nat.le_refl _) _).setCell (Nat.le_refl _) _).setCell (Nat.le_refl _) _).setCell (Nat.le_refl _) _⟩
end Go.Proofs.YtmkopmdeelfmgabDoor
