/- A measurement read back from its text: the reference model. -/
import Derived.Test.YtfleececlafjkabDoorMeaRd
import Derived.Test.YtfleececlafjkabDoorSplitSpecP
set_option linter.unusedVariables false
namespace Go.Proofs.YtfleececlafjkabDoor
open Go.ChangeShapes Go.WideShapes Go.ChangeAt Go.RowKit Go.Deep

theorem strs_at {w : World} {B g cap n : Nat} {ss : List ByteArray} (hn : ss.length = n) (hown : w.ownsRow B 9 1 (.slice (some ⟨g, 0, none⟩) n cap) n (strVs ss)) (j : Nat) (hj : j < n) : w.cell? ⟨g, j, none⟩ = some (.string (ss.getD j ByteArray.empty)) := by
  rw [hown.cellAt j (by omega)]
  simp [strVs, List.getD, show j < ss.length by omega]
/-- Block g holds a measurement, and may be written. -/
def MeaF (w : World) (g : Nat) (s : ByteArray) (k f : Int) : Prop := MeaIn w g s k f ∧ w.frozen? ⟨g, 0, none⟩ = false ∧ w.frozen? ⟨g, 1, none⟩ = false ∧ w.frozen? ⟨g, 2, none⟩ = false
theorem meaF_kept {w w' : World} {B g : Nat} {s : ByteArray} {k f : Int} (hb : Below B w w') (hg : g < B) (h : MeaF w g s k f) : MeaF w' g s k f :=
  ⟨⟨by rw [hb.cell (p := ⟨g, 0, none⟩) hg]; exact h.1.c0, by rw [hb.cell (p := ⟨g, 1, none⟩) hg]; exact h.1.c1, by rw [hb.cell (p := ⟨g, 2, none⟩) hg]; exact h.1.c2⟩,
    by rw [hb.frozen (p := ⟨g, 0, none⟩) hg]; exact h.2.1, by rw [hb.frozen (p := ⟨g, 1, none⟩) hg]; exact h.2.2.1, by rw [hb.frozen (p := ⟨g, 2, none⟩) hg]; exact h.2.2.2⟩
theorem meaF_alloc (w : World) (s : ByteArray) (k f : Int) (T : TypeId) : MeaF (w.alloc (.cells #[.string s, .int .i64 k, .int .i64 f] T)) w.heap.size s k f :=
  ⟨mea_new w s k f T, by go_simp, by go_simp, by go_simp⟩
theorem meaF_lt {w : World} {g : Nat} {s : ByteArray} {k f : Int} (h : MeaF w g s k f) : g < w.heap.size := Lib.lt_of_cell h.1.c0
theorem meaF_set {w : World} {g : Nat} {s : ByteArray} {k f k' : Int} (h : MeaF w g s k f) : MeaF (w.setCell ⟨g, 1, none⟩ (.int .i64 k')) g s k' f :=
  ⟨⟨(World.cell?_setCell_other w _ _ _ (by simp)).trans h.1.c0, World.cell?_setCell_same' _ _ _ (by rw [h.1.c1]; rfl), (World.cell?_setCell_other w _ _ _ (by simp)).trans h.1.c2⟩,
    by rw [World.frozen?_setCell]; exact h.2.1, by rw [World.frozen?_setCell]; exact h.2.2.1, by rw [World.frozen?_setCell]; exact h.2.2.2⟩
theorem meaF_far {w : World} {g g2 : Nat} {s : ByteArray} {k f : Int} {v : Value} (hne : g2 ≠ g) (h : MeaF w g s k f) : MeaF (w.setCell ⟨g2, 1, none⟩ v) g s k f :=
  ⟨⟨(World.cell?_setCell_far _ _ _ _ hne).trans h.1.c0, (World.cell?_setCell_far _ _ _ _ hne).trans h.1.c1, (World.cell?_setCell_far _ _ _ _ hne).trans h.1.c2⟩,
    by rw [World.frozen?_setCell]; exact h.2.1, by rw [World.frozen?_setCell]; exact h.2.2.1, by rw [World.frozen?_setCell]; exact h.2.2.2⟩
theorem alloc_ltM (w : World) (o : Obj) : w.heap.size < (w.alloc o).heap.size := by show _ < (w.heap.push o).size; rw [Array.size_push]; omega
theorem part3 {s p0 p1 p2 : ByteArray} (h : [p0, p1, p2].map (·.data.toList) = splitL 32 s.data.toList) : p0.size ≤ s.size ∧ p1.size ≤ s.size ∧ p2.size ≤ s.size := by
  have hA : ∀ p ∈ splitL 32 s.data.toList, p.length ≤ s.size := fun p hp => by have := splitL_part 32 _ p hp; rw [size_list] at this; exact this
  rw [← h] at hA
  simp only [List.map_cons, List.map_nil, List.mem_cons, List.not_mem_nil, or_false] at hA
  have h0 := hA _ (.inl rfl)
  have h1 := hA _ (.inr (.inl rfl))
  have h2 := hA _ (.inr (.inr rfl))
  rw [size_list] at h0 h1 h2
  exact ⟨h0, h1, h2⟩
theorem ret_val {a b : Value} (h : a = b) : Ending.returned a = .returned b := by rw [h]
theorem rdS_next {W w w2 : World} {p : Nat} {x : Value} (hz : p < W.heap.size) (h : w.cell? ⟨p, 1, none⟩ = some x ∧ Below W.heap.size W w) (hb : Below w.heap.size w w2) :
    w2.cell? ⟨p, 1, none⟩ = some x ∧ Below W.heap.size W w2 :=
  ⟨(below_cell hb _ _ (Nat.lt_of_lt_of_le hz h.2.size)).trans h.1, below_of h.2 hb h.2.size⟩
set_option maxRecDepth 100000 in
set_option maxHeartbeats 4000000 in
theorem l11Read_any (s : ByteArray) (w : World) (hs : s.size ≤ 1048576) :
    Calls Tryd.prog 24 #[.string s] w fun en w' => en = .returned (mrA (splitL 32 s.data.toList)) ∧ Below w.heap.size w w' := by
  obtain ⟨V, hV⟩ : ∃ V, mrA (splitL 32 s.data.toList) = V := ⟨_, rfl⟩
  rw [hV]
  have HVA := Lib.hid hV
  clear hV
  go_enter Tryd.func24, Tryd.ntmps24
  go_wp2_with fail
  have hc0 := meaF_alloc w ⟨#[]⟩ 0 0 26
  have hcl := alloc_ltM w (.cells #[.string ⟨#[]⟩, .int .i64 0, .int .i64 0] 26)
  have HBA := Lib.hid ((Below.refl w.heap.size w).alloc (Nat.le_refl _) (.cells #[.string ⟨#[]⟩, .int .i64 0, .int .i64 0] 26))
  generalize w.alloc (.cells #[.string ⟨#[]⟩, .int .i64 0, .int .i64 0] 26) = wA at *
  refine (split_any s 32 _ hs).mono ?_
  rintro en w1 ⟨v, ps, rfl, hps, ⟨g1, c1, rfl, hB1, hlt1, hown1⟩, hb1⟩
  obtain ⟨n, hn⟩ : ∃ n, ps.length = n := ⟨_, rfl⟩
  rw [hn] at hown1 ⊢
  have HN := Lib.hid hn
  have HPS := Lib.hid hps
  have HO1 := Lib.hid hown1
  have HC1 := Lib.hid (meaF_kept hb1 hcl hc0)
  have HB1 := Lib.hid (below_of HBA.out hb1 HBA.out.size)
  have hcl1 : w.heap.size < w1.heap.size := Nat.lt_of_lt_of_le hcl hb1.size
  have hg1 : w.heap.size < g1 := Nat.lt_of_lt_of_le hcl hB1
  clear hps hown1 hb1 hn hc0
  by_cases h3 : n = 3
  · subst h3
    obtain ⟨p0, p1, p2, rfl⟩ := list_three HN.out
    obtain ⟨z0, z1, z2⟩ := part3 HPS.out
    have e0 : w1.cell? ⟨g1, 0, none⟩ = some (.string p0) := strs_at rfl HO1.out 0 (by simp)
    have e1 : w1.cell? ⟨g1, 1, none⟩ = some (.string p1) := strs_at rfl HO1.out 1 (by simp)
    have e2 : w1.cell? ⟨g1, 2, none⟩ = some (.string p2) := strs_at rfl HO1.out 2 (by simp)
    have HVB := Lib.hid (show V = mrB p0 (pnOf p1) (rdV hzTx p2) by rw [← HVA.out, ← HPS.out]; exact mrA_three p0 p1 p2)
    clear HVA HPS HN
    clear HO1
    have hz0 : p0.size ≤ maxLen := by unfold maxLen; omega
    obtain ⟨r, hr⟩ : ∃ r, rdV hzTx p2 = r := ⟨_, rfl⟩
    have HR := Lib.hid hr
    rw [hr] at HVB
    clear hr
    go_wp2_with fail
    refine (specReadHertz_any p2 _ (by omega)).mono ?_
    rintro en w2 ⟨he, hb2⟩
    unfold PairIs at he
    rw [HR.out] at he
    subst he
    have f0 := (below_cell hb2 g1 0 hlt1).trans e0
    have f1 := (below_cell hb2 g1 1 hlt1).trans e1
    have hlt2 := Nat.lt_of_lt_of_le hlt1 hb2.size
    have hcl2 := Nat.lt_of_lt_of_le hcl1 hb2.size
    have HC2 := Lib.hid (meaF_kept hb2 hcl1 HC1.out)
    have HB2 := Lib.hid (below_of HB1.out hb2 HB1.out.size)
    clear hb2 e0 e1 e2
    obtain ⟨f, hf⟩ : ∃ f, r.getD 0 = f := ⟨_, rfl⟩
    obtain ⟨o, ho⟩ : ∃ o, r.isSome = o := ⟨_, rfl⟩
    rw [hf, ho]
    have HF := Lib.hid hf
    have HO := Lib.hid ho
    clear hf ho
    have hM := meaF_alloc w2 p0 0 f 26
    have hl3 := alloc_ltM w2 (.cells #[.string p0, .int .i64 0, .int .i64 f] 26)
    have hb3 := (Below.refl w2.heap.size w2).alloc (Nat.le_refl _) (.cells #[.string p0, .int .i64 0, .int .i64 f] 26)
    have HX3 := Lib.hid (show MeaF (w2.alloc (.cells #[.string p0, .int .i64 0, .int .i64 f] 26)) w.heap.size ⟨#[]⟩ 0 0 from meaF_kept hb3 hcl2 HC2.out)
    have HG3 := Lib.hid (show (w2.alloc (.cells #[.string p0, .int .i64 0, .int .i64 f] 26)).cell? ⟨g1, 1, none⟩ = some (.string p1) from (below_cell hb3 g1 1 hlt2).trans f1)
    have HB3 := Lib.hid (below_of HB2.out hb3 HB2.out.size)
    have HM3 := Lib.hid hM
    clear hb3 hM
    go_wp2
    go_loopw [8] (fun i wr => ∃ k : Nat, 1 ≤ k ∧ k ≤ 6 ∧ i = .int .i64 k ∧ Hid (MeaF wr w2.heap.size p0 (pnTo k p1) f) ∧ Hid (MeaF wr w.heap.size ⟨#[]⟩ 0 0) ∧ wr.cell? ⟨g1, 1, none⟩ = some (.string p1) ∧ Below w.heap.size w wr) (fun i _ => 6 - (intOf i).toNat)
    case atStart => exact ⟨1, by omega, by omega, rfl, by rw [pnTo_one]; exact HM3, HX3, HG3.out, HB3.out⟩
    case round =>
      obtain ⟨k, hk1, hk6, rfl, HM, HX, hg, hbw⟩ := hrel
      have HB := Lib.hid hbw
      have hlm := meaF_lt HM.out
      have hlx := meaF_lt HX.out
      have hlg := Lib.lt_of_cell hg
      clear hbw
      by_cases hlt : k ≤ 5
      · have hk0 : (k : Int) ≤ 5 := by omega
        have HS := Lib.hid (show wr.drew.cell? ⟨g1, 1, none⟩ = some (.string p1) ∧ Below wr.heap.size wr wr.drew from ⟨hg, ⟨rfl, rfl, rfl, Nat.le_refl _, fun _ _ => rfl⟩⟩)
        by_cases he : pnT (k : Int) = p1
        · have HT := Lib.hid (pnTo_hit hk1 hlt he)
          have HP := Lib.hid (fun w => specPartName_any (k : Int) w)
          rw [he] at HP
          have hq := bytes_eq_t p1
          clear he
          go_wp2
          go_region_held3 (fun w' => w'.cell? ⟨g1, 1, none⟩ = some (.string p1) ∧ Below wr.heap.size wr w')
            (first | exact HS.out | assumption)
            (first | (go_at_call 37; refine (HP.out _).mono ?_; rintro e w6 ⟨rfl, hb6⟩; have hk6 := rdS_next hlg (by assumption) hb6))
          have HM6 := Lib.hid (meaF_kept hk6.2 hlm HM.out)
          have HX6 := Lib.hid (meaF_kept hk6.2 hlx HX.out)
          have HB6 := Lib.hid (below_of HB.out hk6.2 HB.out.size)
          have HG6 := Lib.hid hk6.1
          clear hk6 hb6
          obtain ⟨⟨m0, m1, m2⟩, n0, n1, n2⟩ := HM6.out
          go_wp2
          go_roundw
          case rel => exact ⟨k + 1, by omega, by omega, by go_num, by rw [HT.out]; exact meaF_set HM6.out, meaF_far (by omega) HX6.out, (World.cell?_setCell_far _ _ _ _ (by simp only; omega)).trans HG6.out, HB6.out.setCell (p := ⟨w2.heap.size, 1, none⟩) (Nat.le_of_lt hcl2) _⟩
          case measure => simp [intOf]; omega
        · have HT := Lib.hid (pnTo_miss hk1 hlt he)
          have HP := Lib.hid (fun w => specPartName_any (k : Int) w)
          generalize pnT (k : Int) = x at *
          have hq := bytes_eq_f he
          clear he
          go_wp2
          go_region_held3 (fun w' => w'.cell? ⟨g1, 1, none⟩ = some (.string p1) ∧ Below wr.heap.size wr w')
            (first | exact HS.out | assumption)
            (first | (go_at_call 37; refine (HP.out _).mono ?_; rintro e w6 ⟨rfl, hb6⟩; have hk6 := rdS_next hlg (by assumption) hb6))
          have HM6 := Lib.hid (meaF_kept hk6.2 hlm HM.out)
          have HX6 := Lib.hid (meaF_kept hk6.2 hlx HX.out)
          have HB6 := Lib.hid (below_of HB.out hk6.2 HB.out.size)
          have HG6 := Lib.hid hk6.1
          clear hk6 hb6
          go_wp2
          go_roundw
          case rel => exact ⟨k + 1, by omega, by omega, by go_num, by rw [HT.out]; exact HM6, HX6, HG6.out, HB6.out⟩
          case measure => simp [intOf]; omega
      · obtain rfl : k = 6 := by omega
        rw [pnTo_six] at HM
        generalize pnOf p1 = kk at *
        clear HM3 HX3 HG3 HC2 HC1
        have HMI := Lib.hid HM.out.1
        obtain ⟨⟨m0, m1, m2⟩, n0, n1, n2⟩ := HM.out
        obtain ⟨⟨x0, x1, x2⟩, y0, y1, y2⟩ := HX.out
        have hkd : ¬ (((6 : Nat) : Int) ≤ 5) := by omega
        cases r with
        | none =>
          obtain rfl : o = false := HO.out.symm
          go_wp2
          try simp only [Exit.inBlock, Exit.then]
          refine bodyPost_ret_by (v := mrNo) (by rw [results_cell_tmp rfl]; unfold mrNo; go_simp) rfl ?_
          exact ⟨ret_val HVB.out.symm, (((HB.out.setCell (Nat.le_refl _) _).setCell (Nat.le_refl _) _).setCell (Nat.le_refl _) _)⟩
        | some f' =>
          obtain rfl : o = true := HO.out.symm
          obtain rfl : f' = f := HF.out
          rcases Bool.eq_false_or_eq_true (meaB p0 kk f') with hv | hv
          · have HV := Lib.hid hv
            have HR2 := Lib.hid (show mrYes p0 kk f' = V by rw [HVB.out]; unfold mrB; simp only []; rw [if_pos hv])
            clear hv
            go_wp2_with fail
            refine (l11One_any _ p0 kk f' _ HMI.out hz0).mono ?_
            rintro en w7 ⟨rfl, rfl⟩
            rw [HV.out]
            go_wp2
            try simp only [Exit.inBlock, Exit.then]
            refine bodyPost_ret_by (v := mrYes p0 kk f') (by rw [results_cell_tmp rfl]; unfold mrYes; go_simp) rfl ?_
            exact ⟨ret_val HR2.out, (((HB.out.setCell (Nat.le_refl _) _).setCell (Nat.le_refl _) _).setCell (Nat.le_refl _) _)⟩
          · have HV := Lib.hid hv
            have HR2 := Lib.hid (show mrNo = V by rw [HVB.out]; unfold mrB; simp only []; rw [if_neg (by rw [hv]; simp)])
            clear hv
            go_wp2_with fail
            refine (l11One_any _ p0 kk f' _ HMI.out hz0).mono ?_
            rintro en w7 ⟨rfl, rfl⟩
            rw [HV.out]
            go_wp2
            try simp only [Exit.inBlock, Exit.then]
            refine bodyPost_ret_by (v := mrNo) (by rw [results_cell_tmp rfl]; unfold mrNo; go_simp) rfl ?_
            exact ⟨ret_val HR2.out, (((HB.out.setCell (Nat.le_refl _) _).setCell (Nat.le_refl _) _).setCell (Nat.le_refl _) _)⟩
  · have HV := Lib.hid (show mrNo = V from HVA.out ▸ (mrA_not (by rw [← HPS.out, List.length_map, HN.out]; exact h3)).symm)
    have hne : ((n : Int) != 3) = true := by simp; omega
    obtain ⟨⟨x0, x1, x2⟩, y0, y1, y2⟩ := HC1.out
    clear h3
    go_wp2
    try simp only [Exit.inBlock, Exit.then]
    refine bodyPost_ret_by (v := mrNo) (by rw [results_cell_tmp rfl]; unfold mrNo; go_simp) rfl ?_
    exact ⟨ret_val HV.out, (((HB1.out.setCell (Nat.le_refl _) _).setCell (Nat.le_refl _) _).setCell (Nat.le_refl _) _)⟩
set_option maxRecDepth 20000 in
set_option maxHeartbeats 1000000 in
theorem specReadMea_any (s : ByteArray) (w : World) (hs : s.size ≤ 1048576) :
    Calls Tryd.prog 10 #[.string s] w fun en w' => en = .returned (mrA (splitL 32 s.data.toList)) ∧ Below w.heap.size w w' := by
  obtain ⟨n2, k2, f2, o, hm⟩ := mrA_form (splitL 32 s.data.toList)
  have HL := Lib.hid (fun w => (hm ▸ l11Read_any s w hs : Calls Tryd.prog 24 #[.string s] w fun en w' => en = .returned (.tuple #[.agg #[.string n2, .int .i64 k2, .int .i64 f2], .bool o]) ∧ Below w.heap.size w w'))
  rw [hm]
  clear hm
  go_enter Tryd.func10, Tryd.ntmps10
  go_wp2_with fail
  have hc0 := meaF_alloc w ⟨#[]⟩ 0 0 26
  have hcl := alloc_ltM w (.cells #[.string ⟨#[]⟩, .int .i64 0, .int .i64 0] 26)
  have HBA := Lib.hid ((Below.refl w.heap.size w).alloc (Nat.le_refl _) (.cells #[.string ⟨#[]⟩, .int .i64 0, .int .i64 0] 26))
  generalize w.alloc (.cells #[.string ⟨#[]⟩, .int .i64 0, .int .i64 0] 26) = wA at *
  refine (HL.out _).mono ?_
  rintro en w1 ⟨rfl, hb⟩
  obtain ⟨⟨x0, x1, x2⟩, y0, y1, y2⟩ := meaF_kept hb hcl hc0
  have HB := Lib.hid (below_of HBA.out hb HBA.out.size)
  clear hb hc0
  go_wp2
  try simp only [Exit.inBlock, Exit.then]
  refine bodyPost_ret_by (v := .tuple #[.agg #[.string n2, .int .i64 k2, .int .i64 f2], .bool o]) (by rw [results_cell_tmp rfl]; go_simp) rfl ?_
  exact ⟨rfl, (((HB.out.setCell (Nat.le_refl _) _).setCell (Nat.le_refl _) _).setCell (Nat.le_refl _) _)⟩
end Go.Proofs.YtfleececlafjkabDoor
