/- An ingot read back from its text: the program. -/
import Derived.Test.YtikoehjalcljnaaDoorIngRd
import Derived.Test.YtikoehjalcljnaaDoorReadImpl
import Derived.Test.YtikoehjalcljnaaDoorShelfG
set_option linter.unusedVariables false
namespace Go.Proofs.YtikoehjalcljnaaDoor
open Go.ChangeShapes Go.WideShapes Go.ChangeAt Go.RowKit Go.Deep

theorem cutG_any (s : ByteArray) (w : World) (hs : s.size ≤ 1048576) (hm : Hid (MaxOk w)) :
    Calls Tryd.prog 30 #[.string s, .string ⟨#[32]⟩] w fun en w' => en = .returned (.tuple #[.string ⟨(Lib.cut s.data.toList [32]).1.toArray⟩, .string ⟨(Lib.cut s.data.toList [32]).2.1.toArray⟩, .bool (Lib.cut s.data.toList [32]).2.2]) ∧ Below w.heap.size w w' := by
  obtain ⟨mm, hmm⟩ := hm.out
  refine (Tryd.strings_Cut s ⟨#[32]⟩ mm _ (by omega) hmm).mono ?_
  rintro en w1 ⟨rfl, kd, rfl⟩
  exact ⟨rfl, below_drewNG w kd⟩
set_option maxRecDepth 100000 in
set_option maxHeartbeats 4000000 in
theorem implRI_any (s : ByteArray) (w : World) (hs : s.size ≤ 1048576) (hp : Hid (ListOk w)) :
    Calls Tryd.prog 16 #[.string s] w fun en w' => en = .returned (rgA (splitL 32 s.data.toList)) ∧ Below w.heap.size w w' := by
  obtain ⟨F1, F2⟩ := cut_len s.data.toList
  obtain ⟨V, hV⟩ : ∃ V, rgA (splitL 32 s.data.toList) = V := ⟨_, rfl⟩
  rw [hV]
  have hVA := hV.symm.trans (rg_cut s.data.toList).symm
  clear hV
  have HC1 := Lib.hid (fun w (hm : Hid (MaxOk w)) => cutG_any s w hs hm)
  rw [size_list] at F1 F2
  generalize Lib.cut s.data.toList [32] = c at *
  obtain ⟨ca, cb, cc⟩ := c
  simp only [] at F1 F2 HC1 hVA
  have hz0 : (⟨ca.toArray⟩ : ByteArray).size ≤ maxLen := by show ca.toArray.size ≤ _; rw [List.size_toArray]; unfold maxLen; omega
  have hz1 : (⟨cb.toArray⟩ : ByteArray).size ≤ 1048576 := by show cb.toArray.size ≤ _; rw [List.size_toArray]; omega
  have hVA2 : V = rgB ⟨ca.toArray⟩ (readV (⟨cb.toArray⟩ : ByteArray).data.toList) := hVA
  clear hVA
  generalize (⟨ca.toArray⟩ : ByteArray) = p0 at *
  generalize (⟨cb.toArray⟩ : ByteArray) = p1 at *
  have HVA := Lib.hid hVA2
  clear hVA2 F1 F2
  go_enter Tryd.func16, Tryd.ntmps16
  go_wp2_with fail
  have hc0 := ingF_alloc w ⟨#[]⟩ 0 0 0 0 36
  have hcl := alloc_ltG w (.cells #[.string ⟨#[]⟩, .int .i64 0, .int .i64 0, .int .i64 0, .int .i64 0] 36)
  have HBA := Lib.hid (below_alG w (.cells #[.string ⟨#[]⟩, .int .i64 0, .int .i64 0, .int .i64 0, .int .i64 0] 36))
  generalize w.alloc (.cells #[.string ⟨#[]⟩, .int .i64 0, .int .i64 0, .int .i64 0, .int .i64 0] 36) = wA at *
  have HP0 := Lib.hid (list_kept HBA.out hp.out)
  refine (HC1.out _ (Lib.hid HP0.out.mx)).mono ?_
  rintro en w1 ⟨rfl, hb1⟩
  have HX1 := Lib.hid (ingF_kept hb1 hcl hc0)
  have hcl1 := Nat.lt_of_lt_of_le hcl hb1.size
  have HP1 := Lib.hid (list_kept hb1 HP0.out)
  have HB1 := Lib.hid (below_of HBA.out hb1 HBA.out.size)
  clear hb1 hc0
  go_wp2_with fail
  refine (implReadList_any p1 _ hz1 HP1).mono ?_
  rintro en w2 ⟨hb2, ⟨hr, rfl⟩ | ⟨zs, v2, hr, hz64, rfl, g2, c2, rfl, hB2, hlt2, hown2⟩⟩
  · have HR2 := Lib.hid (show rgNo = V by rw [HVA.out, hr]; rfl)
    have HX2 := Lib.hid (ingF_kept hb2 hcl1 HX1.out)
    have HB2 := Lib.hid (below_of HB1.out hb2 HB1.out.size)
    clear hb2 HVA hr
    obtain ⟨⟨x0, x1, x2, x3, x4⟩, y0, y1, y2, y3, y4⟩ := HX2.out
    simp only [Nat.zero_add] at x0 x1 x2 x3 x4
    go_wp2
    try simp only [Exit.inBlock, Exit.then]
    refine bodyPost_ret_by (v := rgNo) (by rw [results_cell_tmp rfl]; unfold rgNo; go_simp) rfl ?_
    exact ⟨ret_valG HR2.out, (((((HB2.out.setCell (Nat.le_refl _) _).setCell (Nat.le_refl _) _).setCell (Nat.le_refl _) _).setCell (Nat.le_refl _) _).setCell (Nat.le_refl _) _)⟩
  · have HRD := Lib.hid hr
    have hcl2 := Nat.lt_of_lt_of_le hcl1 hb2.size
    have HX2 := Lib.hid (ingF_kept hb2 hcl1 HX1.out)
    have HB2 := Lib.hid (below_of HB1.out hb2 HB1.out.size)
    clear hb2 hr
    by_cases h4 : zs.length = 4
    · obtain ⟨a, x, y, z, rfl⟩ := list_four h4
      have HVB := Lib.hid (show V = rgV (p0, a, x, y, z) by rw [HVA.out, HRD.out]; rfl)
      have q0 : w2.cell? ⟨g2, 0, none⟩ = some (.int .i64 a) := hown2.cellAt 0 (by simp)
      have q1 : w2.cell? ⟨g2, 1, none⟩ = some (.int .i64 x) := hown2.cellAt 1 (by simp)
      have q2 : w2.cell? ⟨g2, 2, none⟩ = some (.int .i64 y) := hown2.cellAt 2 (by simp)
      have q3 : w2.cell? ⟨g2, 3, none⟩ = some (.int .i64 z) := hown2.cellAt 3 (by simp)
      simp only [List.length_cons, List.length_nil, Nat.zero_add, Nat.reduceAdd]
      clear HVA HRD h4 hown2
      have hAL := below_alG w2 (.cells #[.string p0, .int .i64 a, .int .i64 x, .int .i64 y, .int .i64 z] 36)
      have HS0 := Lib.hid (show (fun w' => w'.cell? ⟨g2, 0, none⟩ = some (.int .i64 a) ∧ w'.cell? ⟨g2, 1, none⟩ = some (.int .i64 x) ∧ w'.cell? ⟨g2, 2, none⟩ = some (.int .i64 y) ∧ w'.cell? ⟨g2, 3, none⟩ = some (.int .i64 z) ∧ Below w2.heap.size w2 w') w2.drew from ⟨q0, q1, q2, q3, ⟨rfl, rfl, rfl, Nat.le_refl _, fun _ _ => rfl⟩⟩)
      have HSK := Lib.hid (show ∀ W, Below w2.heap.size w2 W → W.cell? ⟨g2, 0, none⟩ = some (.int .i64 a) ∧ W.cell? ⟨g2, 1, none⟩ = some (.int .i64 x) ∧ W.cell? ⟨g2, 2, none⟩ = some (.int .i64 y) ∧ W.cell? ⟨g2, 3, none⟩ = some (.int .i64 z) ∧ Below w2.heap.size w2 W from fun W hW => ⟨(below_cell hW _ _ hlt2).trans q0, (below_cell hW _ _ hlt2).trans q1, (below_cell hW _ _ hlt2).trans q2, (below_cell hW _ _ hlt2).trans q3, hW⟩)
      go_wp2
      go_region_held3 (fun w' => w'.cell? ⟨g2, 0, none⟩ = some (.int .i64 a) ∧ w'.cell? ⟨g2, 1, none⟩ = some (.int .i64 x) ∧ w'.cell? ⟨g2, 2, none⟩ = some (.int .i64 y) ∧ w'.cell? ⟨g2, 3, none⟩ = some (.int .i64 z) ∧ Below w2.heap.size w2 w')
        (first | exact HS0.out | (refine HSK.out _ ?_; repeat (first | with_reducible exact below_aldG _ _ | with_reducible exact below_alG _ _ | refine Below.setCell ?_ (Nat.le_refl _) _)) | assumption)
        (fail)
      have HX5 := Lib.hid (show IngF (w2.alloc (.cells #[.string p0, .int .i64 a, .int .i64 x, .int .i64 y, .int .i64 z] 36)).drew w.heap.size (⟨#[]⟩, 0, 0, 0, 0) from ingF_kept (below_aldG w2 (.cells #[.string p0, .int .i64 a, .int .i64 x, .int .i64 y, .int .i64 z] 36)) hcl2 HX2.out)
      have HM5 := Lib.hid (show IngF (w2.alloc (.cells #[.string p0, .int .i64 a, .int .i64 x, .int .i64 y, .int .i64 z] 36)).drew w2.heap.size (p0, a, x, y, z) from (let h := ingF_alloc w2 p0 a x y z 36; ⟨⟨h.1.c0, h.1.c1, h.1.c2, h.1.c3, h.1.c4⟩, h.2⟩))
      have HB5 := Lib.hid (below_of HB2.out (below_aldG w2 (.cells #[.string p0, .int .i64 a, .int .i64 x, .int .i64 y, .int .i64 z] 36)) HB2.out.size)
      have hl5 : w2.heap.size < (w2.alloc (.cells #[.string p0, .int .i64 a, .int .i64 x, .int .i64 y, .int .i64 z] 36)).drew.heap.size := alloc_ltG w2 (.cells #[.string p0, .int .i64 a, .int .i64 x, .int .i64 y, .int .i64 z] 36)
      have hcl5 : w.heap.size < (w2.alloc (.cells #[.string p0, .int .i64 a, .int .i64 x, .int .i64 y, .int .i64 z] 36)).drew.heap.size := Nat.lt_trans hcl2 hl5
      clear HS0 HSK hAL q0 q1 q2 q3
      generalize (w2.alloc (.cells #[.string p0, .int .i64 a, .int .i64 x, .int .i64 y, .int .i64 z] 36)).drew = w5 at *
      rcases Bool.eq_false_or_eq_true (ingB (p0, a, x, y, z)) with hv | hv
      · have HV := Lib.hid hv
        have HR2 := Lib.hid (show rgYes (p0, a, x, y, z) = V by rw [HVB.out]; unfold rgV; rw [if_pos hv])
        clear hv
        obtain ⟨m0, m1, m2, m3, m4⟩ := HM5.out.1
        simp only [Nat.zero_add] at m0 m1 m2 m3 m4
        go_wp2_with fail
        clear m0 m1 m2 m3 m4
        refine (implIngValid_any p0 a x y z _ hz0).mono ?_
        rintro en w6 ⟨rfl, hb⟩
        rw [HV.out]
        have HX6 := Lib.hid (ingF_kept hb hcl5 HX5.out)
        have HM6 := Lib.hid (ingF_kept hb hl5 HM5.out)
        have HB6 := Lib.hid (below_of HB5.out hb HB5.out.size)
        clear hb
        obtain ⟨⟨x0, x1, x2, x3, x4⟩, y0, y1, y2, y3, y4⟩ := HX6.out
        obtain ⟨m0, m1, m2, m3, m4⟩ := HM6.out.1
        simp only [Nat.zero_add] at x0 x1 x2 x3 x4 m0 m1 m2 m3 m4
        go_wp2
        try simp only [Exit.inBlock, Exit.then]
        refine bodyPost_ret_by (v := rgYes (p0, a, x, y, z)) (by rw [results_cell_tmp rfl]; unfold rgYes; go_simp) rfl ?_
        exact ⟨ret_valG HR2.out, (((((HB6.out.setCell (Nat.le_refl _) _).setCell (Nat.le_refl _) _).setCell (Nat.le_refl _) _).setCell (Nat.le_refl _) _).setCell (Nat.le_refl _) _)⟩
      · have HV := Lib.hid hv
        have HR2 := Lib.hid (show rgNo = V by rw [HVB.out]; unfold rgV; rw [if_neg (by rw [hv]; simp)])
        clear hv
        obtain ⟨m0, m1, m2, m3, m4⟩ := HM5.out.1
        simp only [Nat.zero_add] at m0 m1 m2 m3 m4
        go_wp2_with fail
        clear m0 m1 m2 m3 m4
        refine (implIngValid_any p0 a x y z _ hz0).mono ?_
        rintro en w6 ⟨rfl, hb⟩
        rw [HV.out]
        have HX6 := Lib.hid (ingF_kept hb hcl5 HX5.out)
        have HM6 := Lib.hid (ingF_kept hb hl5 HM5.out)
        have HB6 := Lib.hid (below_of HB5.out hb HB5.out.size)
        clear hb
        obtain ⟨⟨x0, x1, x2, x3, x4⟩, y0, y1, y2, y3, y4⟩ := HX6.out
        simp only [Nat.zero_add] at x0 x1 x2 x3 x4
        go_wp2
        try simp only [Exit.inBlock, Exit.then]
        refine bodyPost_ret_by (v := rgNo) (by rw [results_cell_tmp rfl]; unfold rgNo; go_simp) rfl ?_
        exact ⟨ret_valG HR2.out, (((((HB6.out.setCell (Nat.le_refl _) _).setCell (Nat.le_refl _) _).setCell (Nat.le_refl _) _).setCell (Nat.le_refl _) _).setCell (Nat.le_refl _) _)⟩
    · have HR2 := Lib.hid (show rgNo = V by rw [HVA.out, HRD.out]; exact (rgB_not h4).symm)
      have hne4 : ((zs.length : Int) != 4) = true := by simp; omega
      generalize hzl : zs.length = n4 at *
      clear hzl HVA HRD hown2
      obtain ⟨⟨x0, x1, x2, x3, x4⟩, y0, y1, y2, y3, y4⟩ := HX2.out
      simp only [Nat.zero_add] at x0 x1 x2 x3 x4
      go_wp2
      try simp only [Exit.inBlock, Exit.then]
      refine bodyPost_ret_by (v := rgNo) (by rw [results_cell_tmp rfl]; unfold rgNo; go_simp) rfl ?_
      exact ⟨ret_valG HR2.out, (((((HB2.out.setCell (Nat.le_refl _) _).setCell (Nat.le_refl _) _).setCell (Nat.le_refl _) _).setCell (Nat.le_refl _) _).setCell (Nat.le_refl _) _)⟩
end Go.Proofs.YtikoehjalcljnaaDoor
