/- A measurement read back from its text: the program. -/
import Derived.Test.YtfleececlafjkabDoorMeaRdS
import Derived.Test.YtfleececlafjkabDoorShelfG
set_option linter.unusedVariables false
namespace Go.Proofs.YtfleececlafjkabDoor
open Go.ChangeShapes Go.WideShapes Go.ChangeAt Go.RowKit Go.Deep

/-- What reading a measurement leans on. -/
structure MrOk (W : World) : Prop where
  rd : ReadOk W
  pt : PartOk W
  mx : MaxOk W
theorem mrOk_kept {W W' : World} (hb : Below W.heap.size W W') (h : MrOk W) : MrOk W' := ⟨read_kept hb h.rd, part_kept hb h.pt, mx_kept hb h.mx⟩
theorem cutM_any (s : ByteArray) (w : World) (hs : s.size ≤ 1048576) (hm : Hid (MaxOk w)) :
    Calls Tryd.prog 25 #[.string s, .string ⟨#[32]⟩] w fun en w' => en = .returned (.tuple #[.string ⟨(Lib.cut s.data.toList [32]).1.toArray⟩, .string ⟨(Lib.cut s.data.toList [32]).2.1.toArray⟩, .bool (Lib.cut s.data.toList [32]).2.2]) ∧ Below w.heap.size w w' := by
  obtain ⟨mm, hmm⟩ := hm.out
  refine (Tryd.strings_Cut s ⟨#[32]⟩ mm _ (by omega) hmm).mono ?_
  rintro en w1 ⟨rfl, kd, rfl⟩
  exact ⟨rfl, below_drewN w kd⟩
set_option maxRecDepth 100000 in
set_option maxHeartbeats 4000000 in
theorem implReadMea_any (s : ByteArray) (w : World) (hs : s.size ≤ 1048576) (hp : Hid (MrOk w)) :
    Calls Tryd.prog 11 #[.string s] w fun en w' => en = .returned (mrA (splitL 32 s.data.toList)) ∧ Below w.heap.size w w' := by
  obtain ⟨F1, F2⟩ := cut_len s.data.toList
  obtain ⟨F3, F4⟩ := cut_len (Lib.cut s.data.toList [32]).2.1
  rw [← mr_cut]
  have HC1 := Lib.hid (fun w (hm : Hid (MaxOk w)) => cutM_any s w hs hm)
  rw [size_list] at F1 F2
  generalize Lib.cut s.data.toList [32] = c at *
  obtain ⟨ca, cb, cc⟩ := c
  simp only [] at F1 F2 F3 F4 HC1 ⊢
  have HC2 := Lib.hid (fun w (hm : Hid (MaxOk w)) => cutM_any ⟨cb.toArray⟩ w (by show cb.toArray.size ≤ _; rw [List.size_toArray]; omega) hm)
  rw [show (⟨cb.toArray⟩ : ByteArray).data.toList = cb from rfl] at HC2
  generalize Lib.cut cb [32] = d at *
  obtain ⟨da, db, dc⟩ := d
  simp only [] at F3 F4 HC2 ⊢
  have hzn : (⟨ca.toArray⟩ : ByteArray).size ≤ maxLen := by show ca.toArray.size ≤ _; rw [List.size_toArray]; unfold maxLen; omega
  have hzv : (⟨db.toArray⟩ : ByteArray).size ≤ 1048576 := by show db.toArray.size ≤ _; rw [List.size_toArray]; omega
  generalize (⟨ca.toArray⟩ : ByteArray) = nm at *
  generalize (⟨cb.toArray⟩ : ByteArray) = rs at *
  generalize (⟨da.toArray⟩ : ByteArray) = pt at *
  generalize (⟨db.toArray⟩ : ByteArray) = vt at *
  clear F1 F2 F3 F4
  obtain ⟨V, hV⟩ : ∃ V, mrB nm (pnOf pt) (rdV hzTx vt) = V := ⟨_, rfl⟩
  have HPN := Lib.hid (fun w (h : Hid (PartOk w)) => partialNamed_any pt w h)
  have HRH := Lib.hid (fun w (h : Hid (MrOk w)) => implReadHertz_any vt w hzv (Lib.hid h.out.rd) h.out.mx)
  obtain ⟨r, hr⟩ : ∃ r, rdV hzTx vt = r := ⟨_, rfl⟩
  unfold PairIs at HRH
  generalize pnOf pt = k at *
  rw [hr] at hV HRH
  rw [hr]
  clear hr
  rw [hV]
  have HV := Lib.hid hV
  clear hV
  obtain ⟨f, hf⟩ : ∃ f, r.getD 0 = f := ⟨_, rfl⟩
  obtain ⟨o, ho⟩ : ∃ o, r.isSome = o := ⟨_, rfl⟩
  rw [hf, ho] at HRH
  have HF := Lib.hid hf
  have HO := Lib.hid ho
  clear hf ho
  obtain ⟨q, hq⟩ : ∃ q, decide (k ≠ 0) = q := ⟨_, rfl⟩
  rw [hq] at HPN
  have HQ := Lib.hid hq
  clear hq
  go_enter Tryd.func11, Tryd.ntmps11
  go_wp2_with fail
  have hc0 := meaF_alloc w ⟨#[]⟩ 0 0 26
  have hcl := alloc_ltM w (.cells #[.string ⟨#[]⟩, .int .i64 0, .int .i64 0] 26)
  have HBA := Lib.hid ((Below.refl w.heap.size w).alloc (Nat.le_refl _) (.cells #[.string ⟨#[]⟩, .int .i64 0, .int .i64 0] 26))
  generalize w.alloc (.cells #[.string ⟨#[]⟩, .int .i64 0, .int .i64 0] 26) = wA at *
  have HP0 := Lib.hid (mrOk_kept HBA.out hp.out)
  refine (HC1.out _ (Lib.hid HP0.out.mx)).mono ?_
  rintro en w1 ⟨rfl, hb⟩
  have HX1 := Lib.hid (meaF_kept hb hcl hc0)
  have hcl1 := Nat.lt_of_lt_of_le hcl hb.size
  have HP1 := Lib.hid (mrOk_kept hb HP0.out)
  have HB1 := Lib.hid (below_of HBA.out hb HBA.out.size)
  clear hb hc0
  go_wp2_with fail
  refine (HC2.out _ (Lib.hid HP1.out.mx)).mono ?_
  rintro en w2 ⟨rfl, hb⟩
  have HX2 := Lib.hid (meaF_kept hb hcl1 HX1.out)
  have hcl2 := Nat.lt_of_lt_of_le hcl1 hb.size
  have HP2 := Lib.hid (mrOk_kept hb HP1.out)
  have HB2 := Lib.hid (below_of HB1.out hb HB1.out.size)
  clear hb
  go_wp2_with fail
  refine (HPN.out _ (Lib.hid HP2.out.pt)).mono ?_
  rintro en w3 ⟨rfl, hb⟩
  have HX3 := Lib.hid (meaF_kept hb hcl2 HX2.out)
  have hcl3 := Nat.lt_of_lt_of_le hcl2 hb.size
  have HP3 := Lib.hid (mrOk_kept hb HP2.out)
  have HB3 := Lib.hid (below_of HB2.out hb HB2.out.size)
  clear hb
  go_wp2_with fail
  refine (HRH.out _ HP3).mono ?_
  rintro en w4 ⟨rfl, hb⟩
  have HX4 := Lib.hid (meaF_kept hb hcl3 HX3.out)
  have hcl4 := Nat.lt_of_lt_of_le hcl3 hb.size
  have HB4 := Lib.hid (below_of HB3.out hb HB3.out.size)
  clear hb
  have hb5 := (Below.refl w4.heap.size w4).alloc (Nat.le_refl _) (.cells #[.string nm, .int .i64 k, .int .i64 f] 26)
  have HX5 := Lib.hid (meaF_kept hb5 hcl4 HX4.out)
  have HB5 := Lib.hid (below_of HB4.out hb5 HB4.out.size)
  have HM5 := Lib.hid (meaF_alloc w4 nm k f 26)
  have hl5 := alloc_ltM w4 (.cells #[.string nm, .int .i64 k, .int .i64 f] 26)
  have hcl5 := Nat.lt_of_lt_of_le hcl4 hb5.size
  clear hb5
  cases q with
  | false =>
    obtain rfl : k = 0 := by have := of_decide_eq_false HQ.out; omega
    have HR2 := Lib.hid (show mrNo = V by rw [← HV.out, mrB_zero])
    obtain ⟨⟨x0, x1, x2⟩, y0, y1, y2⟩ := HX4.out
    go_wp2
    try simp only [Exit.inBlock, Exit.then]
    refine bodyPost_ret_by (v := mrNo) (by rw [results_cell_tmp rfl]; unfold mrNo; go_simp) rfl ?_
    exact ⟨ret_val HR2.out, (((HB4.out.setCell (Nat.le_refl _) _).setCell (Nat.le_refl _) _).setCell (Nat.le_refl _) _).alloc (by simpa using HB4.out.size) _⟩
  | true =>
    cases r with
    | none =>
      obtain rfl : o = false := HO.out.symm
      have HR2 := Lib.hid (show mrNo = V from HV.out)
      obtain ⟨⟨x0, x1, x2⟩, y0, y1, y2⟩ := HX4.out
      go_wp2
      try simp only [Exit.inBlock, Exit.then]
      refine bodyPost_ret_by (v := mrNo) (by rw [results_cell_tmp rfl]; unfold mrNo; go_simp) rfl ?_
      exact ⟨ret_val HR2.out, (((HB4.out.setCell (Nat.le_refl _) _).setCell (Nat.le_refl _) _).setCell (Nat.le_refl _) _).alloc (by simpa using HB4.out.size) _⟩
    | some f' =>
      obtain rfl : o = true := HO.out.symm
      obtain rfl : f' = f := HF.out
      have hk6 : ∀ w6, Below (w4.alloc (.cells #[.string nm, .int .i64 k, .int .i64 f'] 26)).heap.size (w4.alloc (.cells #[.string nm, .int .i64 k, .int .i64 f'] 26)) w6 →
          MeaF w6 w.heap.size ⟨#[]⟩ 0 0 ∧ MeaF w6 w4.heap.size nm k f' ∧ Below w.heap.size w w6 := fun w6 hb => ⟨meaF_kept hb hcl5 HX5.out, meaF_kept hb hl5 HM5.out, below_of HB5.out hb HB5.out.size⟩
      have HK6 := Lib.hid hk6
      clear hk6
      rcases Bool.eq_false_or_eq_true (meaB nm k f') with hv | hv
      · have HVV := Lib.hid hv
        have HR2 := Lib.hid (show mrYes nm k f' = V by rw [← HV.out]; unfold mrB; simp only []; rw [if_pos hv])
        clear hv
        go_wp2_with fail
        refine (meaValid_any nm k f' _ hzn).mono ?_
        rintro en w6 ⟨rfl, hb⟩
        rw [HVV.out]
        obtain ⟨⟨⟨x0, x1, x2⟩, y0, y1, y2⟩, ⟨⟨m0, m1, m2⟩, n0, n1, n2⟩, hb6⟩ := HK6.out _ hb
        have HB6 := Lib.hid hb6
        clear hb hb6
        go_wp2
        try simp only [Exit.inBlock, Exit.then]
        refine bodyPost_ret_by (v := mrYes nm k f') (by rw [results_cell_tmp rfl]; unfold mrYes; go_simp) rfl ?_
        exact ⟨ret_val HR2.out, (((HB6.out.setCell (Nat.le_refl _) _).setCell (Nat.le_refl _) _).setCell (Nat.le_refl _) _)⟩
      · have HVV := Lib.hid hv
        have HR2 := Lib.hid (show mrNo = V by rw [← HV.out]; unfold mrB; simp only []; rw [if_neg (by rw [hv]; simp)])
        clear hv
        go_wp2_with fail
        refine (meaValid_any nm k f' _ hzn).mono ?_
        rintro en w6 ⟨rfl, hb⟩
        rw [HVV.out]
        obtain ⟨⟨⟨x0, x1, x2⟩, y0, y1, y2⟩, ⟨⟨m0, m1, m2⟩, n0, n1, n2⟩, hb6⟩ := HK6.out _ hb
        have HB6 := Lib.hid hb6
        clear hb hb6
        go_wp2
        try simp only [Exit.inBlock, Exit.then]
        refine bodyPost_ret_by (v := mrNo) (by rw [results_cell_tmp rfl]; unfold mrNo; go_simp) rfl ?_
        exact ⟨ret_val HR2.out, (((HB6.out.setCell (Nat.le_refl _) _).setCell (Nat.le_refl _) _).setCell (Nat.le_refl _) _)⟩
theorem eqMeasure_any (s : ByteArray) (k f : Int) (w : World) :
    Calls Tryd.prog 12 #[.agg #[.string s, .int .i64 k, .int .i64 f], .agg #[.string s, .int .i64 k, .int .i64 f]] w fun en w' => en = .returned (.bool true) ∧ Below w.heap.size w w' := by
  have h0 : (s.toList != s.toList) = false := by simp
  have h1 : (k != k) = false := by simp
  have h2 : (f != f) = false := by simp
  go_enter Tryd.func12, Tryd.ntmps12
  go_wp2
  go_ret
  exact ⟨rfl, ((Below.refl _ _).alloc (Nat.le_refl _) _).alloc (by simp) _⟩
end Go.Proofs.YtfleececlafjkabDoor
