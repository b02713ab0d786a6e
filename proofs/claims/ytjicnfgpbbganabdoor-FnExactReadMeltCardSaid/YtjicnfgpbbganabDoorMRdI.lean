/- A melt read back from its text: the program. -/
import Derived.Test.YtjicnfgpbbganabDoorMRd
import Derived.Deep.RegionHeld3
import Derived.Deep.DeepCutAuto
import Derived.Test.YtjicnfgpbbganabDoorMRdS
import Derived.Test.YtjicnfgpbbganabDoorMeltI
import Derived.Test.YtjicnfgpbbganabDoorShelfD
set_option linter.unusedVariables false
namespace Go.Proofs.YtjicnfgpbbganabDoor
open Go.ChangeShapes Go.WideShapes Go.ChangeAt Go.RowKit

/-- The variables that the program's reading looks into. -/
def MxOk (w : World) : Prop := ∃ m, w.cell? ⟨0, 0, none⟩ = some (.int .i64 m)
structure LsOk (w : World) : Prop where
  rd : ReadOk w
  mx : MxOk w
theorem mx_keptM {W W' : World} (hb : Below W.heap.size W W') (h : MxOk W) : MxOk W' := by
  obtain ⟨m, hm⟩ := h
  exact ⟨m, by rw [hb.cell (p := ⟨_, 0, none⟩) (Lib.lt_of_cell hm)]; exact hm⟩
theorem ls_kept {W W' : World} (hb : Below W.heap.size W W') (h : LsOk W) : LsOk W' := ⟨read_kept hb h.rd, mx_keptM hb h.mx⟩
theorem splitB3_any (s : ByteArray) (w : World) (hm : MxOk w) (hs : s.size ≤ 1048576) :
    Calls Tryd.prog 10 #[.string s, .string ⟨#[32]⟩, .int .i64 3] w fun e w' => ∃ (v : Value) (qs : List ByteArray), e = .returned v ∧ qs.map (·.data.toList) = Lib.splitK [32] 0 (min 3 (s.data.toList.length + 1) - 1) s.data.toList ∧ StrsIn w' w.heap.size v qs ∧ Below w.heap.size w w' := by
  obtain ⟨m, hm⟩ := hm
  refine (Tryd.strings_SplitN s ⟨#[32]⟩ 3 m w (by omega) hm (by decide) (by decide) (by decide)).mono ?_
  rintro e w' ⟨rfl, rfl⟩
  refine ⟨_, Lib.splitB ⟨#[32]⟩ 0 (min 3 (s.size + 1) - 1) s, rfl, ?_, ⟨w.heap.size, _, rfl, Nat.le_refl _, by simp, fun j hj => ?_⟩, (Below.refl _ _).alloc (Nat.le_refl _) _⟩
  · rw [Lib.splitB_data, size_list]
  · rw [World.cell?_alloc_new]
    unfold Lib.cellsOf
    rw [List.getElem?_toArray, List.getElem?_append_left (by simpa using hj), List.getElem?_map, List.getD_eq_getElem?_getD, List.getElem?_eq_getElem hj]
    rfl
theorem splitC16_any (s : ByteArray) (w : World) (hm : MxOk w) (hs : s.size ≤ 1048576) :
    Calls Tryd.prog 10 #[.string s, .string ⟨#[44]⟩, .int .i64 16] w fun e w' => ∃ (v : Value) (qs : List ByteArray), e = .returned v ∧ qs.map (·.data.toList) = Lib.splitK [44] 0 (min 16 (s.data.toList.length + 1) - 1) s.data.toList ∧ OwnSt w' w.heap.size v qs ∧ Below w.heap.size w w' := by
  obtain ⟨m, hm⟩ := hm
  refine (Tryd.strings_SplitN s ⟨#[44]⟩ 16 m w (by omega) hm (by decide) (by decide) (by decide)).mono ?_
  rintro e w' ⟨rfl, rfl⟩
  refine ⟨_, Lib.splitB ⟨#[44]⟩ 0 (min 16 (s.size + 1) - 1) s, rfl, ?_, ?_, (Below.refl _ _).alloc (Nat.le_refl _) _⟩
  · rw [Lib.splitB_data, size_list]
  · have hle : (Lib.splitB ⟨#[44]⟩ 0 (min 16 (s.size + 1) - 1) s).length ≤ min 16 (s.size + 1) := by have := Lib.splitB_length_le ⟨#[44]⟩ 0 (min 16 (s.size + 1) - 1) s; omega
    refine ⟨w.heap.size, _, rfl, Nat.le_refl _, by simp, by simp [stV], .inr ⟨w.heap.size, _, _, rfl, Nat.le_refl _, heap_alloc_new w _, hle, by unfold maxLen; omega, by rw [Lib.cellsOf_size hle, Nat.mul_one], ?_⟩⟩
    unfold Lib.cellsOf stV
    simp
set_option maxRecDepth 100000 in
set_option maxHeartbeats 8000000 in
theorem implRM_any (s : ByteArray) (w : World) (hs : s.size ≤ 1048576) (hp : Hid (LsOk w)) :
    Calls Tryd.prog 5 #[.string s] w (RmPost (rmA s) w) := by
  obtain ⟨R, hR⟩ : ∃ R, rmA s = R := ⟨_, rfl⟩
  rw [hR]
  have HRA := Lib.hid hR
  clear hR
  go_enter Tryd.func5, Tryd.ntmps5
  go_wp2_with fail
  have hc0 := mlF_alloc w (.string ⟨#[]⟩) (.slice none 0 0) (.int .i64 0) 24
  have hcl := alloc_ltT w (.cells #[.string ⟨#[]⟩, .slice none 0 0, .int .i64 0] 24)
  have HBA := Lib.hid (below_alT w (.cells #[.string ⟨#[]⟩, .slice none 0 0, .int .i64 0] 24))
  generalize w.alloc (.cells #[.string ⟨#[]⟩, .slice none 0 0, .int .i64 0] 24) = wA at *
  have HP0 := Lib.hid (ls_kept HBA.out hp.out)
  refine (splitB3_any s _ HP0.out.mx hs).mono ?_
  rintro en w1 ⟨v, ps, rfl, hps, ⟨g1, c1, rfl, hB1, hlt1, hcs⟩, hb1⟩
  have HP1 := Lib.hid (ls_kept hb1 HP0.out)
  obtain ⟨n, hn⟩ : ∃ n, ps.length = n := ⟨_, rfl⟩
  rw [hn] at hcs ⊢
  have HN := Lib.hid hn
  have HPS := Lib.hid hps
  have HX1 := Lib.hid (mlF_kept hb1 hcl hc0)
  have HB1 := Lib.hid (below_of HBA.out hb1 HBA.out.size)
  have hcl1 : w.heap.size < w1.heap.size := Nat.lt_of_lt_of_le hcl hb1.size
  clear hps hb1 hn hc0
  by_cases h3 : n = 3
  · subst h3
    obtain ⟨p0, p1, p2, rfl⟩ := list_threeM HN.out
    obtain ⟨zz0, zz1, zz2⟩ := sizes_prog HPS.out
    have d0 : w1.cell? ⟨g1, 0, none⟩ = some (.string p0) := hcs 0 (by omega)
    have d1 : w1.cell? ⟨g1, 1, none⟩ = some (.string p1) := hcs 1 (by omega)
    have d2 : w1.cell? ⟨g1, 2, none⟩ = some (.string p2) := hcs 2 (by omega)
    have HRC := Lib.hid (show R = rmC p0 p2 (namesL p1) by rw [← HRA.out]; exact rmA_prog HPS.out)
    clear HRA HPS HN hcs
    have hz0 : p0.size ≤ maxLen := by unfold maxLen; omega
    have hz1 : p1.size ≤ 1048576 := by omega
    go_wp2_with fail
    refine (implReadDecimal_any p2 _ (by omega) (Lib.hid HP1.out.rd)).mono ?_
    rintro en w2 ⟨hr, hb2⟩
    unfold NumRet at hr
    subst hr
    have d0 := (below_cell hb2 g1 0 hlt1).trans d0
    have d1 := (below_cell hb2 g1 1 hlt1).trans d1
    have d2 := (below_cell hb2 g1 2 hlt1).trans d2
    have HP1 := Lib.hid (ls_kept hb2 HP1.out)
    have HX1 := Lib.hid (mlF_kept hb2 hcl1 HX1.out)
    have HB1 := Lib.hid (below_of HB1.out hb2 HB1.out.size)
    have hcl1 := Nat.lt_of_lt_of_le hcl1 hb2.size
    have hlt1 := Nat.lt_of_lt_of_le hlt1 hb2.size
    clear hb2
    obtain ⟨w1, rfl⟩ : ∃ x, x = w2 := ⟨_, rfl⟩
    obtain ⟨ok, hok⟩ : ∃ ok, numOk p2 = ok := ⟨_, rfl⟩
    obtain ⟨z, hz⟩ : ∃ z, numV p2 = z := ⟨_, rfl⟩
    rw [hok, hz]
    have HOKE := Lib.hid hok
    have HZE := Lib.hid hz
    clear hok hz
    have HSK := Lib.hid (show ∀ W, Below w1.heap.size w1 W → W.cell? ⟨g1, 0, none⟩ = some (.string p0) ∧ W.cell? ⟨g1, 1, none⟩ = some (.string p1) ∧ Below w1.heap.size w1 W from fun W hW => ⟨(below_cell hW _ _ hlt1).trans d0, (below_cell hW _ _ hlt1).trans d1, hW⟩)
    have HS0 := Lib.hid (HSK.out w1.drew ⟨rfl, rfl, rfl, Nat.le_refl _, fun _ _ => rfl⟩)
    have HSA1 := Lib.hid (HSK.out (w1.alloc (.cells #[.string ⟨#[]⟩, .slice none 0 0, .int .i64 0] 24)).drew (below_aldM _ _))
    have HKN := Lib.hid (fun w2 (hb : Below w1.drew.heap.size w1.drew w2) => show Below w1.heap.size w1 w2 from ⟨hb.os, hb.tape, hb.output, hb.size, hb.block⟩)
    have HKA := Lib.hid (fun w2 (hb : Below (w1.alloc (.cells #[.string ⟨#[]⟩, .slice none 0 0, .int .i64 0] 24)).drew.heap.size (w1.alloc (.cells #[.string ⟨#[]⟩, .slice none 0 0, .int .i64 0] 24)).drew w2) => show MlF w2 w1.heap.size (.string ⟨#[]⟩) (.slice none 0 0) (.int .i64 0) ∧ w1.heap.size < w2.heap.size ∧ Below w1.heap.size w1 w2 from
      (let hb6 : Below (w1.alloc (.cells #[.string ⟨#[]⟩, .slice none 0 0, .int .i64 0] 24)).heap.size (w1.alloc (.cells #[.string ⟨#[]⟩, .slice none 0 0, .int .i64 0] 24)) w2 := ⟨hb.os, hb.tape, hb.output, hb.size, hb.block⟩
       let hl := alloc_ltT w1 (.cells #[.string ⟨#[]⟩, .slice none 0 0, .int .i64 0] 24)
       ⟨mlF_kept hb6 hl (mlF_alloc _ _ _ _ _), Nat.lt_of_lt_of_le hl hb6.size, below_of (below_alT w1 (.cells #[.string ⟨#[]⟩, .slice none 0 0, .int .i64 0] 24)) hb6 (Nat.le_of_lt hl)⟩))
    have HJS := Lib.hid (show ∀ W, Below w1.heap.size w1 W → Calls Tryd.prog 10 #[.string p1, .string ⟨#[44]⟩, .int .i64 16] W fun en w' => ∃ v qs, en = .returned v ∧ rmC p0 p2 qs = R ∧ OwnSt w' W.heap.size v qs ∧ SzSt qs ∧ qs.length ≤ 1048576 ∧ Below W.heap.size W w' from fun W hW => (splitC16_any p1 W (ls_kept hW HP1.out).mx hz1).mono (by
      rintro en w' ⟨v, qs, rfl, hq, ho, hb⟩
      exact ⟨v, qs, rfl, by rw [HRC.out]; exact rmC_names hq, ho, sz_prog hz1 hq, len_prog hz1 hq, hb⟩))
    have hs0 := HS0.out
    have hsA := HSA1.out
    go_wp2
    go_cut [7] from 21 (fun sp wr => ∃ gb gs cs qs, sp = .pointer (some ⟨gb, 0, none⟩) ∧ MlF wr gb (.string p0) (.slice (some ⟨gs, 0, none⟩) qs.length cs) (.int .i64 z) ∧ gb < wr.heap.size ∧ OwnSt wr w1.heap.size (.slice (some ⟨gs, 0, none⟩) qs.length cs) qs ∧ rmC p0 p2 qs = R ∧ SzSt qs ∧ qs.length ≤ 1048576 ∧ w1.heap.size ≤ gb ∧ gb ≠ gs ∧ Below w1.heap.size w1 wr)
    case first =>
      go_region_held3 (fun W => W.cell? ⟨g1, 0, none⟩ = some (.string p0) ∧ W.cell? ⟨g1, 1, none⟩ = some (.string p1) ∧ Below w1.heap.size w1 W)
        (first | with_reducible exact HS0.out | with_reducible exact HSA1.out | with_reducible assumption | (refine HSK.out _ ?_; repeat (first | with_reducible exact hkb | refine Below.setCell ?_ (by first | with_reducible exact Nat.le_refl _ | with_reducible exact hkb.size) _ | refine Below.alloc ?_ (by first | with_reducible exact Nat.le_refl _ | with_reducible exact hkb.size) _)))
        (first
          | (go_at_call 10; refine (HJS.out _ (And.right (And.right (by assumption)))).mono ?_; rintro en w6 ⟨v6, qs6, rfl, hr6, ho6, hsz6, hl6, hb6⟩; obtain ⟨gs6, cs6, rfl, hge6, hlt6, hrow6⟩ := ho6; have hka := (by with_reducible exact HKA.out _ hb6); obtain ⟨hmf, hkl, hkb⟩ := hka; have hge7 : w1.heap.size + 1 ≤ gs6 := (Nat.le_trans (Nat.succ_le_of_lt (alloc_ltT w1 (.cells #[.string ⟨#[]⟩, .slice none 0 0, .int .i64 0] 24))) hge6); obtain ⟨⟨z0, z1, z2⟩, y0, y1, y2⟩ := hmf; have hks := HSK.out _ hkb)
          | (go_at_call 10; refine (HJS.out _ (And.right (And.right (by assumption)))).mono ?_; rintro en w6 ⟨v6, qs6, rfl, hr6, ho6, hsz6, hl6, hb6⟩; obtain ⟨gs6, cs6, rfl, hge6, hlt6, hrow6⟩ := ho6; have hkb := (by with_reducible exact HKN.out _ hb6); have hge7 : w1.heap.size ≤ gs6 := hge6; have hks := HSK.out _ hkb))
      all_goals
        go_wp2_with fail
        go_meet
        case rel => first
          | (have hk0 := hkl; refine ⟨_, gs6, cs6, qs6, rfl, ?_, ?_, ?_, hr6, hsz6, hl6, Nat.le_refl _, by omega, ?_⟩; (exact ⟨⟨by go_simp, by go_simp, by go_simp⟩, by go_simp, by go_simp, by go_simp⟩); (simp only [World.size_setCell]; exact hkl); (exact ownSt_base (B := w1.heap.size + 1) (ownSt_set (ownSt_set (ownSt_set ⟨gs6, cs6, rfl, hge7, hlt6, hrow_base hge7 hrow6⟩ _ _ _ (by omega)) _ _ _ (by omega)) _ _ _ (by omega)) (by omega)); exact ((hkb.setCell (Nat.le_refl _) _).setCell (Nat.le_refl _) _).setCell (Nat.le_refl _) _)
          | (refine ⟨_, gs6, cs6, qs6, rfl, mlF_alloc _ _ _ _ _, alloc_ltT _ _, ?_, hr6, hsz6, hl6, hkb.size, by omega, ?_⟩; exact ownSt_kept (below_alT _ _) ⟨gs6, cs6, rfl, hge7, hlt6, hrow_base hge7 hrow6⟩; exact hkb.alloc hkb.size _)
          | fail "no end"
    obtain ⟨gb, gs, cs, qs, rfl, hfv, hgl, hown, hrc, hsz, hql, hgb, hgne, hb⟩ := hcut
    obtain ⟨w2, rfl⟩ : ∃ x, x = wc := ⟨_, rfl⟩
    clear HJS HSK HS0 HSA1 HKN HKA hs0 hsA HRC
    have HX2 := Lib.hid (mlF_kept hb hcl1 HX1.out)
    have hcl2 := Nat.lt_of_lt_of_le hcl1 hb.size
    have HB2 := Lib.hid (below_of HB1.out hb HB1.out.size)
    have HFV := Lib.hid hfv
    have HOW := Lib.hid hown
    have HRC := Lib.hid hrc
    have HSQ := Lib.hid hsz
    have HST := Lib.hid (own_st hql hown)
    obtain ⟨⟨v0, v1, v2⟩, v3, v4, v5⟩ := hfv
    have hgbw : w.heap.size < gb := by have := HB1.out.size; omega
    clear hb hown hrc hsz d0 d1 d2
    cases ok
    · have HR2 := Lib.hid (show R = none by rw [← HRC.out]; exact rmC_no HOKE.out)
      clear v0 v1 v2 v3 v4 v5
      obtain ⟨⟨x0, x1, x2⟩, y0, y1, y2⟩ := HX2.out
      go_wp2
      try simp only [Exit.inBlock, Exit.then]
      refine bodyPost_ret_by (v := .tuple #[.agg #[.string ⟨#[]⟩, .slice none 0 0, .int .i64 0], .bool false]) (by rw [results_cell_tmp rfl]; go_simp) rfl ?_
      rw [HR2.out]
      exact ⟨rfl, ((HB2.out.setCell (Nat.le_refl _) _).setCell (Nat.le_refl _) _).setCell (Nat.le_refl _) _⟩
    · obtain ⟨vb, hvb⟩ : ∃ vb, meltB p0 qs z = vb := ⟨_, rfl⟩
      have HC := Lib.hid (implMeltValid_any p0 _ qs z _ HST.out hz0 HSQ.out)
      rw [hvb] at HC
      cases vb
      · have HR2 := Lib.hid (show R = none by rw [← HRC.out]; exact rmC_bad (by rw [HZE.out]; exact hvb))
        clear hvb
        generalize qs.length = ql at *
        go_wp2_with fail
        refine HC.out.mono ?_
        rintro en w3 ⟨rfl, hb⟩
        have HX3 := Lib.hid (mlF_kept hb hcl2 HX2.out)
        have HB3 := Lib.hid (below_of HB2.out hb HB2.out.size)
        clear hb v0 v1 v2 v3 v4 v5
        obtain ⟨⟨x0, x1, x2⟩, y0, y1, y2⟩ := HX3.out
        go_wp2
        try simp only [Exit.inBlock, Exit.then]
        refine bodyPost_ret_by (v := .tuple #[.agg #[.string ⟨#[]⟩, .slice none 0 0, .int .i64 0], .bool false]) (by rw [results_cell_tmp rfl]; go_simp) rfl ?_
        rw [HR2.out]
        exact ⟨rfl, ((HB3.out.setCell (Nat.le_refl _) _).setCell (Nat.le_refl _) _).setCell (Nat.le_refl _) _⟩
      · have HR2 := Lib.hid (show R = some (p0, qs, z) by rw [← HRC.out, ← HZE.out]; exact rmC_yes HOKE.out (by rw [HZE.out]; exact hvb))
        clear hvb
        obtain ⟨ql, hqlen⟩ : ∃ ql, qs.length = ql := ⟨_, rfl⟩
        have HQL := Lib.hid hqlen
        rw [hqlen] at HOW HFV v1
        try rw [hqlen] at HC
        go_wp2_with fail
        refine HC.out.mono ?_
        rintro en w3 ⟨rfl, hb⟩
        have HX3 := Lib.hid (mlF_kept hb hcl2 HX2.out)
        have HFV3 := Lib.hid (mlF_kept hb hgl HFV.out)
        have HOW3 := Lib.hid (ownSt_kept hb HOW.out)
        have HB3 := Lib.hid (below_of HB2.out hb HB2.out.size)
        clear hb v0 v1 v2 v3 v4 v5
        obtain ⟨⟨x0, x1, x2⟩, y0, y1, y2⟩ := HX3.out
        obtain ⟨⟨v0, v1, v2⟩, v3, v4, v5⟩ := HFV3.out
        go_wp2
        try simp only [Exit.inBlock, Exit.then]
        refine bodyPost_ret_by (v := .tuple #[.agg #[.string p0, .slice (some ⟨gs, 0, none⟩) ql cs, .int .i64 z], .bool true]) (by rw [results_cell_tmp rfl]; go_simp) rfl ?_
        rw [HR2.out]
        refine ⟨_, rfl, ?_, ((HB3.out.setCell (Nat.le_refl _) _).setCell (Nat.le_refl _) _).setCell (Nat.le_refl _) _⟩
        exact ownSt_base (ownSt_set (ownSt_set (ownSt_set HOW3.out _ _ _ hcl1) _ _ _ hcl1) _ _ _ hcl1) (Nat.le_of_lt hcl1)
  · have HR2 := Lib.hid (show R = none by rw [← HRA.out]; exact rmA_progno HPS.out (by rw [HN.out]; exact h3))
    have hne3 : ((n : Int) != 3) = true := by simp; omega
    clear HRA HPS hcs
    obtain ⟨⟨x0, x1, x2⟩, y0, y1, y2⟩ := HX1.out
    go_wp2
    try simp only [Exit.inBlock, Exit.then]
    refine bodyPost_ret_by (v := .tuple #[.agg #[.string ⟨#[]⟩, .slice none 0 0, .int .i64 0], .bool false]) (by rw [results_cell_tmp rfl]; go_simp) rfl ?_
    rw [HR2.out]
    exact ⟨rfl, ((HB1.out.setCell (Nat.le_refl _) _).setCell (Nat.le_refl _) _).setCell (Nat.le_refl _) _⟩
end Go.Proofs.YtjicnfgpbbganabDoor
