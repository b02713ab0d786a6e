/- A goal read back from its text: the program. -/
import Derived.Test.YtblkbjeongmgdaaGreatDoorGdS
set_option linter.unusedVariables false
namespace Go.Proofs.YtblkbjeongmgdaaGreatDoor
open Go.ChangeShapes Go.WideShapes Go.ChangeAt Go.RowKit

theorem splitK_le (c : UInt8) (k : Nat) (l : List UInt8) : (Lib.splitK [c] 0 k l).length ≤ k + 1 := by
  obtain ⟨h1, h2⟩ := splitK_spec c k l
  by_cases h : (splitL c l).length ≤ k + 1
  · rw [h1 h]; exact h
  · rw [h2 (by omega)]; omega
theorem split7_few (c : UInt8) (l : List UInt8) (h : (splitL c l).length ≤ 7) : Lib.splitK [c] 0 (min 7 (l.length + 1) - 1) l = splitL c l := by
  have hl := splitL_len c l
  exact (splitK_spec c _ l).1 (by omega)
theorem split7_many (c : UInt8) (l : List UInt8) (h : 7 < (splitL c l).length) : (Lib.splitK [c] 0 (min 7 (l.length + 1) - 1) l).length = 7 ∧ c ∈ (Lib.splitK [c] 0 (min 7 (l.length + 1) - 1) l).getD 6 [] := by
  have hl := splitL_len c l
  have e : min 7 (l.length + 1) - 1 = 6 := by omega
  rw [e]
  exact ⟨(splitK_spec c 6 l).2 (by omega), splitK_last c 6 l (by omega)⟩
theorem splitNG_any (s : ByteArray) (w : World) (hm : MaxOk w) (hs : s.size ≤ 1048576) :
    Calls Tryz.prog 11 #[.string s, .string ⟨#[32]⟩, .int .i64 7] w fun e w' => ∃ (g cap : Nat) (qs : List ByteArray), e = .returned (.slice (some ⟨g, 0, none⟩) qs.length cap) ∧ qs.map (·.data.toList) = Lib.splitK [32] 0 (min 7 (s.data.toList.length + 1) - 1) s.data.toList ∧
      qs.length ≤ cap ∧ g < w'.heap.size ∧ (∀ j, j < qs.length → w'.cell? ⟨g, j, none⟩ = some (.string (qs.getD j ByteArray.empty))) ∧ Below w.heap.size w w' := by
  obtain ⟨m, hm⟩ := hm
  refine (Tryz.strings_SplitN s ⟨#[32]⟩ 7 m w (by omega) hm (by decide) (by decide) (by decide)).mono ?_
  rintro e w' ⟨rfl, rfl⟩
  have hd : (Lib.splitB ⟨#[32]⟩ 0 (min 7 (s.size + 1) - 1) s).map (·.data.toList) = Lib.splitK [32] 0 (min 7 (s.data.toList.length + 1) - 1) s.data.toList := by rw [Lib.splitB_data, size_list]
  refine ⟨w.heap.size, _, Lib.splitB ⟨#[32]⟩ 0 (min 7 (s.size + 1) - 1) s, rfl, hd, ?_, by simp, fun j hj => ?_, (Below.refl _ _).alloc (Nat.le_refl _) _⟩
  · have h1 := congrArg List.length hd
    have h2 := splitK_le 32 (min 7 (s.data.toList.length + 1) - 1) s.data.toList
    rw [List.length_map] at h1
    rw [h1]
    rw [size_list] at h2 ⊢
    omega
  · rw [World.cell?_alloc_new]
    unfold Lib.cellsOf
    rw [List.getElem?_toArray, List.getElem?_append_left (by simpa using hj), List.getElem?_map, List.getD_eq_getElem?_getD, List.getElem?_eq_getElem hj]
    rfl
theorem joinG_any (p0 p1 p2 p3 p4 : ByteArray) (g cap : Nat) (w : World) (h0 : w.cell? ⟨g, 0, none⟩ = some (.string p0)) (h1 : w.cell? ⟨g, 1, none⟩ = some (.string p1)) (h2 : w.cell? ⟨g, 2, none⟩ = some (.string p2)) (h3 : w.cell? ⟨g, 3, none⟩ = some (.string p3)) (h4 : w.cell? ⟨g, 4, none⟩ = some (.string p4)) (hg : g < w.heap.size) (hc : 5 ≤ cap) (hz : (join5 p0 p1 p2 p3 p4).size ≤ 1048576) :
    Calls Tryz.prog 13 #[.slice (some ⟨g, 0, none⟩) 5 cap, .string ⟨#[32]⟩] w fun en w' => en = .returned (.string (join5 p0 p1 p2 p3 p4)) ∧ Below w.heap.size w w' := by
  have h := Tryz.strings_Join g 0 cap [p0, p1, p2, p3, p4] ⟨#[32]⟩ w (fun j x hj => by
    match j, hj with
    | 0, hj => obtain rfl : p0 = x := by simpa using hj
               exact h0
    | 1, hj => obtain rfl : p1 = x := by simpa using hj
               exact h1
    | 2, hj => obtain rfl : p2 = x := by simpa using hj
               exact h2
    | 3, hj => obtain rfl : p3 = x := by simpa using hj
               exact h3
    | 4, hj => obtain rfl : p4 = x := by simpa using hj
               exact h4
    | j + 5, hj => simp at hj) hg (by simp) (by simpa using hc) (by rw [join_five_len]; omega)
  rw [join_five] at h
  exact h
set_option maxRecDepth 100000 in
set_option maxHeartbeats 8000000 in
theorem implGd_any (s : ByteArray) (V : Value) (w : World) (hs : s.size ≤ 1048576) (hV : GdIs s V) (hp : Hid (ReadOk w)) (hm : Hid (MaxOk w)) :
    Calls Tryz.prog 5 #[.string s] w fun en w' => en = .returned V ∧ Below w.heap.size w w' := by
  have HVV := Lib.hid hV
  clear hV
  go_enter Tryz.func5, Tryz.ntmps5
  go_wp2_with fail
  have hc0 := gf_alloc w 0 0 0 0 0 0 0 25
  have hcl := alloc_ltD w (.cells #[.int .i64 0, .int .i64 0, .int .i64 0, .int .i64 0, .int .i64 0, .int .i64 0, .int .i64 0] 25)
  have HBA := Lib.hid (below_alD w (.cells #[.int .i64 0, .int .i64 0, .int .i64 0, .int .i64 0, .int .i64 0, .int .i64 0, .int .i64 0] 25))
  generalize w.alloc (.cells #[.int .i64 0, .int .i64 0, .int .i64 0, .int .i64 0, .int .i64 0, .int .i64 0, .int .i64 0] 25) = wA at *
  have HPA := Lib.hid (read_kept HBA.out hp.out)
  have HMA := Lib.hid (mx_kept HBA.out hm.out)
  refine (splitNG_any s _ HMA.out hs).mono ?_
  rintro en w1 ⟨g1, c1, ps, rfl, hps, hcap, hlt1, hcells, hb1⟩
  obtain ⟨n, hn⟩ : ∃ n, ps.length = n := ⟨_, rfl⟩
  rw [hn] at hcells hcap ⊢
  have HN := Lib.hid hn
  have HPS := Lib.hid hps
  have HCE := Lib.hid hcells
  have HX1 := Lib.hid (gf_kept hb1 hcl hc0)
  have HP1 := Lib.hid (read_kept hb1 HPA.out)
  have HM1 := Lib.hid (mx_kept hb1 HMA.out)
  have HB1 := Lib.hid (below_of HBA.out hb1 HBA.out.size)
  have hcl1 : w.heap.size < w1.heap.size := Nat.lt_of_lt_of_le hcl hb1.size
  clear hps hcells hb1 hn hc0
  by_cases h7 : n = 7
  · subst h7
    obtain ⟨p0, p1, p2, p3, p4, p5, p6, rfl⟩ := list_seven HN.out
    have htot := splitK_tot 32 (min 7 (s.data.toList.length + 1) - 1) s.data.toList
    rw [size_list] at htot
    have hsum := seven_sizes HPS.out (by rw [size_list]; exact htot)
    obtain ⟨a, b, c, e, f, o, hsa, hv⟩ : ∃ a b c e f o, SndA (join5 p0 p1 p2 p3 p4) a b c e f o ∧ V = gdV a b c e f o p5 p6 := by
      by_cases h8 : 7 < (splitL 32 s.data.toList).length
      · obtain ⟨a, b, c, e, f, o, h1⟩ := sndA_some (join5 p0 p1 p2 p3 p4)
        have h2 := (split7_many 32 s.data.toList h8).2
        rw [← HPS.out] at h2
        have h3 := numG_blank (q := p6) (by simpa using h2)
        refine ⟨a, b, c, e, f, o, h1, ?_⟩
        have h4 : gdV a b c e f o p5 p6 = gdNo := by unfold gdV; rw [h3]; simp
        rw [h4]
        rcases HVV.out with ⟨-, h⟩ | ⟨q0, q1, q2, q3, q4, q5, q6, hq, -⟩
        · exact h
        · exfalso
          rw [← hq] at h8
          simp at h8
      · have h9 := split7_few 32 s.data.toList (by omega)
        have hq9 := HPS.out
        rw [h9] at hq9
        rcases HVV.out with ⟨h, -⟩ | ⟨q0, q1, q2, q3, q4, q5, q6, hq, a, b, c, e, f, o, h1, h2⟩
        · exact absurd (by rw [← hq9]; rfl) h
        · have := texts_same (hq9.trans hq.symm)
          simp only [List.cons.injEq, and_true] at this
          obtain ⟨rfl, rfl, rfl, rfl, rfl, rfl, rfl⟩ := this
          exact ⟨a, b, c, e, f, o, h1, h2⟩
    have d0 : w1.cell? ⟨g1, 0, none⟩ = some (.string p0) := HCE.out 0 (by decide)
    have d1 : w1.cell? ⟨g1, 1, none⟩ = some (.string p1) := HCE.out 1 (by decide)
    have d2 : w1.cell? ⟨g1, 2, none⟩ = some (.string p2) := HCE.out 2 (by decide)
    have d3 : w1.cell? ⟨g1, 3, none⟩ = some (.string p3) := HCE.out 3 (by decide)
    have d4 : w1.cell? ⟨g1, 4, none⟩ = some (.string p4) := HCE.out 4 (by decide)
    have d5 : w1.cell? ⟨g1, 5, none⟩ = some (.string p5) := HCE.out 5 (by decide)
    have d6 : w1.cell? ⟨g1, 6, none⟩ = some (.string p6) := HCE.out 6 (by decide)
    have hJ := join5_size p0 p1 p2 p3 p4
    have hz5 : p5.size ≤ 1048576 := by omega
    have hz6 : p6.size ≤ 1048576 := by omega
    have HZJ := Lib.hid (show (join5 p0 p1 p2 p3 p4).size ≤ 1048576 by omega)
    have HSA := Lib.hid hsa
    have HJO := Lib.hid (joinG_any p0 p1 p2 p3 p4 g1 c1 w1 d0 d1 d2 d3 d4 hlt1 (by omega) HZJ.out)
    have HN5 := Lib.hid (fun W h => implReadDecimal_any p5 W hz5 h)
    have HN6 := Lib.hid (fun W h => implReadDecimal_any p6 W hz6 h)
    rw [gdV_eq] at hv
    unfold NumRet at HN5 HN6
    generalize join5 p0 p1 p2 p3 p4 = J at *
    generalize numV p5 = x at *
    generalize numV p6 = y at *
    generalize numOk p5 = oa at *
    generalize numOk p6 = ob at *
    have HV := Lib.hid hv
    have hc5 : (5 : Int) ≤ (c1 : Int) := by omega
    clear hsa hv hJ hsum htot HVV HPS HN HCE d0 d1 d2 d3 d4
    go_wp2_with fail
    refine HJO.out.mono ?_
    rintro en w2 ⟨rfl, hb⟩
    have HX2 := Lib.hid (gf_kept hb hcl1 HX1.out)
    have HP2 := Lib.hid (read_kept hb HP1.out)
    have HM2 := Lib.hid (mx_kept hb HM1.out)
    have hcl2 := Nat.lt_of_lt_of_le hcl1 hb.size
    have HB2 := Lib.hid (below_of HB1.out hb HB1.out.size)
    have e5 := (below_cell hb g1 5 hlt1).trans d5
    have e6 := (below_cell hb g1 6 hlt1).trans d6
    have hlt2 := Nat.lt_of_lt_of_le hlt1 hb.size
    clear hb d5 d6
    go_wp2_with fail
    refine (implReadSnd_any J _ HZJ.out HP2 HM2.out).mono ?_
    rintro en w3 ⟨hr, hb⟩
    obtain rfl := HSA.out _ hr
    have hb4 := hb.trans ((below_alD w3 (.cells #[.int .i64 a, .int .i64 b, .int .i64 c, .int .i64 e, .int .i64 f] 23)).mono hb.size)
    have HX4 := Lib.hid (gf_kept hb4 hcl2 HX2.out)
    have HP4 := Lib.hid (read_kept hb4 HP2.out)
    have hcl4 := Nat.lt_of_lt_of_le hcl2 hb4.size
    have HB4 := Lib.hid (below_of HB2.out hb4 HB2.out.size)
    have d5 := (below_cell hb4 g1 5 hlt2).trans e5
    have d6 := (below_cell hb4 g1 6 hlt2).trans e6
    have c5 := (below_cell hb g1 5 hlt2).trans e5
    have hlt3 := Nat.lt_of_lt_of_le hlt2 hb.size
    have hlt4 := Nat.lt_of_lt_of_le hlt2 hb4.size
    have HS4 := Lib.hid (five_alloc w3 a b c e f 23)
    have hl4 := alloc_ltD w3 (.cells #[.int .i64 a, .int .i64 b, .int .i64 c, .int .i64 e, .int .i64 f] 23)
    clear hb hb4 hr e5 e6 HSA
    go_wp2_with fail
    refine (HN5.out _ HP4).mono ?_
    rintro en w5 ⟨rfl, hb⟩
    have HX5 := Lib.hid (gf_kept hb hcl4 HX4.out)
    have HP5 := Lib.hid (read_kept hb HP4.out)
    have hcl5 := Nat.lt_of_lt_of_le hcl4 hb.size
    have HB5 := Lib.hid (below_of HB4.out hb HB4.out.size)
    have e6 := (below_cell hb g1 6 hlt4).trans d6
    have hlt5 := Nat.lt_of_lt_of_le hlt4 hb.size
    have HS5 := Lib.hid (five_kept hb hl4 HS4.out)
    have hl5 := Nat.lt_of_lt_of_le hl4 hb.size
    clear hb d5 d6 c5
    go_wp2_with fail
    refine (HN6.out _ HP5).mono ?_
    rintro en w6 ⟨rfl, hb⟩
    have HX6 := Lib.hid (gf_kept hb hcl5 HX5.out)
    have hcl6 := Nat.lt_of_lt_of_le hcl5 hb.size
    have HB6 := Lib.hid (below_of HB5.out hb HB5.out.size)
    obtain ⟨v0, v1, v2, v3, v4⟩ := five_kept hb hl5 HS5.out
    have hl6 := Nat.lt_of_lt_of_le hl5 hb.size
    clear hb e6
    have HX9 := Lib.hid (gf_kept (below_alD w6 (.cells #[.int .i64 a, .int .i64 b, .int .i64 c, .int .i64 e, .int .i64 f, .int .i64 x, .int .i64 y] 25)) hcl6 HX6.out)
    have HM9 := Lib.hid (gf_alloc w6 a b c e f x y 25)
    have HB9 := Lib.hid (below_of HB6.out (below_alD w6 (.cells #[.int .i64 a, .int .i64 b, .int .i64 c, .int .i64 e, .int .i64 f, .int .i64 x, .int .i64 y] 25)) HB6.out.size)
    have hl9 := alloc_ltD w6 (.cells #[.int .i64 a, .int .i64 b, .int .i64 c, .int .i64 e, .int .i64 f, .int .i64 x, .int .i64 y] 25)
    have hcl9 : w.heap.size < (w6.alloc (.cells #[.int .i64 a, .int .i64 b, .int .i64 c, .int .i64 e, .int .i64 f, .int .i64 x, .int .i64 y] 25)).heap.size := Nat.lt_trans hcl6 hl9
    cases o
    · have HR2 := Lib.hid (show gdNo = V by rw [HV.out]; unfold gdV0; simp)
      obtain ⟨⟨⟨x0, x1, x2, x3, x4⟩, x5, x6⟩, y0, y1, y2, y3, y4, y5, y6⟩ := HX6.out
      go_wp2
      try simp only [Exit.inBlock, Exit.then]
      refine bodyPost_ret_by (v := gdNo) (by rw [results_cell_tmp rfl]; unfold gdNo; go_simp) rfl ?_
      exact ⟨ret_valD HR2.out, ((((((((HB6.out.setCell (Nat.le_refl _) _).setCell (Nat.le_refl _) _).setCell (Nat.le_refl _) _).setCell (Nat.le_refl _) _).setCell (Nat.le_refl _) _).setCell (Nat.le_refl _) _).setCell (Nat.le_refl _) _)).alloc (by simpa using HB6.out.size) _⟩
    · cases oa
      · have HR2 := Lib.hid (show gdNo = V by rw [HV.out]; unfold gdV0; simp)
        obtain ⟨⟨⟨x0, x1, x2, x3, x4⟩, x5, x6⟩, y0, y1, y2, y3, y4, y5, y6⟩ := HX6.out
        go_wp2
        try simp only [Exit.inBlock, Exit.then]
        refine bodyPost_ret_by (v := gdNo) (by rw [results_cell_tmp rfl]; unfold gdNo; go_simp) rfl ?_
        exact ⟨ret_valD HR2.out, ((((((((HB6.out.setCell (Nat.le_refl _) _).setCell (Nat.le_refl _) _).setCell (Nat.le_refl _) _).setCell (Nat.le_refl _) _).setCell (Nat.le_refl _) _).setCell (Nat.le_refl _) _).setCell (Nat.le_refl _) _)).alloc (by simpa using HB6.out.size) _⟩
      · cases ob
        · have HR2 := Lib.hid (show gdNo = V by rw [HV.out]; unfold gdV0; simp)
          obtain ⟨⟨⟨x0, x1, x2, x3, x4⟩, x5, x6⟩, y0, y1, y2, y3, y4, y5, y6⟩ := HX6.out
          go_wp2
          try simp only [Exit.inBlock, Exit.then]
          refine bodyPost_ret_by (v := gdNo) (by rw [results_cell_tmp rfl]; unfold gdNo; go_simp) rfl ?_
          exact ⟨ret_valD HR2.out, ((((((((HB6.out.setCell (Nat.le_refl _) _).setCell (Nat.le_refl _) _).setCell (Nat.le_refl _) _).setCell (Nat.le_refl _) _).setCell (Nat.le_refl _) _).setCell (Nat.le_refl _) _).setCell (Nat.le_refl _) _)).alloc (by simpa using HB6.out.size) _⟩
        · rcases Bool.eq_false_or_eq_true (goalB a b c e f x y) with hg | hg
          · have HG := Lib.hid hg
            have HR2 := Lib.hid (show gdYes a b c e f x y = V by rw [HV.out]; unfold gdV0; simp [hg])
            clear hg
            obtain ⟨⟨⟨m0, m1, m2, m3, m4⟩, m5, m6⟩, -, -, -, -, -, -, -⟩ := HM9.out
            go_wp2_with fail
            refine (implVG_any a b c e f x y _).mono ?_
            rintro en w10 ⟨rfl, hb⟩
            rw [HG.out]
            clear m0 m1 m2 m3 m4 m5 m6
            have HX10 := Lib.hid (gf_kept hb hcl9 HX9.out)
            have HM10 := Lib.hid (gf_kept hb hl9 HM9.out)
            have HB10 := Lib.hid (below_of HB9.out hb HB9.out.size)
            clear hb
            obtain ⟨⟨⟨x0, x1, x2, x3, x4⟩, x5, x6⟩, y0, y1, y2, y3, y4, y5, y6⟩ := HX10.out
            obtain ⟨⟨⟨m0, m1, m2, m3, m4⟩, m5, m6⟩, -, -, -, -, -, -, -⟩ := HM10.out
            go_wp2
            try simp only [Exit.inBlock, Exit.then]
            refine bodyPost_ret_by (v := gdYes a b c e f x y) (by rw [results_cell_tmp rfl]; unfold gdYes; go_simp) rfl ?_
            exact ⟨ret_valD HR2.out, (((((((HB10.out.setCell (Nat.le_refl _) _).setCell (Nat.le_refl _) _).setCell (Nat.le_refl _) _).setCell (Nat.le_refl _) _).setCell (Nat.le_refl _) _).setCell (Nat.le_refl _) _).setCell (Nat.le_refl _) _)⟩
          · have HG := Lib.hid hg
            have HR2 := Lib.hid (show gdNo = V by rw [HV.out]; unfold gdV0; simp [hg])
            clear hg
            obtain ⟨⟨⟨m0, m1, m2, m3, m4⟩, m5, m6⟩, -, -, -, -, -, -, -⟩ := HM9.out
            go_wp2_with fail
            refine (implVG_any a b c e f x y _).mono ?_
            rintro en w10 ⟨rfl, hb⟩
            rw [HG.out]
            clear m0 m1 m2 m3 m4 m5 m6
            have HX10 := Lib.hid (gf_kept hb hcl9 HX9.out)
            have HM10 := Lib.hid (gf_kept hb hl9 HM9.out)
            have HB10 := Lib.hid (below_of HB9.out hb HB9.out.size)
            clear hb
            obtain ⟨⟨⟨x0, x1, x2, x3, x4⟩, x5, x6⟩, y0, y1, y2, y3, y4, y5, y6⟩ := HX10.out
            go_wp2
            try simp only [Exit.inBlock, Exit.then]
            refine bodyPost_ret_by (v := gdNo) (by rw [results_cell_tmp rfl]; unfold gdNo; go_simp) rfl ?_
            exact ⟨ret_valD HR2.out, (((((((HB10.out.setCell (Nat.le_refl _) _).setCell (Nat.le_refl _) _).setCell (Nat.le_refl _) _).setCell (Nat.le_refl _) _).setCell (Nat.le_refl _) _).setCell (Nat.le_refl _) _).setCell (Nat.le_refl _) _)⟩
  · have HR2 := Lib.hid (show gdNo = V by
      rcases HVV.out with ⟨-, h⟩ | ⟨q0, q1, q2, q3, q4, q5, q6, hq, -⟩
      · exact h.symm
      · exfalso
        have h8 : (splitL 32 s.data.toList).length = 7 := by rw [← hq]; rfl
        have h9 := split7_few 32 s.data.toList (by omega)
        have := congrArg List.length HPS.out
        rw [h9, List.length_map, HN.out] at this
        omega)
    have hne : ((n : Int) != 7) = true := by simp; omega
    clear h7
    obtain ⟨⟨⟨x0, x1, x2, x3, x4⟩, x5, x6⟩, y0, y1, y2, y3, y4, y5, y6⟩ := HX1.out
    go_wp2
    try simp only [Exit.inBlock, Exit.then]
    refine bodyPost_ret_by (v := gdNo) (by rw [results_cell_tmp rfl]; unfold gdNo; go_simp) rfl ?_
    exact ⟨ret_valD HR2.out, (((((((HB1.out.setCell (Nat.le_refl _) _).setCell (Nat.le_refl _) _).setCell (Nat.le_refl _) _).setCell (Nat.le_refl _) _).setCell (Nat.le_refl _) _).setCell (Nat.le_refl _) _).setCell (Nat.le_refl _) _)⟩
end Go.Proofs.YtblkbjeongmgdaaGreatDoor
