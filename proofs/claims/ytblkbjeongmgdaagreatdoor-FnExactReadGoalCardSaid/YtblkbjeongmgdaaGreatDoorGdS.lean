/- A goal read back from its text: the reference model. -/
import Derived.Test.YtblkbjeongmgdaaGreatDoorGdM
import Derived.Deep.RegionHeld3
set_option linter.unusedVariables false
namespace Go.Proofs.YtblkbjeongmgdaaGreatDoor
open Go.ChangeShapes Go.WideShapes Go.ChangeAt Go.RowKit

theorem alloc_ltD (w : World) (o : Obj) : w.heap.size < (w.alloc o).heap.size := by show _ < (w.heap.push o).size; rw [Array.size_push]; omega
theorem below_alD (w : World) (o : Obj) : Below w.heap.size w (w.alloc o) := (Below.refl _ _).alloc (Nat.le_refl _) o
/-- Block g holds a goal, and may be written. -/
structure GF (w : World) (g : Nat) (a b c e f t q : Int) : Prop where
  sv : Seven w g a b c e f t q
  f0 : w.frozen? ⟨g, 0, none⟩ = false
  f1 : w.frozen? ⟨g, 1, none⟩ = false
  f2 : w.frozen? ⟨g, 2, none⟩ = false
  f3 : w.frozen? ⟨g, 3, none⟩ = false
  f4 : w.frozen? ⟨g, 4, none⟩ = false
  f5 : w.frozen? ⟨g, 5, none⟩ = false
  f6 : w.frozen? ⟨g, 6, none⟩ = false
theorem gf_kept {w w' : World} {B g : Nat} {a b c e f t q : Int} (hb : Below B w w') (hg : g < B) (h : GF w g a b c e f t q) : GF w' g a b c e f t q :=
  ⟨⟨⟨by rw [hb.cell (p := ⟨g, 0, none⟩) hg]; exact h.sv.1.1, by rw [hb.cell (p := ⟨g, 1, none⟩) hg]; exact h.sv.1.2.1, by rw [hb.cell (p := ⟨g, 2, none⟩) hg]; exact h.sv.1.2.2.1, by rw [hb.cell (p := ⟨g, 3, none⟩) hg]; exact h.sv.1.2.2.2.1, by rw [hb.cell (p := ⟨g, 4, none⟩) hg]; exact h.sv.1.2.2.2.2⟩, by rw [hb.cell (p := ⟨g, 5, none⟩) hg]; exact h.sv.2.1, by rw [hb.cell (p := ⟨g, 6, none⟩) hg]; exact h.sv.2.2⟩, by rw [hb.frozen (p := ⟨g, 0, none⟩) hg]; exact h.f0, by rw [hb.frozen (p := ⟨g, 1, none⟩) hg]; exact h.f1, by rw [hb.frozen (p := ⟨g, 2, none⟩) hg]; exact h.f2, by rw [hb.frozen (p := ⟨g, 3, none⟩) hg]; exact h.f3, by rw [hb.frozen (p := ⟨g, 4, none⟩) hg]; exact h.f4, by rw [hb.frozen (p := ⟨g, 5, none⟩) hg]; exact h.f5, by rw [hb.frozen (p := ⟨g, 6, none⟩) hg]; exact h.f6⟩
theorem gf_alloc (w : World) (a b c e f t q : Int) (T : TypeId) : GF (w.alloc (.cells #[.int .i64 a, .int .i64 b, .int .i64 c, .int .i64 e, .int .i64 f, .int .i64 t, .int .i64 q] T)) w.heap.size a b c e f t q :=
  ⟨seven_alloc w a b c e f t q T, by go_simp, by go_simp, by go_simp, by go_simp, by go_simp, by go_simp, by go_simp⟩
theorem ret_valD {a b : Value} (h : a = b) : Ending.returned a = .returned b := by rw [h]
theorem strs_atD {w : World} {B g cap n : Nat} {ss : List ByteArray} (hn : ss.length = n) (hown : w.ownsRow B 9 1 (.slice (some ⟨g, 0, none⟩) n cap) n (strVs ss)) (j : Nat) (hj : j < n) : w.cell? ⟨g, j, none⟩ = some (.string (ss.getD j ByteArray.empty)) := by
  rw [hown.cellAt j (by omega)]
  simp [strVs, List.getD, show j < ss.length by omega]
theorem seven_sizes {s p0 p1 p2 p3 p4 p5 p6 : ByteArray} {l : List (List UInt8)} (h : [p0, p1, p2, p3, p4, p5, p6].map (·.data.toList) = l) (ht : totG l + l.length = s.size + 1) : p0.size + p1.size + p2.size + p3.size + p4.size + p5.size + p6.size + 6 = s.size := by
  rw [← h] at ht
  simp only [totG, List.map_cons, List.map_nil, List.sum_cons, List.sum_nil, List.length_cons, List.length_nil, size_list] at ht
  omega
theorem splitL_tot {s : ByteArray} (h : (splitL 32 s.data.toList).length ≤ 7) : totG (splitL 32 s.data.toList) + (splitL 32 s.data.toList).length = s.size + 1 := by
  have h1 := (splitK_spec 32 6 s.data.toList).1 h
  have h2 := splitK_tot 32 6 s.data.toList
  rw [h1, size_list] at h2
  exact h2
def gdV0 (a b c e f : Int) (o oa ob : Bool) (x y : Int) : Value := if o = true ∧ oa = true ∧ ob = true ∧ goalB a b c e f x y = true then gdYes a b c e f x y else gdNo
theorem gdV_eq (a b c e f : Int) (o : Bool) (g i : ByteArray) : gdV a b c e f o g i = gdV0 a b c e f o (numOk g) (numOk i) (numV g) (numV i) := rfl
set_option maxRecDepth 100000 in
set_option maxHeartbeats 8000000 in
theorem specGd_any (s : ByteArray) (V : Value) (w : World) (hs : s.size ≤ 1048576) (hV : GdIs s V) :
    Calls Tryz.prog 4 #[.string s] w fun en w' => en = .returned V ∧ Below w.heap.size w w' := by
  have HVV := Lib.hid hV
  clear hV
  go_enter Tryz.func4, Tryz.ntmps4
  go_wp2_with fail
  have hc0 := gf_alloc w 0 0 0 0 0 0 0 25
  have hcl := alloc_ltD w (.cells #[.int .i64 0, .int .i64 0, .int .i64 0, .int .i64 0, .int .i64 0, .int .i64 0, .int .i64 0] 25)
  have HBA := Lib.hid (below_alD w (.cells #[.int .i64 0, .int .i64 0, .int .i64 0, .int .i64 0, .int .i64 0, .int .i64 0, .int .i64 0] 25))
  generalize w.alloc (.cells #[.int .i64 0, .int .i64 0, .int .i64 0, .int .i64 0, .int .i64 0, .int .i64 0, .int .i64 0] 25) = wA at *
  refine (split_any s 32 _ hs).mono ?_
  rintro en w1 ⟨v, ps, rfl, hps, ⟨g1, c1, rfl, hB1, hlt1, hown1⟩, hb1⟩
  obtain ⟨n, hn⟩ : ∃ n, ps.length = n := ⟨_, rfl⟩
  rw [hn] at hown1 ⊢
  have HN := Lib.hid hn
  have HPS := Lib.hid hps
  have HO1 := Lib.hid hown1
  have HX1 := Lib.hid (gf_kept hb1 hcl hc0)
  have HB1 := Lib.hid (below_of HBA.out hb1 HBA.out.size)
  have hcl1 : w.heap.size < w1.heap.size := Nat.lt_of_lt_of_le hcl hb1.size
  clear hps hown1 hb1 hn hc0
  by_cases h7 : n = 7
  · subst h7
    obtain ⟨p0, p1, p2, p3, p4, p5, p6, rfl⟩ := list_seven HN.out
    have hlen : (splitL 32 s.data.toList).length = 7 := by rw [← HPS.out]; rfl
    have hsum := seven_sizes HPS.out (splitL_tot (by omega))
    obtain ⟨a, b, c, e, f, o, hsa, hv⟩ : ∃ a b c e f o, SndA (join5 p0 p1 p2 p3 p4) a b c e f o ∧ V = gdV a b c e f o p5 p6 := by
      rcases HVV.out with ⟨h, -⟩ | ⟨q0, q1, q2, q3, q4, q5, q6, hq, a, b, c, e, f, o, h1, h2⟩
      · exact absurd hlen h
      · have := texts_same (HPS.out.trans hq.symm)
        simp only [List.cons.injEq, and_true] at this
        obtain ⟨rfl, rfl, rfl, rfl, rfl, rfl, rfl⟩ := this
        exact ⟨a, b, c, e, f, o, h1, h2⟩
    have d0 : w1.cell? ⟨g1, 0, none⟩ = some (.string p0) := strs_atD rfl HO1.out 0 (by simp)
    have d1 : w1.cell? ⟨g1, 1, none⟩ = some (.string p1) := strs_atD rfl HO1.out 1 (by simp)
    have d2 : w1.cell? ⟨g1, 2, none⟩ = some (.string p2) := strs_atD rfl HO1.out 2 (by simp)
    have d3 : w1.cell? ⟨g1, 3, none⟩ = some (.string p3) := strs_atD rfl HO1.out 3 (by simp)
    have d4 : w1.cell? ⟨g1, 4, none⟩ = some (.string p4) := strs_atD rfl HO1.out 4 (by simp)
    have d5 : w1.cell? ⟨g1, 5, none⟩ = some (.string p5) := strs_atD rfl HO1.out 5 (by simp)
    have d6 : w1.cell? ⟨g1, 6, none⟩ = some (.string p6) := strs_atD rfl HO1.out 6 (by simp)
    have hJ := join5_size p0 p1 p2 p3 p4
    have hz5 : p5.size ≤ 1048576 := by omega
    have hz6 : p6.size ≤ 1048576 := by omega
    have HJS := Lib.hid (fun W => l04Read_any (join5 p0 p1 p2 p3 p4) W (by omega))
    have HSA := Lib.hid hsa
    have HN5 := Lib.hid (fun W => specNumber_any p5 W (by omega))
    have HN6 := Lib.hid (fun W => specNumber_any p6 W (by omega))
    rw [gdV_eq] at hv
    unfold NumRet at HN5 HN6
    generalize numV p5 = x at *
    generalize numV p6 = y at *
    generalize numOk p5 = oa at *
    generalize numOk p6 = ob at *
    have HV := Lib.hid hv
    have HJE := Lib.hid (show join5 p0 p1 p2 p3 p4 = p0 ++ (⟨#[32]⟩ : ByteArray) ++ p1 ++ (⟨#[32]⟩ : ByteArray) ++ p2 ++ (⟨#[32]⟩ : ByteArray) ++ p3 ++ (⟨#[32]⟩ : ByteArray) ++ p4 from rfl)
    have k1 : ¬ 9223372036854775807 < p0.size + 1 := by omega
    have k2 : ¬ 9223372036854775807 < p0.size + 1 + p1.size := by omega
    have k3 : ¬ 9223372036854775807 < p0.size + 1 + p1.size + 1 := by omega
    have k4 : ¬ 9223372036854775807 < p0.size + 1 + p1.size + 1 + p2.size := by omega
    have k5 : ¬ 9223372036854775807 < p0.size + 1 + p1.size + 1 + p2.size + 1 := by omega
    have k6 : ¬ 9223372036854775807 < p0.size + 1 + p1.size + 1 + p2.size + 1 + p3.size := by omega
    have k7 : ¬ 9223372036854775807 < p0.size + 1 + p1.size + 1 + p2.size + 1 + p3.size + 1 := by omega
    have k8 : ¬ 9223372036854775807 < p0.size + 1 + p1.size + 1 + p2.size + 1 + p3.size + 1 + p4.size := by omega
    clear hsa hv hJ hsum hlen HVV HPS HN HO1
    have HJS2 := Lib.hid (show ∀ W, Calls Tryz.prog 8 #[.string (p0 ++ (⟨#[32]⟩ : ByteArray) ++ p1 ++ (⟨#[32]⟩ : ByteArray) ++ p2 ++ (⟨#[32]⟩ : ByteArray) ++ p3 ++ (⟨#[32]⟩ : ByteArray) ++ p4)] W fun en w' => RdIs (join5 p0 p1 p2 p3 p4) en ∧ Below W.heap.size W w' from HJS.out)
    have HSK := Lib.hid (show ∀ W, Below w1.heap.size w1 W → W.cell? ⟨g1, 0, none⟩ = some (.string p0) ∧ W.cell? ⟨g1, 1, none⟩ = some (.string p1) ∧ W.cell? ⟨g1, 2, none⟩ = some (.string p2) ∧ W.cell? ⟨g1, 3, none⟩ = some (.string p3) ∧ W.cell? ⟨g1, 4, none⟩ = some (.string p4) ∧ Below w1.heap.size w1 W from fun W hW => ⟨(below_cell hW _ _ hlt1).trans d0, (below_cell hW _ _ hlt1).trans d1, (below_cell hW _ _ hlt1).trans d2, (below_cell hW _ _ hlt1).trans d3, (below_cell hW _ _ hlt1).trans d4, hW⟩)
    have HS0 := Lib.hid (HSK.out w1.drew ⟨rfl, rfl, rfl, Nat.le_refl _, fun _ _ => rfl⟩)
    have HSA1 := Lib.hid (HSK.out (w1.alloc (.cells #[.int .i64 0, .int .i64 0, .int .i64 0, .int .i64 0, .int .i64 0] 23)).drew (let h := below_alD w1 (.cells #[.int .i64 0, .int .i64 0, .int .i64 0, .int .i64 0, .int .i64 0] 23); ⟨h.os, h.tape, h.output, h.size, h.block⟩))
    have HKN := Lib.hid (fun w2 (hb : Below w1.drew.heap.size w1.drew w2) => show Below w1.heap.size w1 w2 from ⟨hb.os, hb.tape, hb.output, hb.size, hb.block⟩)
    have HKA := Lib.hid (fun w2 (hb : Below (w1.alloc (.cells #[.int .i64 0, .int .i64 0, .int .i64 0, .int .i64 0, .int .i64 0] 23)).drew.heap.size (w1.alloc (.cells #[.int .i64 0, .int .i64 0, .int .i64 0, .int .i64 0, .int .i64 0] 23)).drew w2) => show (Five w2 w1.heap.size 0 0 0 0 0 ∧ w2.frozen? ⟨w1.heap.size, 0, none⟩ = false ∧ w2.frozen? ⟨w1.heap.size, 1, none⟩ = false ∧ w2.frozen? ⟨w1.heap.size, 2, none⟩ = false ∧ w2.frozen? ⟨w1.heap.size, 3, none⟩ = false ∧ w2.frozen? ⟨w1.heap.size, 4, none⟩ = false) ∧ w1.heap.size < w2.heap.size ∧ Below w1.heap.size w1 w2 from
      (let hb6 : Below (w1.alloc (.cells #[.int .i64 0, .int .i64 0, .int .i64 0, .int .i64 0, .int .i64 0] 23)).heap.size (w1.alloc (.cells #[.int .i64 0, .int .i64 0, .int .i64 0, .int .i64 0, .int .i64 0] 23)) w2 := ⟨hb.os, hb.tape, hb.output, hb.size, hb.block⟩
       let hl := alloc_ltD w1 (.cells #[.int .i64 0, .int .i64 0, .int .i64 0, .int .i64 0, .int .i64 0] 23)
       ⟨⟨⟨(below_cell hb6 _ _ hl).trans (by go_simp), (below_cell hb6 _ _ hl).trans (by go_simp), (below_cell hb6 _ _ hl).trans (by go_simp), (below_cell hb6 _ _ hl).trans (by go_simp), (below_cell hb6 _ _ hl).trans (by go_simp)⟩, (below_frozen hb6 _ _ hl).trans (by go_simp), (below_frozen hb6 _ _ hl).trans (by go_simp), (below_frozen hb6 _ _ hl).trans (by go_simp), (below_frozen hb6 _ _ hl).trans (by go_simp), (below_frozen hb6 _ _ hl).trans (by go_simp)⟩, Nat.lt_of_lt_of_le hl hb6.size, below_of (below_alD w1 (.cells #[.int .i64 0, .int .i64 0, .int .i64 0, .int .i64 0, .int .i64 0] 23)) hb6 (Nat.le_of_lt hl)⟩))
    go_wp2
    go_cut [5, 6] from 12 (fun sp sq wr => ∃ gb, sp = .pointer (some ⟨gb, 0, none⟩) ∧ sq = .bool o ∧ Five wr gb a b c e f ∧ gb < wr.heap.size ∧ Below w1.heap.size w1 wr)
    case first =>
      go_region_held3 (fun W => W.cell? ⟨g1, 0, none⟩ = some (.string p0) ∧ W.cell? ⟨g1, 1, none⟩ = some (.string p1) ∧ W.cell? ⟨g1, 2, none⟩ = some (.string p2) ∧ W.cell? ⟨g1, 3, none⟩ = some (.string p3) ∧ W.cell? ⟨g1, 4, none⟩ = some (.string p4) ∧ Below w1.heap.size w1 W)
        (first | with_reducible exact HS0.out | with_reducible exact HSA1.out | with_reducible assumption | (refine HSK.out _ ?_; repeat (first | with_reducible exact hkb | refine Below.setCell ?_ (by first | with_reducible exact Nat.le_refl _ | with_reducible exact hkb.size) _ | refine Below.alloc ?_ (by first | with_reducible exact Nat.le_refl _ | with_reducible exact hkb.size) _)))
        (first
          | (go_at_call 8; refine (HJS2.out _).mono ?_; rintro en w6 ⟨hr, hb6⟩; obtain rfl := HSA.out _ hr; have hka := (by with_reducible exact HKA.out _ hb6); obtain ⟨⟨⟨z0, z1, z2, z3, z4⟩, y0, y1, y2, y3, y4⟩, hkl, hkb⟩ := hka; have hks := HSK.out _ hkb)
          | (go_at_call 8; refine (HJS2.out _).mono ?_; rintro en w6 ⟨hr, hb6⟩; obtain rfl := HSA.out _ hr; have hkb := (by with_reducible exact HKN.out _ hb6); have hks := HSK.out _ hkb))
      all_goals
        go_wp2_with fail
        go_meet
        case rel => first | (have hk0 := hkl; refine ⟨_, rfl, rfl, ?_, ?_, ?_⟩; (exact ⟨by go_simp, by go_simp, by go_simp, by go_simp, by go_simp⟩); (simp only [World.size_setCell]; exact hkl); exact ((((hkb.setCell (Nat.le_refl _) _).setCell (Nat.le_refl _) _).setCell (Nat.le_refl _) _).setCell (Nat.le_refl _) _).setCell (Nat.le_refl _) _) | (refine ⟨_, rfl, rfl, five_alloc _ _ _ _ _ _ _, alloc_ltD _ _, ?_⟩; exact hkb.alloc hkb.size _) | fail "no end"
    obtain ⟨gb, rfl, rfl, hfv, hgl, hb⟩ := hcut
    obtain ⟨w2, rfl⟩ : ∃ x, x = wc := ⟨_, rfl⟩
    clear HJS2 HSK HS0 HSA1 HKN HKA
    have e5 := (below_cell hb g1 5 hlt1).trans d5
    have e6 := (below_cell hb g1 6 hlt1).trans d6
    have hlt2 := Nat.lt_of_lt_of_le hlt1 hb.size
    have HX2 := Lib.hid (gf_kept hb hcl1 HX1.out)
    have hcl2 := Nat.lt_of_lt_of_le hcl1 hb.size
    have HB2 := Lib.hid (below_of HB1.out hb HB1.out.size)
    clear hb d0 d1 d2 d3 d4 d5 d6 k1 k2 k3 k4 k5 k6 k7 k8
    obtain ⟨v0, v1, v2, v3, v4⟩ := hfv
    go_wp2_with fail
    refine (HN5.out _).mono ?_
    rintro en w3 ⟨rfl, rfl⟩
    go_wp2_with fail
    refine (HN6.out _).mono ?_
    rintro en w3 ⟨rfl, rfl⟩
    clear e5 e6
    have HX9 := Lib.hid (gf_kept (below_alD w2 (.cells #[.int .i64 a, .int .i64 b, .int .i64 c, .int .i64 e, .int .i64 f, .int .i64 x, .int .i64 y] 25)) hcl2 HX2.out)
    have HM9 := Lib.hid (gf_alloc w2 a b c e f x y 25)
    have HB9 := Lib.hid (below_of HB2.out (below_alD w2 (.cells #[.int .i64 a, .int .i64 b, .int .i64 c, .int .i64 e, .int .i64 f, .int .i64 x, .int .i64 y] 25)) HB2.out.size)
    have hl9 := alloc_ltD w2 (.cells #[.int .i64 a, .int .i64 b, .int .i64 c, .int .i64 e, .int .i64 f, .int .i64 x, .int .i64 y] 25)
    have hcl9 : w.heap.size < (w2.alloc (.cells #[.int .i64 a, .int .i64 b, .int .i64 c, .int .i64 e, .int .i64 f, .int .i64 x, .int .i64 y] 25)).heap.size := Nat.lt_trans hcl2 hl9
    cases o
    · have HR2 := Lib.hid (show gdNo = V by rw [HV.out]; unfold gdV0; simp)
      obtain ⟨⟨⟨x0, x1, x2, x3, x4⟩, x5, x6⟩, y0, y1, y2, y3, y4, y5, y6⟩ := HX2.out
      go_wp2
      try simp only [Exit.inBlock, Exit.then]
      refine bodyPost_ret_by (v := gdNo) (by rw [results_cell_tmp rfl]; unfold gdNo; go_simp) rfl ?_
      exact ⟨ret_valD HR2.out, ((((((((HB2.out.setCell (Nat.le_refl _) _).setCell (Nat.le_refl _) _).setCell (Nat.le_refl _) _).setCell (Nat.le_refl _) _).setCell (Nat.le_refl _) _).setCell (Nat.le_refl _) _).setCell (Nat.le_refl _) _)).alloc (by simpa using HB2.out.size) _⟩
    · cases oa
      · have HR2 := Lib.hid (show gdNo = V by rw [HV.out]; unfold gdV0; simp)
        obtain ⟨⟨⟨x0, x1, x2, x3, x4⟩, x5, x6⟩, y0, y1, y2, y3, y4, y5, y6⟩ := HX2.out
        go_wp2
        try simp only [Exit.inBlock, Exit.then]
        refine bodyPost_ret_by (v := gdNo) (by rw [results_cell_tmp rfl]; unfold gdNo; go_simp) rfl ?_
        exact ⟨ret_valD HR2.out, ((((((((HB2.out.setCell (Nat.le_refl _) _).setCell (Nat.le_refl _) _).setCell (Nat.le_refl _) _).setCell (Nat.le_refl _) _).setCell (Nat.le_refl _) _).setCell (Nat.le_refl _) _).setCell (Nat.le_refl _) _)).alloc (by simpa using HB2.out.size) _⟩
      · cases ob
        · have HR2 := Lib.hid (show gdNo = V by rw [HV.out]; unfold gdV0; simp)
          obtain ⟨⟨⟨x0, x1, x2, x3, x4⟩, x5, x6⟩, y0, y1, y2, y3, y4, y5, y6⟩ := HX2.out
          go_wp2
          try simp only [Exit.inBlock, Exit.then]
          refine bodyPost_ret_by (v := gdNo) (by rw [results_cell_tmp rfl]; unfold gdNo; go_simp) rfl ?_
          exact ⟨ret_valD HR2.out, ((((((((HB2.out.setCell (Nat.le_refl _) _).setCell (Nat.le_refl _) _).setCell (Nat.le_refl _) _).setCell (Nat.le_refl _) _).setCell (Nat.le_refl _) _).setCell (Nat.le_refl _) _).setCell (Nat.le_refl _) _)).alloc (by simpa using HB2.out.size) _⟩
        · rcases Bool.eq_false_or_eq_true (goalB a b c e f x y) with hg | hg
          · have HG := Lib.hid hg
            have HR2 := Lib.hid (show gdYes a b c e f x y = V by rw [HV.out]; unfold gdV0; simp [hg])
            clear hg
            go_wp2_with fail
            refine (l10Goal_any _ a b c e f x y _ HM9.out.sv).mono ?_
            rintro en w10 ⟨rfl, hb⟩
            rw [HG.out]
            have HX10 := Lib.hid (gf_kept hb hcl9 HX9.out)
            have HM10 := Lib.hid (gf_kept hb hl9 HM9.out)
            have HB10 := Lib.hid (below_of HB9.out hb HB9.out.size)
            clear hb
            obtain ⟨⟨⟨x0, x1, x2, x3, x4⟩, x5, x6⟩, y0, y1, y2, y3, y4, y5, y6⟩ := HX10.out
            obtain ⟨⟨⟨m0, m1, m2, m3, m4⟩, m5, m6⟩, -, -, -, -, -, -, -⟩ := HM10.out
            go_wp2
            try simp only [Exit.inBlock, Exit.then]
            refine bodyPost_ret_by (v := gdYes a b c e f x y) (by rw [results_cell_tmp rfl]; unfold gdYes; go_simp) rfl ?_
            exact ⟨ret_valD HR2.out, (((((((HB10.out.setCell (Nat.le_refl _) _).setCell (Nat.le_refl _) _).setCell (Nat.le_refl _) _).setCell (Nat.le_refl _) _).setCell (Nat.le_refl _) _).setCell (Nat.le_refl _) _).setCell (Nat.le_refl _) _)⟩
          · have HG := Lib.hid hg
            have HR2 := Lib.hid (show gdNo = V by rw [HV.out]; unfold gdV0; simp [hg])
            clear hg
            go_wp2_with fail
            refine (l10Goal_any _ a b c e f x y _ HM9.out.sv).mono ?_
            rintro en w10 ⟨rfl, hb⟩
            rw [HG.out]
            have HX10 := Lib.hid (gf_kept hb hcl9 HX9.out)
            have HM10 := Lib.hid (gf_kept hb hl9 HM9.out)
            have HB10 := Lib.hid (below_of HB9.out hb HB9.out.size)
            clear hb
            obtain ⟨⟨⟨x0, x1, x2, x3, x4⟩, x5, x6⟩, y0, y1, y2, y3, y4, y5, y6⟩ := HX10.out
            go_wp2
            try simp only [Exit.inBlock, Exit.then]
            refine bodyPost_ret_by (v := gdNo) (by rw [results_cell_tmp rfl]; unfold gdNo; go_simp) rfl ?_
            exact ⟨ret_valD HR2.out, (((((((HB10.out.setCell (Nat.le_refl _) _).setCell (Nat.le_refl _) _).setCell (Nat.le_refl _) _).setCell (Nat.le_refl _) _).setCell (Nat.le_refl _) _).setCell (Nat.le_refl _) _).setCell (Nat.le_refl _) _)⟩
  · have HR2 := Lib.hid (show gdNo = V by
      rcases HVV.out with ⟨-, h⟩ | ⟨q0, q1, q2, q3, q4, q5, q6, hq, -⟩
      · exact h.symm
      · exfalso
        have := congrArg List.length (HPS.out.trans hq.symm)
        simp only [List.length_map, List.length_cons, List.length_nil] at this
        rw [HN.out] at this
        omega)
    have hne : ((n : Int) != 7) = true := by simp; omega
    clear h7
    obtain ⟨⟨⟨x0, x1, x2, x3, x4⟩, x5, x6⟩, y0, y1, y2, y3, y4, y5, y6⟩ := HX1.out
    go_wp2
    try simp only [Exit.inBlock, Exit.then]
    refine bodyPost_ret_by (v := gdNo) (by rw [results_cell_tmp rfl]; unfold gdNo; go_simp) rfl ?_
    exact ⟨ret_valD HR2.out, (((((((HB1.out.setCell (Nat.le_refl _) _).setCell (Nat.le_refl _) _).setCell (Nat.le_refl _) _).setCell (Nat.le_refl _) _).setCell (Nat.le_refl _) _).setCell (Nat.le_refl _) _).setCell (Nat.le_refl _) _)⟩
end Go.Proofs.YtblkbjeongmgdaaGreatDoor
