/- Profiles: the program's thinnest ring and widest one. -/
import Derived.Test.YtojkijcdfnfnlaaFindI
import Derived.Test.YtojkijcdfnfnlaaHand
namespace Go.Proofs.Ytojkijcdfnfnlaa
open Go.ChangeShapes Go.WideShapes Go.ChangeAt Go.RowKit

/-- The first of the first k indices at which g is least. -/
def minK (g : Nat → Int) : Nat → Nat
  | 0 => 0
  | k + 1 => if g k < g (minK g k) then k else minK g k
theorem minK_le (g : Nat → Int) (k : Nat) (h : 0 < k) : minK g k < k := by
  induction k with
  | zero => omega
  | succ k ih =>
    unfold minK
    split
    · omega
    · by_cases e : k = 0
      · subst e; simp [minK]
      · have := ih (by omega); omega
theorem minK_lt (g : Nat → Int) (k n : Nat) (h : k ≤ n) (hn : 0 < n) : minK g k < n := by
  by_cases e : k = 0
  · subst e; exact hn
  · have := minK_le g k (by omega); omega
theorem minK_is (g : Nat → Int) (k : Nat) : minK g (k + 1) = minI g k := by
  induction k with
  | zero => simp [minK, minI]
  | succ k ih => rw [minK, ih, minI]
theorem cells6 {w w' : World} {g g' : Nat} {u0 u1 u2 v0 v1 v2 : Value} (hz : g < w.heap.size) (hz' : g' < w.heap.size) (h0 : w.cell? ⟨g, 0, none⟩ = some u0) (h1 : w.cell? ⟨g, 1, none⟩ = some u1) (h2 : w.cell? ⟨g, 2, none⟩ = some u2) (k0 : w.cell? ⟨g', 0, none⟩ = some v0) (k1 : w.cell? ⟨g', 1, none⟩ = some v1) (k2 : w.cell? ⟨g', 2, none⟩ = some v2) (hb : Below w.heap.size w w') :
    w'.cell? ⟨g, 0, none⟩ = some u0 ∧ w'.cell? ⟨g, 1, none⟩ = some u1 ∧ w'.cell? ⟨g, 2, none⟩ = some u2 ∧ w'.cell? ⟨g', 0, none⟩ = some v0 ∧ w'.cell? ⟨g', 1, none⟩ = some v1 ∧ w'.cell? ⟨g', 2, none⟩ = some v2 ∧ Below w.heap.size w w' :=
  ⟨(below_cell hb _ _ hz).trans h0, (below_cell hb _ _ hz).trans h1, (below_cell hb _ _ hz).trans h2, (below_cell hb _ _ hz').trans k0, (below_cell hb _ _ hz').trans k1, (below_cell hb _ _ hz').trans k2, hb⟩
theorem keepS6 {w w5 w' : World} {g g' : Nat} {u0 u1 u2 v0 v1 v2 : Value} (hz : g < w.heap.size) (hz' : g' < w.heap.size) (hb : Below w5.heap.size w5 w')
    (hS : w5.cell? ⟨g, 0, none⟩ = some u0 ∧ w5.cell? ⟨g, 1, none⟩ = some u1 ∧ w5.cell? ⟨g, 2, none⟩ = some u2 ∧ w5.cell? ⟨g', 0, none⟩ = some v0 ∧ w5.cell? ⟨g', 1, none⟩ = some v1 ∧ w5.cell? ⟨g', 2, none⟩ = some v2 ∧ Below w.heap.size w w5) :
    w'.cell? ⟨g, 0, none⟩ = some u0 ∧ w'.cell? ⟨g, 1, none⟩ = some u1 ∧ w'.cell? ⟨g, 2, none⟩ = some u2 ∧ w'.cell? ⟨g', 0, none⟩ = some v0 ∧ w'.cell? ⟨g', 1, none⟩ = some v1 ∧ w'.cell? ⟨g', 2, none⟩ = some v2 ∧ Below w.heap.size w w' := by
  obtain ⟨h0, h1, h2, h3, h4, h5, h6⟩ := hS
  have z1 := Nat.lt_of_lt_of_le hz h6.size
  have z2 := Nat.lt_of_lt_of_le hz' h6.size
  exact ⟨(below_cell hb _ _ z1).trans h0, (below_cell hb _ _ z1).trans h1, (below_cell hb _ _ z1).trans h2, (below_cell hb _ _ z2).trans h3, (below_cell hb _ _ z2).trans h4, (below_cell hb _ _ z2).trans h5, below_of h6 hb h6.size⟩
set_option maxRecDepth 20000 in
set_option maxHeartbeats 1000000 in
theorem implThin1_any (x y z x2 y2 z2 : Int) (w : World) (hb1 : ringB (x, y, z) = true) (hb2 : ringB (x2, y2, z2) = true) :
    Calls Try.prog 59 #[.agg #[.int .i64 x, .int .i64 y, .int .i64 z], .agg #[.int .i64 x2, .int .i64 y2, .int .i64 z2]] w fun e w' => e = .returned (.bool (decide (x - y < x2 - y2))) ∧ Below w.heap.size w w' := by
  have H1 := Lib.hid hb1
  have H2 := Lib.hid hb2
  clear hb1 hb2
  go_enter Try.func59, Try.ntmps59
  go_wp2
  have hbA := ((Below.refl w.heap.size w).alloc (Nat.le_refl _) (.cells #[.int .i64 x, .int .i64 y, .int .i64 z] 25)).alloc (by simp) (.cells #[.int .i64 x2, .int .i64 y2, .int .i64 z2] 25)
  have g0 : ((w.alloc (.cells #[.int .i64 x, .int .i64 y, .int .i64 z] 25)).alloc (.cells #[.int .i64 x2, .int .i64 y2, .int .i64 z2] 25)).cell? ⟨w.heap.size, 0, none⟩ = some (.int .i64 x) := by go_simp
  have g1 : ((w.alloc (.cells #[.int .i64 x, .int .i64 y, .int .i64 z] 25)).alloc (.cells #[.int .i64 x2, .int .i64 y2, .int .i64 z2] 25)).cell? ⟨w.heap.size, 1, none⟩ = some (.int .i64 y) := by go_simp
  have g2 : ((w.alloc (.cells #[.int .i64 x, .int .i64 y, .int .i64 z] 25)).alloc (.cells #[.int .i64 x2, .int .i64 y2, .int .i64 z2] 25)).cell? ⟨w.heap.size, 2, none⟩ = some (.int .i64 z) := by go_simp
  have k0 : ((w.alloc (.cells #[.int .i64 x, .int .i64 y, .int .i64 z] 25)).alloc (.cells #[.int .i64 x2, .int .i64 y2, .int .i64 z2] 25)).cell? ⟨w.heap.size + 1, 0, none⟩ = some (.int .i64 x2) := by go_simp
  have k1 : ((w.alloc (.cells #[.int .i64 x, .int .i64 y, .int .i64 z] 25)).alloc (.cells #[.int .i64 x2, .int .i64 y2, .int .i64 z2] 25)).cell? ⟨w.heap.size + 1, 1, none⟩ = some (.int .i64 y2) := by go_simp
  have k2 : ((w.alloc (.cells #[.int .i64 x, .int .i64 y, .int .i64 z] 25)).alloc (.cells #[.int .i64 x2, .int .i64 y2, .int .i64 z2] 25)).cell? ⟨w.heap.size + 1, 2, none⟩ = some (.int .i64 z2) := by go_simp
  have hz1 : w.heap.size < ((w.alloc (.cells #[.int .i64 x, .int .i64 y, .int .i64 z] 25)).alloc (.cells #[.int .i64 x2, .int .i64 y2, .int .i64 z2] 25)).heap.size := by simp; omega
  have hz2 : w.heap.size + 1 < ((w.alloc (.cells #[.int .i64 x, .int .i64 y, .int .i64 z] 25)).alloc (.cells #[.int .i64 x2, .int .i64 y2, .int .i64 z2] 25)).heap.size := by simp
  have HBA := Lib.hid hbA
  clear hbA
  generalize ((w.alloc (.cells #[.int .i64 x, .int .i64 y, .int .i64 z] 25)).alloc (.cells #[.int .i64 x2, .int .i64 y2, .int .i64 z2] 25)) = wA at *
  go_region_held3 (fun w' => w'.cell? ⟨w.heap.size, 0, none⟩ = some (.int .i64 x) ∧ w'.cell? ⟨w.heap.size, 1, none⟩ = some (.int .i64 y) ∧ w'.cell? ⟨w.heap.size, 2, none⟩ = some (.int .i64 z) ∧ w'.cell? ⟨w.heap.size + 1, 0, none⟩ = some (.int .i64 x2) ∧ w'.cell? ⟨w.heap.size + 1, 1, none⟩ = some (.int .i64 y2) ∧ w'.cell? ⟨w.heap.size + 1, 2, none⟩ = some (.int .i64 z2) ∧ Below wA.heap.size wA w')
    (first | exact cells6 hz1 hz2 g0 g1 g2 k0 k1 k2 ⟨rfl, rfl, rfl, Nat.le_refl _, fun _ _ => rfl⟩ | exact keepS6 hz1 hz2 hb9 (by assumption) | assumption)
    (first | (go_at_call_of 57 (Value.agg #[.int .i64 x, .int .i64 y, .int .i64 z]); refine (implWall_any x y z _ H1.out).mono ?_; rintro e w9 ⟨rfl, hb9⟩) | (go_at_call_of 57 (Value.agg #[.int .i64 x2, .int .i64 y2, .int .i64 z2]); refine (implWall_any x2 y2 z2 _ H2.out).mono ?_; rintro e w9 ⟨rfl, hb9⟩))
  all_goals
    have HB9 := Lib.hid (show Below wA.heap.size wA w9 from (‹w9.cell? _ = _ ∧ _ ∧ _ ∧ _ ∧ _ ∧ _ ∧ Below wA.heap.size wA w9›).2.2.2.2.2.2)
    go_wp2
    go_ret
    exact ⟨rfl, below_of HBA.out HB9.out HBA.out.size⟩
set_option maxRecDepth 20000 in
theorem implWide1_any (x y z x2 y2 z2 : Int) (w : World) (_ : ringB (x, y, z) = true) (_ : ringB (x2, y2, z2) = true) :
    Calls Try.prog 60 #[.agg #[.int .i64 x, .int .i64 y, .int .i64 z], .agg #[.int .i64 x2, .int .i64 y2, .int .i64 z2]] w fun e w' => e = .returned (.bool (decide (x2 < x))) ∧ Below w.heap.size w w' := by
  go_enter Try.func60, Try.ntmps60
  go_wp2
  go_ret
  exact ⟨rfl, ((Below.refl _ _).alloc (Nat.le_refl _) _).alloc (by simp) _⟩
theorem foreT_step {rs : List Rg} {k q : Nat} {x y z x2 y2 z2 : Int} (h : rs.getD k zR = (x, y, z)) (h2 : rs.getD q zR = (x2, y2, z2)) (hq : minK (wallF rs) k = q) : minK (wallF rs) (k + 1) = if x - y < x2 - y2 then k else q := by
  rw [minK, hq]
  unfold wallF
  rw [h, h2]
theorem keepFT {w w' : World} {g p b o : Nat} {u0 u1 u2 u3 u4 u5 u6 : Value} (hz : g < w.heap.size) (hp : p < w.heap.size) (hbl : b < w.heap.size) (g0 : w.cell? ⟨g, 0, none⟩ = some u0) (g1 : w.cell? ⟨g, 1, none⟩ = some u1) (g2 : w.cell? ⟨g, 2, none⟩ = some u2)
    (p1 : w.cell? ⟨p, 1, none⟩ = some u3) (q0 : w.cell? ⟨b, o, none⟩ = some u4) (q1 : w.cell? ⟨b, o + 1, none⟩ = some u5) (q2 : w.cell? ⟨b, o + 2, none⟩ = some u6) (hb : Below w.heap.size w w') :
    w'.cell? ⟨g, 0, none⟩ = some u0 ∧ w'.cell? ⟨g, 1, none⟩ = some u1 ∧ w'.cell? ⟨g, 2, none⟩ = some u2 ∧ w'.cell? ⟨p, 1, none⟩ = some u3 ∧ w'.cell? ⟨b, o, none⟩ = some u4 ∧ w'.cell? ⟨b, o + 1, none⟩ = some u5 ∧ w'.cell? ⟨b, o + 2, none⟩ = some u6 ∧ Below w.heap.size w w' :=
  keepB (m := 1) hz hp hbl g0 g1 g2 p1 q0 q1 q2 hb
set_option maxRecDepth 20000 in
set_option maxHeartbeats 4000000 in
theorem foreT_any (s : ByteArray) (v : Value) (rs : List Rg) (w : World) (h : RingsAt w v rs) (hs : s.size ≤ maxLen) :
    Calls Try.prog 58 #[.agg #[.string s, v], .func (.func 59) #[] #[]] w fun e w' => e = .returned (.tuple #[.int .i64 (thinR s rs), .int .i64 (codeP s rs)]) ∧ Below w.heap.size w w' := by
  have HI := Lib.hid h
  obtain ⟨a, c, rfl⟩ := rings_form h
  clear h
  rcases Bool.eq_false_or_eq_true (profB s rs) with hp | hp
  · have HR := Lib.hid (show thinR s rs = (minI (wallF rs) (rs.length - 1) : Nat) ∧ codeP s rs = 0 by unfold thinR codeP; rw [if_pos hp, if_pos hp]; exact ⟨rfl, rfl⟩)
    have HP := Lib.hid hp
    obtain ⟨-, ⟨n1, n2⟩, -, -⟩ := prof_iff.1 hp
    clear hp
    generalize hn : rs.length = n at *
    have HN := Lib.hid hn
    clear hn
    go_enter Try.func58, Try.ntmps58
    go_wp2_with fail
    have hal := alloc_lt2 w (.cells #[.string s, .slice a n c] 35)
    have hpa := prof_alloc w s (.slice a n c) 35
    have HBA := Lib.hid (below_al w (.cells #[.string s, .slice a n c] 35))
    generalize w.alloc (.cells #[.string s, .slice a n c] 35) = wA0 at *
    have HIA := Lib.hid (rings_kept HBA.out HI.out)
    refine (implValidP_any s _ rs _ HIA.out hs).mono ?_
    rintro e w1 ⟨rfl, hb⟩
    rw [HP.out]
    have HP1 := Lib.hid (prof_keep hb hal hpa)
    have hl1 := Nat.lt_of_lt_of_le hal hb.size
    have HI1 := Lib.hid (rings_kept hb HIA.out)
    have HB := Lib.hid (below_of HBA.out hb HBA.out.size)
    clear hb hpa
    obtain ⟨p0, p1⟩ := HP1.out
    obtain ⟨-, ⟨a', c', hv, h0⟩ | ⟨b, off, cap, hv, hbl, hc⟩⟩ := HI1.out
    · have := HN.out
      rw [h0] at this; simp at this; omega
    · simp only [Value.slice.injEq] at hv
      obtain ⟨rfl, -, rfl⟩ := hv
      have HC := Lib.hid (fun i (hi : i < n) => ring_in hc i (by rw [HN.out]; exact hi))
      clear hc
      go_wp2
      clear p0 p1
      go_loopw [6, 15] (fun A i wr => ∃ k : Nat, k ≤ n ∧ i = .int .i64 k ∧ A = .int .i64 (minK (wallF rs) k : Nat) ∧ Below w1.heap.size w1 wr) (fun _ i _ => n - (intOf i).toNat)
      case atStart => exact ⟨0, by omega, rfl, rfl, Below.refl _ _⟩
      case round =>
        obtain ⟨k, hk, rfl, rfl, hbw⟩ := hrel
        have HBW := Lib.hid hbw
        clear hbw
        by_cases hlt : k < n
        · have hr := HC.out k hlt
          have HRB := Lib.hid (prof_ring HP.out k (by rw [HN.out]; exact hlt))
          obtain ⟨⟨x, y, z⟩, hxyz⟩ : ∃ r, rs.getD k zR = r := ⟨_, rfl⟩
          have HXY := Lib.hid hxyz
          rw [hxyz] at hr HRB
          have e0 : wr.cell? ⟨b, off + k * 3, none⟩ = some (.int .i64 x) := (below_cell HBW.out _ _ hbl).trans hr.c0
          have e1 : wr.cell? ⟨b, off + k * 3 + 1, none⟩ = some (.int .i64 y) := (below_cell HBW.out _ _ hbl).trans hr.c1
          have e2 : wr.cell? ⟨b, off + k * 3 + 2, none⟩ = some (.int .i64 z) := (below_cell HBW.out _ _ hbl).trans hr.c2
          obtain ⟨q, hq⟩ : ∃ q, minK (wallF rs) k = q := ⟨_, rfl⟩
          have hqn : q < n := by rw [← hq]; exact minK_lt _ _ _ hk (by omega)
          have HQ := Lib.hid hq
          have hr2 := HC.out q hqn
          have HRB2 := Lib.hid (prof_ring HP.out q (by rw [HN.out]; exact hqn))
          obtain ⟨⟨x2, y2, z2⟩, hx2⟩ : ∃ r, rs.getD q zR = r := ⟨_, rfl⟩
          have HX2 := Lib.hid hx2
          rw [hx2] at hr2 HRB2
          have HRQ := Lib.hid hr2
          have HST := Lib.hid (foreT_step hxyz hx2 hq)
          rw [hq]
          have hkm : (k : Int) < (n : Int) := by omega
          have hk0 : (0 : Int) ≤ (k : Int) := by omega
          have hqm : (q : Int) < (n : Int) := by omega
          have hq0 : (0 : Int) ≤ (q : Int) := by omega
          clear hr hr2 hxyz hx2 hq
          go_wp2
          have hzA : wr.heap.size < (wr.alloc (Obj.cells #[Value.int IntKind.i64 x, Value.int IntKind.i64 y, Value.int IntKind.i64 z] 25)).heap.size := by simp
          have hbA := (Below.refl wr.heap.size wr).alloc (Nat.le_refl _) (Obj.cells #[Value.int IntKind.i64 x, Value.int IntKind.i64 y, Value.int IntKind.i64 z] 25)
          have g0 : (wr.alloc (Obj.cells #[Value.int IntKind.i64 x, Value.int IntKind.i64 y, Value.int IntKind.i64 z] 25)).cell? ⟨wr.heap.size, 0, none⟩ = some (.int .i64 x) := by go_simp
          have g1 : (wr.alloc (Obj.cells #[Value.int IntKind.i64 x, Value.int IntKind.i64 y, Value.int IntKind.i64 z] 25)).cell? ⟨wr.heap.size, 1, none⟩ = some (.int .i64 y) := by go_simp
          have g2 : (wr.alloc (Obj.cells #[Value.int IntKind.i64 x, Value.int IntKind.i64 y, Value.int IntKind.i64 z] 25)).cell? ⟨wr.heap.size, 2, none⟩ = some (.int .i64 z) := by go_simp
          have HBA2 := Lib.hid (below_of HBW.out hbA HBW.out.size)
          clear hbA e0 e1 e2
          generalize (wr.alloc (Obj.cells #[Value.int IntKind.i64 x, Value.int IntKind.i64 y, Value.int IntKind.i64 z] 25)) = wA at *
          have p1 := (below_cell HBA2.out _ 1 hl1).trans HP1.out.c1
          have hlA := Nat.lt_of_lt_of_le hl1 HBA2.out.size
          have hblA := Nat.lt_of_lt_of_le hbl HBA2.out.size
          have q0 : wA.cell? ⟨b, off + q * 3, none⟩ = some (.int .i64 x2) := (below_cell HBA2.out _ _ hbl).trans HRQ.out.c0
          have q1 : wA.cell? ⟨b, off + q * 3 + 1, none⟩ = some (.int .i64 y2) := (below_cell HBA2.out _ _ hbl).trans HRQ.out.c1
          have q2 : wA.cell? ⟨b, off + q * 3 + 2, none⟩ = some (.int .i64 z2) := (below_cell HBA2.out _ _ hbl).trans HRQ.out.c2
          go_region_held3 (fun w' => w'.cell? ⟨wr.heap.size, 0, none⟩ = some (.int .i64 x) ∧ w'.cell? ⟨wr.heap.size, 1, none⟩ = some (.int .i64 y) ∧ w'.cell? ⟨wr.heap.size, 2, none⟩ = some (.int .i64 z) ∧ w'.cell? ⟨w.heap.size, 1, none⟩ = some (.slice (some ⟨b, off, none⟩) n c) ∧ w'.cell? ⟨b, off + q * 3, none⟩ = some (.int .i64 x2) ∧ w'.cell? ⟨b, off + q * 3 + 1, none⟩ = some (.int .i64 y2) ∧ w'.cell? ⟨b, off + q * 3 + 2, none⟩ = some (.int .i64 z2) ∧ Below wA.heap.size wA w')
            (first | exact keepFT hzA hlA hblA g0 g1 g2 p1 q0 q1 q2 ⟨rfl, rfl, rfl, Nat.le_refl _, fun _ _ => rfl⟩ | exact keepFT hzA hlA hblA g0 g1 g2 p1 q0 q1 q2 (below_drew hb9) | assumption)
            ((go_at_call 59; refine (implThin1_any x y z x2 y2 z2 wA.drew HRB.out HRB2.out).mono ?_; rintro e w9 ⟨rfl, hb9⟩))
          have HB9 := Lib.hid (below_of HBA2.out (below_drew hb9) HBA2.out.size)
          clear hb9 g0 g1 g2 p1 q0 q1 q2
          by_cases ht : x - y < x2 - y2
          · have HM := Lib.hid (show minK (wallF rs) (k + 1) = k by rw [HST.out, if_pos ht])
            rw [decide_eq_true ht]
            clear ht
            go_wp2
            go_roundw
            case rel => exact ⟨k + 1, by omega, by go_num, by rw [HM.out], HB9.out⟩
            case measure => simp [intOf]; omega
          · have HM := Lib.hid (show minK (wallF rs) (k + 1) = q by rw [HST.out, if_neg ht])
            rw [decide_eq_false ht]
            clear ht
            go_wp2
            go_roundw
            case rel => exact ⟨k + 1, by omega, by go_num, by rw [HM.out], HB9.out⟩
            case measure => simp [intOf]; omega
        · obtain rfl : k = n := by omega
          have HR1 := Lib.hid (show thinR s rs = (minK (wallF rs) k : Nat) by rw [HR.out.1]; obtain ⟨j, rfl⟩ : ∃ j, k = j + 1 := ⟨k - 1, by omega⟩; rw [minK_is]; rfl)
          have HR2 := Lib.hid HR.out.2
          generalize minK (wallF rs) k = y at *
          have HBF := Lib.hid (below_of HB.out HBW.out HB.out.size)
          go_wp2
          go_ret2
          exact ⟨ret_two HR1.out.symm HR2.out.symm, HBF.out⟩
  · have HR := Lib.hid (show thinR s rs = 0 ∧ codeP s rs = 1 by unfold thinR codeP; rw [hp]; exact ⟨rfl, rfl⟩)
    generalize hn : rs.length = n at *
    clear hn
    go_enter Try.func58, Try.ntmps58
    go_wp2_with fail
    refine (implValidP_any s _ rs _ (rings_kept (below_al _ _) HI.out) hs).mono ?_
    rintro e w1 ⟨rfl, hb⟩
    rw [hp]
    have HB := Lib.hid (below_of (below_al _ _) hb (by simp))
    clear hb
    go_wp2
    go_ret2
    exact ⟨ret_two HR.out.1.symm HR.out.2.symm, HB.out⟩
set_option maxRecDepth 20000 in
theorem implThinnestRing_any (s : ByteArray) (v : Value) (rs : List Rg) (w : World) (h : RingsAt w v rs) (hs : s.size ≤ maxLen) :
    Calls Try.prog 33 #[.agg #[.string s, v]] w fun e w' => e = .returned (.tuple #[.int .i64 (thinR s rs), .int .i64 (codeP s rs)]) ∧ Below w.heap.size w w' := by
  have HI := Lib.hid h
  obtain ⟨a, c, rfl⟩ := rings_form h
  clear h
  generalize hn : rs.length = n at *
  clear hn
  go_enter Try.func33, Try.ntmps33
  go_wp2_with fail
  refine (foreT_any s _ rs _ (rings_kept (below_al _ _) HI.out) hs).mono ?_
  rintro e w1 ⟨rfl, hb⟩
  have HB := Lib.hid (below_of (below_al _ _) hb (by simp))
  clear hb
  obtain ⟨r1, h1⟩ : ∃ r, thinR s rs = r := ⟨_, rfl⟩
  obtain ⟨r2, h2⟩ : ∃ r, codeP s rs = r := ⟨_, rfl⟩
  have H1 := Lib.hid h1
  have H2 := Lib.hid h2
  rw [h1, h2]
  clear h1 h2
  go_wp2
  go_ret2
  exact ⟨ret_two H1.out.symm H2.out.symm, HB.out⟩
theorem foreW_step {rs : List Rg} {k q : Nat} {x y z x2 y2 z2 : Int} (h : rs.getD k zR = (x, y, z)) (h2 : rs.getD q zR = (x2, y2, z2)) (hq : minK (wideF rs) k = q) : minK (wideF rs) (k + 1) = if x2 < x then k else q := by
  rw [minK, hq]
  unfold wideF
  rw [h, h2]
  simp only [Int.neg_lt_neg_iff]
theorem keepFW {w w' : World} {g p b o : Nat} {u0 u1 u2 u3 u4 u5 u6 : Value} (hz : g < w.heap.size) (hp : p < w.heap.size) (hbl : b < w.heap.size) (g0 : w.cell? ⟨g, 0, none⟩ = some u0) (g1 : w.cell? ⟨g, 1, none⟩ = some u1) (g2 : w.cell? ⟨g, 2, none⟩ = some u2)
    (p1 : w.cell? ⟨p, 1, none⟩ = some u3) (q0 : w.cell? ⟨b, o, none⟩ = some u4) (q1 : w.cell? ⟨b, o + 1, none⟩ = some u5) (q2 : w.cell? ⟨b, o + 2, none⟩ = some u6) (hb : Below w.heap.size w w') :
    w'.cell? ⟨g, 0, none⟩ = some u0 ∧ w'.cell? ⟨g, 1, none⟩ = some u1 ∧ w'.cell? ⟨g, 2, none⟩ = some u2 ∧ w'.cell? ⟨p, 1, none⟩ = some u3 ∧ w'.cell? ⟨b, o, none⟩ = some u4 ∧ w'.cell? ⟨b, o + 1, none⟩ = some u5 ∧ w'.cell? ⟨b, o + 2, none⟩ = some u6 ∧ Below w.heap.size w w' :=
  keepB (m := 1) hz hp hbl g0 g1 g2 p1 q0 q1 q2 hb
set_option maxRecDepth 20000 in
set_option maxHeartbeats 4000000 in
theorem foreW_any (s : ByteArray) (v : Value) (rs : List Rg) (w : World) (h : RingsAt w v rs) (hs : s.size ≤ maxLen) :
    Calls Try.prog 58 #[.agg #[.string s, v], .func (.func 60) #[] #[]] w fun e w' => e = .returned (.tuple #[.int .i64 (widR s rs), .int .i64 (codeP s rs)]) ∧ Below w.heap.size w w' := by
  have HI := Lib.hid h
  obtain ⟨a, c, rfl⟩ := rings_form h
  clear h
  rcases Bool.eq_false_or_eq_true (profB s rs) with hp | hp
  · have HR := Lib.hid (show widR s rs = (minI (wideF rs) (rs.length - 1) : Nat) ∧ codeP s rs = 0 by unfold widR codeP; rw [if_pos hp, if_pos hp]; exact ⟨rfl, rfl⟩)
    have HP := Lib.hid hp
    obtain ⟨-, ⟨n1, n2⟩, -, -⟩ := prof_iff.1 hp
    clear hp
    generalize hn : rs.length = n at *
    have HN := Lib.hid hn
    clear hn
    go_enter Try.func58, Try.ntmps58
    go_wp2_with fail
    have hal := alloc_lt2 w (.cells #[.string s, .slice a n c] 35)
    have hpa := prof_alloc w s (.slice a n c) 35
    have HBA := Lib.hid (below_al w (.cells #[.string s, .slice a n c] 35))
    generalize w.alloc (.cells #[.string s, .slice a n c] 35) = wA0 at *
    have HIA := Lib.hid (rings_kept HBA.out HI.out)
    refine (implValidP_any s _ rs _ HIA.out hs).mono ?_
    rintro e w1 ⟨rfl, hb⟩
    rw [HP.out]
    have HP1 := Lib.hid (prof_keep hb hal hpa)
    have hl1 := Nat.lt_of_lt_of_le hal hb.size
    have HI1 := Lib.hid (rings_kept hb HIA.out)
    have HB := Lib.hid (below_of HBA.out hb HBA.out.size)
    clear hb hpa
    obtain ⟨p0, p1⟩ := HP1.out
    obtain ⟨-, ⟨a', c', hv, h0⟩ | ⟨b, off, cap, hv, hbl, hc⟩⟩ := HI1.out
    · have := HN.out
      rw [h0] at this; simp at this; omega
    · simp only [Value.slice.injEq] at hv
      obtain ⟨rfl, -, rfl⟩ := hv
      have HC := Lib.hid (fun i (hi : i < n) => ring_in hc i (by rw [HN.out]; exact hi))
      clear hc
      go_wp2
      clear p0 p1
      go_loopw [6, 15] (fun A i wr => ∃ k : Nat, k ≤ n ∧ i = .int .i64 k ∧ A = .int .i64 (minK (wideF rs) k : Nat) ∧ Below w1.heap.size w1 wr) (fun _ i _ => n - (intOf i).toNat)
      case atStart => exact ⟨0, by omega, rfl, rfl, Below.refl _ _⟩
      case round =>
        obtain ⟨k, hk, rfl, rfl, hbw⟩ := hrel
        have HBW := Lib.hid hbw
        clear hbw
        by_cases hlt : k < n
        · have hr := HC.out k hlt
          have HRB := Lib.hid (prof_ring HP.out k (by rw [HN.out]; exact hlt))
          obtain ⟨⟨x, y, z⟩, hxyz⟩ : ∃ r, rs.getD k zR = r := ⟨_, rfl⟩
          have HXY := Lib.hid hxyz
          rw [hxyz] at hr HRB
          have e0 : wr.cell? ⟨b, off + k * 3, none⟩ = some (.int .i64 x) := (below_cell HBW.out _ _ hbl).trans hr.c0
          have e1 : wr.cell? ⟨b, off + k * 3 + 1, none⟩ = some (.int .i64 y) := (below_cell HBW.out _ _ hbl).trans hr.c1
          have e2 : wr.cell? ⟨b, off + k * 3 + 2, none⟩ = some (.int .i64 z) := (below_cell HBW.out _ _ hbl).trans hr.c2
          obtain ⟨q, hq⟩ : ∃ q, minK (wideF rs) k = q := ⟨_, rfl⟩
          have hqn : q < n := by rw [← hq]; exact minK_lt _ _ _ hk (by omega)
          have HQ := Lib.hid hq
          have hr2 := HC.out q hqn
          have HRB2 := Lib.hid (prof_ring HP.out q (by rw [HN.out]; exact hqn))
          obtain ⟨⟨x2, y2, z2⟩, hx2⟩ : ∃ r, rs.getD q zR = r := ⟨_, rfl⟩
          have HX2 := Lib.hid hx2
          rw [hx2] at hr2 HRB2
          have HRQ := Lib.hid hr2
          have HST := Lib.hid (foreW_step hxyz hx2 hq)
          rw [hq]
          have hkm : (k : Int) < (n : Int) := by omega
          have hk0 : (0 : Int) ≤ (k : Int) := by omega
          have hqm : (q : Int) < (n : Int) := by omega
          have hq0 : (0 : Int) ≤ (q : Int) := by omega
          clear hr hr2 hxyz hx2 hq
          go_wp2
          have hzA : wr.heap.size < (wr.alloc (Obj.cells #[Value.int IntKind.i64 x, Value.int IntKind.i64 y, Value.int IntKind.i64 z] 25)).heap.size := by simp
          have hbA := (Below.refl wr.heap.size wr).alloc (Nat.le_refl _) (Obj.cells #[Value.int IntKind.i64 x, Value.int IntKind.i64 y, Value.int IntKind.i64 z] 25)
          have g0 : (wr.alloc (Obj.cells #[Value.int IntKind.i64 x, Value.int IntKind.i64 y, Value.int IntKind.i64 z] 25)).cell? ⟨wr.heap.size, 0, none⟩ = some (.int .i64 x) := by go_simp
          have g1 : (wr.alloc (Obj.cells #[Value.int IntKind.i64 x, Value.int IntKind.i64 y, Value.int IntKind.i64 z] 25)).cell? ⟨wr.heap.size, 1, none⟩ = some (.int .i64 y) := by go_simp
          have g2 : (wr.alloc (Obj.cells #[Value.int IntKind.i64 x, Value.int IntKind.i64 y, Value.int IntKind.i64 z] 25)).cell? ⟨wr.heap.size, 2, none⟩ = some (.int .i64 z) := by go_simp
          have HBA2 := Lib.hid (below_of HBW.out hbA HBW.out.size)
          clear hbA e0 e1 e2
          generalize (wr.alloc (Obj.cells #[Value.int IntKind.i64 x, Value.int IntKind.i64 y, Value.int IntKind.i64 z] 25)) = wA at *
          have p1 := (below_cell HBA2.out _ 1 hl1).trans HP1.out.c1
          have hlA := Nat.lt_of_lt_of_le hl1 HBA2.out.size
          have hblA := Nat.lt_of_lt_of_le hbl HBA2.out.size
          have q0 : wA.cell? ⟨b, off + q * 3, none⟩ = some (.int .i64 x2) := (below_cell HBA2.out _ _ hbl).trans HRQ.out.c0
          have q1 : wA.cell? ⟨b, off + q * 3 + 1, none⟩ = some (.int .i64 y2) := (below_cell HBA2.out _ _ hbl).trans HRQ.out.c1
          have q2 : wA.cell? ⟨b, off + q * 3 + 2, none⟩ = some (.int .i64 z2) := (below_cell HBA2.out _ _ hbl).trans HRQ.out.c2
          go_region_held3 (fun w' => w'.cell? ⟨wr.heap.size, 0, none⟩ = some (.int .i64 x) ∧ w'.cell? ⟨wr.heap.size, 1, none⟩ = some (.int .i64 y) ∧ w'.cell? ⟨wr.heap.size, 2, none⟩ = some (.int .i64 z) ∧ w'.cell? ⟨w.heap.size, 1, none⟩ = some (.slice (some ⟨b, off, none⟩) n c) ∧ w'.cell? ⟨b, off + q * 3, none⟩ = some (.int .i64 x2) ∧ w'.cell? ⟨b, off + q * 3 + 1, none⟩ = some (.int .i64 y2) ∧ w'.cell? ⟨b, off + q * 3 + 2, none⟩ = some (.int .i64 z2) ∧ Below wA.heap.size wA w')
            (first | exact keepFW hzA hlA hblA g0 g1 g2 p1 q0 q1 q2 ⟨rfl, rfl, rfl, Nat.le_refl _, fun _ _ => rfl⟩ | exact keepFW hzA hlA hblA g0 g1 g2 p1 q0 q1 q2 (below_drew hb9) | assumption)
            ((go_at_call 60; refine (implWide1_any x y z x2 y2 z2 wA.drew HRB.out HRB2.out).mono ?_; rintro e w9 ⟨rfl, hb9⟩))
          have HB9 := Lib.hid (below_of HBA2.out (below_drew hb9) HBA2.out.size)
          clear hb9 g0 g1 g2 p1 q0 q1 q2
          by_cases ht : x2 < x
          · have HM := Lib.hid (show minK (wideF rs) (k + 1) = k by rw [HST.out, if_pos ht])
            rw [decide_eq_true ht]
            clear ht
            go_wp2
            go_roundw
            case rel => exact ⟨k + 1, by omega, by go_num, by rw [HM.out], HB9.out⟩
            case measure => simp [intOf]; omega
          · have HM := Lib.hid (show minK (wideF rs) (k + 1) = q by rw [HST.out, if_neg ht])
            rw [decide_eq_false ht]
            clear ht
            go_wp2
            go_roundw
            case rel => exact ⟨k + 1, by omega, by go_num, by rw [HM.out], HB9.out⟩
            case measure => simp [intOf]; omega
        · obtain rfl : k = n := by omega
          have HR1 := Lib.hid (show widR s rs = (minK (wideF rs) k : Nat) by rw [HR.out.1]; obtain ⟨j, rfl⟩ : ∃ j, k = j + 1 := ⟨k - 1, by omega⟩; rw [minK_is]; rfl)
          have HR2 := Lib.hid HR.out.2
          generalize minK (wideF rs) k = y at *
          have HBF := Lib.hid (below_of HB.out HBW.out HB.out.size)
          go_wp2
          go_ret2
          exact ⟨ret_two HR1.out.symm HR2.out.symm, HBF.out⟩
  · have HR := Lib.hid (show widR s rs = 0 ∧ codeP s rs = 1 by unfold widR codeP; rw [hp]; exact ⟨rfl, rfl⟩)
    generalize hn : rs.length = n at *
    clear hn
    go_enter Try.func58, Try.ntmps58
    go_wp2_with fail
    refine (implValidP_any s _ rs _ (rings_kept (below_al _ _) HI.out) hs).mono ?_
    rintro e w1 ⟨rfl, hb⟩
    rw [hp]
    have HB := Lib.hid (below_of (below_al _ _) hb (by simp))
    clear hb
    go_wp2
    go_ret2
    exact ⟨ret_two HR.out.1.symm HR.out.2.symm, HB.out⟩
set_option maxRecDepth 20000 in
theorem implWidestRing_any (s : ByteArray) (v : Value) (rs : List Rg) (w : World) (h : RingsAt w v rs) (hs : s.size ≤ maxLen) :
    Calls Try.prog 35 #[.agg #[.string s, v]] w fun e w' => e = .returned (.tuple #[.int .i64 (widR s rs), .int .i64 (codeP s rs)]) ∧ Below w.heap.size w w' := by
  have HI := Lib.hid h
  obtain ⟨a, c, rfl⟩ := rings_form h
  clear h
  generalize hn : rs.length = n at *
  clear hn
  go_enter Try.func35, Try.ntmps35
  go_wp2_with fail
  refine (foreW_any s _ rs _ (rings_kept (below_al _ _) HI.out) hs).mono ?_
  rintro e w1 ⟨rfl, hb⟩
  have HB := Lib.hid (below_of (below_al _ _) hb (by simp))
  clear hb
  obtain ⟨r1, h1⟩ : ∃ r, widR s rs = r := ⟨_, rfl⟩
  obtain ⟨r2, h2⟩ : ∃ r, codeP s rs = r := ⟨_, rfl⟩
  have H1 := Lib.hid h1
  have H2 := Lib.hid h2
  rw [h1, h2]
  clear h1 h2
  go_wp2
  go_ret2
  exact ⟨ret_two H1.out.symm H2.out.symm, HB.out⟩
end Go.Proofs.Ytojkijcdfnfnlaa
