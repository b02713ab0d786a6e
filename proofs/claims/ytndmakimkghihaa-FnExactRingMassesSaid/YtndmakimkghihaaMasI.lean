/- The masses of all rings: the program's list. -/
import Derived.Test.YtndmakimkghihaaMasses
import Derived.Test.YtndmakimkghihaaIntRes
set_option linter.unusedVariables false
namespace Go.Proofs.Ytndmakimkghihaa
open Go.ChangeShapes Go.WideShapes Go.ChangeAt Go.RowKit Go.Shelf
attribute [local go_sem] Oper.semAt_some encPl

theorem kc_grown {X : Nat → Prop} {W W' : World} {row : Option Nat} (hg : W.grownBy W' row) (hrow : ∀ r, row = some r → X r) : KeepCells X W W' :=
  ⟨hg.size, fun k o hk _ hx => (hg.block k (Array.getElem?_eq_some_iff.1 hk).1 (fun e => hx (hrow k e.symm))).trans hk⟩
theorem row_own {W W' : World} {row : Option Nat} {B sz : Nat} {e : TypeId} {v : Value} {n : Nat} {xs : List Value} (h : W.ownsRow B e sz v n xs) (hg : W.grownBy W' row) (hr : ∀ r, row = some r → ∃ o : Obj, W.heap[r]? = some o ∧ o.isCells = false) : W'.ownsRow B e sz v n xs := by
  refine h.kept hg ?_
  rcases h.2 with ⟨rfl, _⟩ | ⟨g, cap, cur, rfl, hb, hg2, _⟩
  · exact .inl rfl
  · refine .inr fun e => ?_
    obtain ⟨o, ho, hc⟩ := hr g (by simpa [Value.ownBlock] using e.symm)
    rw [hg2] at ho; cases ho; simp [Obj.isCells] at hc
theorem stepIn_append_fits {F : Fence} {n : Nat} {P : Program} (w : World) {ops : Array Oper} {o : Oper} {a : Act} {K : Act → World → Prop} {Q : Exit → Act → World → Prop} {E : Prop}
    (hg : o.guard = none) (s x : Operand) (t : TypeId) (hop : o.op = Op.call { callee := Callee.builtin Builtin.append, args := #[s, x], argTypes := #[t, t] })
    (base : Nat) (e : TypeId) (i : TypeInfo) (size : Nat) (h1 : P.underlying t = some (.slice e)) (h2 : P.info? e = some i) (h4 : i.size = size)
    (g k cap : Nat) (xs : List Value) (hs : a.eval s = .slice (some ⟨g, 0, none⟩) k cap) (hown : w.ownsRow base e size (.slice (some ⟨g, 0, none⟩) k cap) k xs) (ad : Addr) (m c : Nat) (news : List Value) (hx : a.eval x = .slice (some ad) m c) (hn : news.length = m * size)
    (hc : ∀ j u, news[j]? = some u → w.cell? (ad.add j) = some u) (h1c : ∀ u ∈ news, u.oneCell' = true) (b1 : k + m ≤ cap)
    (hK : ∀ w', w'.ownsRow base e size (.slice (some ⟨g, 0, none⟩) (k + m) cap) (k + m) (xs ++ news) → w.grownBy w' (some g) → K (a.put o.dst (.slice (some ⟨g, 0, none⟩) (k + m) cap)) w') :
    if Region.wanted o (yielded ops a.tmps) = true then Oper.wpIn F n P o a w K Q else E := by
  have hw : Region.wanted o (yielded ops a.tmps) = true := by simp [Region.wanted, hg]
  rw [if_pos hw]
  obtain ⟨w', hrun, r1, r2⟩ := run_append_fits (P := P) (w := w) base t o.type e i size h1 h2 h4 g k cap xs hown ad m c news hn hc h1c b1
  unfold Oper.wpIn
  refine ⟨?_, ?_⟩
  · simp [Oper.about, hop, resolve, Target.leads, Sem.run_pure]
  · rw [Oper.semAt_plain F _ _ (by rw [hop]; intro c hc'; cases hc')]
    simp [execOp, hop, resolve, invoke, builtin, hs, hx, hrun, Result.andThen]
    exact hK _ r1 r2
def massP (d : Int) (pre : List Pl) : List Int := pre.map (fun x => massR d x.1.2)
theorem massP_len (d : Int) (pre : List Pl) : (massP d pre).length = pre.length := by simp [massP]
theorem massP_snoc (d : Int) (pre : List Pl) (x : Pl) : i64s (massP d (pre ++ [x])) = i64s (massP d pre) ++ [.int .i64 (massR d x.1.2)] := by simp [massP, i64s]
theorem massP_upto (d : Int) (rs : List Rg) (u : Nat → Pl) (hu : ∀ j, j < rs.length → (u j).1 = (heights (rs.take j), rs.getD j zR)) : massP d (upto u rs.length) = massL rs d := by
  refine List.ext_getElem (by simp [massP, massL, upto]) fun j h1 h2 => ?_
  have hj : j < rs.length := by simpa [massL] using h2
  simp [massP, massL, upto, hu j hj, List.getD, hj]
theorem mas_step {W w5 w7 : World} {Bl g : Nat} {y : Int} {v : Value} (hc : W.cell? ⟨Bl, 0, none⟩ = some v) (hfz : W.frozen? ⟨Bl, 0, none⟩ = false) (hne : Bl ≠ g) (hl : Bl < W.heap.size) (hb5 : Below W.drew.heap.size W.drew w5) (hg7 : (w5.alloc (.cells #[.int .i64 y] 2)).grownBy w7 (some g)) :
    w7.cell? ⟨Bl, 0, none⟩ = some v ∧ w7.frozen? ⟨Bl, 0, none⟩ = false := by
  have h6 : Below W.heap.size W (w5.alloc (.cells #[.int .i64 y] 2)) := (below_of (below_drw W) hb5 (Nat.le_refl _)).alloc (below_of (below_drw W) hb5 (Nat.le_refl _)).size _
  have hl6 : Bl < (w5.alloc (.cells #[.int .i64 y] 2)).heap.size := Nat.lt_of_lt_of_le hl h6.size
  have e := hg7.block Bl hl6 (by simpa using hne)
  exact ⟨((World.cell?_of_block e).trans (below_cell h6 _ _ hl)).trans hc, ((World.frozen?_of_block e).trans (below_frozen h6 _ _ hl)).trans hfz⟩
theorem mas_end {w W w5 w7 : World} {Bd Bl g n B : Nat} {d : Int} {pre : List Pl} {x : Pl} (hd : W.cell? ⟨Bd, 0, none⟩ = some (.int .i64 d)) (hc : W.cell? ⟨Bl, 0, none⟩ = some (.slice (some ⟨g, 0, none⟩) pre.length n)) (hfz : W.frozen? ⟨Bl, 0, none⟩ = false) (hB : Below w.heap.size w W)
    (hdl : Bd < W.heap.size) (hll : Bl < W.heap.size) (hgB : g < B) (hge : w.heap.size ≤ g) (hle : w.heap.size ≤ Bl) (hne : Bl ≠ g) (hdg : Bd ≠ g) (hdb : Bd ≠ Bl) (hb5 : Below W.drew.heap.size W.drew w5)
    (hown7 : w7.ownsRow g 2 1 (.slice (some ⟨g, 0, none⟩) (pre.length + 1) n) (pre.length + 1) (i64s (massP d pre) ++ [.int .i64 (massR d x.1.2)])) (hg7 : (w5.alloc (.cells #[.int .i64 (massR d x.1.2)] 2)).grownBy w7 (some g)) :
    KeepsFrom B W (w7.setCell ⟨Bl, 0, none⟩ (.slice (some ⟨g, 0, none⟩) (pre.length + 1) n)) ∧ KeepCells (fun k => k = Bl ∨ k = g) W (w7.setCell ⟨Bl, 0, none⟩ (.slice (some ⟨g, 0, none⟩) (pre.length + 1) n)) ∧
    (((w7.setCell ⟨Bl, 0, none⟩ (.slice (some ⟨g, 0, none⟩) (pre.length + 1) n)).cell? ⟨Bd, 0, none⟩ = some (.int .i64 d) ∧ (w7.setCell ⟨Bl, 0, none⟩ (.slice (some ⟨g, 0, none⟩) (pre.length + 1) n)).cell? ⟨Bl, 0, none⟩ = some (.slice (some ⟨g, 0, none⟩) (pre ++ [x]).length n) ∧ (w7.setCell ⟨Bl, 0, none⟩ (.slice (some ⟨g, 0, none⟩) (pre.length + 1) n)).frozen? ⟨Bl, 0, none⟩ = false ∧ (w7.setCell ⟨Bl, 0, none⟩ (.slice (some ⟨g, 0, none⟩) (pre.length + 1) n)).ownsRow g 2 1 (.slice (some ⟨g, 0, none⟩) (pre ++ [x]).length n) (pre ++ [x]).length (i64s (massP d (pre ++ [x])))) ∧
    Below w.heap.size w (w7.setCell ⟨Bl, 0, none⟩ (.slice (some ⟨g, 0, none⟩) (pre.length + 1) n))) := by
  have h5 := below_of (below_drw W) hb5 (Nat.le_refl _)
  have h6 : Below W.heap.size W (w5.alloc (.cells #[.int .i64 (massR d x.1.2)] 2)) := h5.alloc h5.size _
  have hd6 : Bd < (w5.alloc (.cells #[.int .i64 (massR d x.1.2)] 2)).heap.size := Nat.lt_of_lt_of_le hdl h6.size
  have hd7 := ((World.cell?_of_block (hg7.block Bd hd6 (by simpa using hdg))).trans (below_cell h6 _ _ hdl)).trans hd
  obtain ⟨hc7, hf7⟩ := mas_step hc hfz hne hll hb5 hg7
  rw [show (pre ++ [x]).length = pre.length + 1 by simp, massP_snoc]
  refine ⟨((keeps_below h6).from B).trans ((KeepsFrom.of_grownBy hg7 (fun j e => by cases e; exact hgB)).trans ((KeepsOthers.setCell _ _ _).from B)), kc_trans (kc_below h6) (kc_trans (kc_grown hg7 (fun r e => by cases e; exact .inr rfl)) (kc_set _ _ _ _ (.inl rfl))), ⟨?_, ?_, ?_, ?_⟩, ?_⟩
  · exact (World.cell?_of_block (Below.heap_setCell _ _ _ _ (show Bd ≠ Bl from hdb))).trans hd7
  · exact World.cell?_setCell_same' _ _ _ (by rw [hc7]; rfl)
  · rw [World.frozen?_setCell]; exact hf7
  · exact hown7.kept (gb_set _ _ (gb_refl w7 (some Bl))) (.inr (by simp [Value.ownBlock]; omega))
  · exact ((below_of hB h6 hB.size).grown hg7 (below_of hB h6 hB.size).size (fun k e => by cases e; exact hge)).setCell (p := ⟨Bl, 0, none⟩) hle _
set_option maxRecDepth 100000 in
set_option maxHeartbeats 4000000 in
theorem implRM_ok (s : ByteArray) (v : Value) (rs : List Rg) (d : Int) (w : World) (h : RingsAt w v rs) (hs : s.size ≤ maxLen) (hp : profB s rs = true) (hd : inB d 1000 20000 = true) :
    Calls Try.prog 49 #[.agg #[.string s, v], .int .i64 d] w (IntU (massL rs d) 0 w) := by
  obtain ⟨i0, hi, hz0, hz1, hz2⟩ := info_parts infoI64
  have HI := Lib.hid h
  obtain ⟨a, c, rfl⟩ := rings_form h
  clear h
  obtain ⟨u, hu⟩ := pl_ex s rs hp
  have HA := Lib.hid (askD_0 hp hd)
  have hRB : ∀ i, i < rs.length → ringB (rs.getD i zR) = true := fun i hi => prof_ring hp i hi
  have HL := Lib.hid (massP_upto d rs u hu)
  obtain ⟨-, ⟨n1, n2⟩, -, -⟩ := prof_iff.1 hp
  obtain ⟨d0, d1⟩ := inB_iff.1 hd
  have HW := Lib.hid (fun W h => weighing_any s (.slice a rs.length c) rs d W h hs)
  generalize hn : rs.length = n at *
  have HN := Lib.hid hn
  have HUU := Lib.hid hu
  obtain ⟨b, off, rfl, hbl, hr⟩ := rings_lie HN.out n1 HI.out
  have HR := Lib.hid hr
  clear hn hu hp hd hr hRB
  have hbA := (below_al w (.cells #[.string s, .slice (some ⟨b, off, none⟩) n c] 48)).alloc (by simp) (.cells #[.int .i64 d] 2)
  have a0 : ((w.alloc (.cells #[.string s, .slice (some ⟨b, off, none⟩) n c] 48)).alloc (.cells #[.int .i64 d] 2)).cell? ⟨w.heap.size, 0, none⟩ = some (.string s) := by go_simp
  have a1 : ((w.alloc (.cells #[.string s, .slice (some ⟨b, off, none⟩) n c] 48)).alloc (.cells #[.int .i64 d] 2)).cell? ⟨w.heap.size, 1, none⟩ = some (.slice (some ⟨b, off, none⟩) n c) := by go_simp
  have a2 : ((w.alloc (.cells #[.string s, .slice (some ⟨b, off, none⟩) n c] 48)).alloc (.cells #[.int .i64 d] 2)).cell? ⟨w.heap.size + 1, 0, none⟩ = some (.int .i64 d) := by go_simp
  have hsA : ((w.alloc (.cells #[.string s, .slice (some ⟨b, off, none⟩) n c] 48)).alloc (.cells #[.int .i64 d] 2)).heap.size = w.heap.size + 2 := by simp
  refine (callsIn_wide (n := 4)).1 ?_
  refine callsIn_of_wp_marks Try.func49 rfl trivial ?_ rfl
  simp only [Try.ntmps49, List.size_toArray, List.length_cons, List.length_nil, Nat.reduceAdd, Nat.reduceSub, Array.replicate_succ, Array.replicate_zero, List.push_toArray, List.append_toArray, List.nil_append, List.cons_append]
  gi_wp2_with fail
  generalize ((w.alloc (.cells #[.string s, .slice (some ⟨b, off, none⟩) n c] 48)).alloc (.cells #[.int .i64 d] 2)) = wA at *
  refine ⟨trivial, (callsIn_wide.2 (HW.out _ (rings_kept hbA HI.out))).mono ?_⟩
  rintro e w1 ⟨rfl, hb⟩
  rw [HA.out]
  have c0 := (below_cell hb _ _ (by omega)).trans a0
  have c1 := (below_cell hb _ _ (by omega)).trans a1
  have c2 := (below_cell hb _ _ (by omega)).trans a2
  have HB1 := Lib.hid (below_of hbA hb hbA.size)
  have hs1 : w.heap.size + 2 ≤ w1.heap.size := by have := hb.size; omega
  clear hb a0 a1 a2 hbA hsA
  gi_wp2_with (gi_at_make; refine wpListIn_make_own _ rfl _ _ 22 rfl w1.heap.size 2 i0 (.int .i64 0) 1 Try.underlying22 hi hz0 hz1 .i64 .i64 (n : Int) n rfl rfl rfl (by rw [hz2]; omega) (by unfold maxLen; omega) (Nat.le_refl _) ?_; intro w2 hown2 hg2; have e0 := cellAl (.cells #[.slice (some ⟨w1.heap.size, 0, none⟩) 0 n] 22) ((gb_cell hg2 _ _ (by omega) (by simp)).trans c0); have e1 := cellAl (.cells #[.slice (some ⟨w1.heap.size, 0, none⟩) 0 n] 22) ((gb_cell hg2 _ _ (by omega) (by simp)).trans c1))
  have HB2 := Lib.hid (HB1.out.grown hg2 HB1.out.size (fun k e => by cases e))
  have hs2 := (hown2.lt _ rfl).2
  have e2 := cellAl (.cells #[.slice (some ⟨w1.heap.size, 0, none⟩) 0 n] 22) ((gb_cell hg2 _ _ (by omega) (by simp)).trans c2)
  have e3 := cellNew w2 (.slice (some ⟨w1.heap.size, 0, none⟩) 0 n) 22
  have hown3 := hown2.alloc (.cells #[.slice (some ⟨w1.heap.size, 0, none⟩) 0 n] 22)
  have HB3 := Lib.hid (HB2.out.alloc HB2.out.size (.cells #[.slice (some ⟨w1.heap.size, 0, none⟩) 0 n] 22))
  have hs3 : (w2.alloc (.cells #[.slice (some ⟨w1.heap.size, 0, none⟩) 0 n] 22)).heap.size = w2.heap.size + 1 := by simp
  generalize w2.alloc (.cells #[.slice (some ⟨w1.heap.size, 0, none⟩) 0 n] 22) = w3 at *
  clear c0 c1 c2 hown2 hg2
  refine ⟨trivial, (callsIn_wide.2 (fromLip_any s (some ⟨b, off, none⟩) n c _)).mono ?_⟩
  rintro e w4 ⟨rfl, rfl⟩
  obtain ⟨q0, q1⟩ := prof_alloc w3 s (.slice (some ⟨b, off, none⟩) n c) 48
  have q2 := cellAl (.cells #[.string s, .slice (some ⟨b, off, none⟩) n c] 48) e2
  have q3 := cellAl (.cells #[.string s, .slice (some ⟨b, off, none⟩) n c] 48) e3.1
  have q4 := frozenAl (.cells #[.string s, .slice (some ⟨b, off, none⟩) n c] 48) e3.1 e3.2
  have q5 := hown3.alloc (.cells #[.string s, .slice (some ⟨b, off, none⟩) n c] 48)
  have HB4 := Lib.hid (HB3.out.alloc HB3.out.size (.cells #[.string s, .slice (some ⟨b, off, none⟩) n c] 48))
  have hs4 : (w3.alloc (.cells #[.string s, .slice (some ⟨b, off, none⟩) n c] 48)).heap.size = w3.heap.size + 1 := by simp
  generalize w3.alloc (.cells #[.string s, .slice (some ⟨b, off, none⟩) n c] 48) = w4 at *
  have HR4 := Lib.hid (fun i (hi : i < n) => show RingIn w4 b (off + i * 3) (rs.getD i zR) from ⟨(below_cell HB4.out _ _ hbl).trans (HR.out i hi).c0, (below_cell HB4.out _ _ hbl).trans (HR.out i hi).c1, (below_cell HB4.out _ _ hbl).trans (HR.out i hi).c2⟩)
  clear e0 e1 e2 e3 hown3
  rw [hs3] at q0 q1 hs4
  gi_wp2
  refine wpIn_rangeFunc_ownH rfl (by omega) (gf := 150) (lb := #[.pointer (some ⟨w2.heap.size + 1, 0, none⟩)]) rfl trivial (enters_of Try.func150 (by kernel_rfl) rfl)
    (lip_stops Fence.wide 3 trivial rfl (by omega) (w2.heap.size + 1) b off n c (fun k => k = w2.heap.size ∨ k = w1.heap.size) s rs u HUU.out HN.out n2 (by show ¬ (b = w2.heap.size ∨ b = w1.heap.size); omega) w4 (by omega) (by omega) (by intro k hk; omega) q0 q1 HR4.out) (fun h k => kc_trans h k) (fun W l o o' _ hl ho _ => kc_put W l o o' hl ho) (Below.refl _ _) (fun _ => rfl)
    (fun pre W => (W.cell? ⟨w.heap.size + 1, 0, none⟩ = some (.int .i64 d) ∧ W.cell? ⟨w2.heap.size, 0, none⟩ = some (.slice (some ⟨w1.heap.size, 0, none⟩) pre.length n) ∧ W.frozen? ⟨w2.heap.size, 0, none⟩ = false ∧ W.ownsRow w1.heap.size 2 1 (.slice (some ⟨w1.heap.size, 0, none⟩) pre.length n) pre.length (i64s (massP d pre))) ∧ Below w.heap.size w W)
    (fun _ _ _ => False)
    (OwnFrom.and (Own.from (fun s A B row hs hg hr => ⟨cell_kept hs.1 hg hr, cell_kept hs.2.1 hg hr, (frozen_kept hs.2.1 hg hr).trans hs.2.2.1, row_own hs.2.2.2 hg hr⟩) _) (ownFrom_below (Nat.le_refl _) (by omega)))
    (fun _ _ _ _ _ hs _ _ => hs)
    ⟨⟨q2, q3, q4, q5⟩, HB4.out⟩
    (fun x a' W => ∃ Bx, w2.heap.size < Bx ∧ Bx < W.heap.size ∧ (W.cell? ⟨Bx, 0, none⟩ = some (.int .i64 x.1.2.1) ∧ W.cell? ⟨Bx, 1, none⟩ = some (.int .i64 x.1.2.2.1) ∧ W.cell? ⟨Bx, 2, none⟩ = some (.int .i64 x.1.2.2.2) ∧ W.cell? ⟨Bx, 3, none⟩ = some (.int .i64 x.1.1)) ∧ a' = { tmps := #[.agg #[.string s, .slice (some ⟨b, off, none⟩) n c], .int .i64 d, .pointer (some ⟨w.heap.size, 0, none⟩), .pointer (some ⟨w.heap.size + 1, 0, none⟩), .slice none 0 0, .int .i64 0, .int .i64 0, .pointer (some ⟨w2.heap.size, 0, none⟩), .pointer (some ⟨Bx, 0, none⟩), .agg #[.string s, .slice (some ⟨b, off, none⟩) n c], .int .i64 d, .int .i64 0, .int .i64 0, .bool false, undef, .pointer (some ⟨w.heap.size, 1, none⟩), .slice (some ⟨b, off, none⟩) n c, .int .i64 n, .slice (some ⟨w1.heap.size, 0, none⟩) 0 n, .agg #[.string s, .slice (some ⟨b, off, none⟩) n c], .func (.func 150) #[] #[.pointer (some ⟨w2.heap.size + 1, 0, none⟩)], .agg #[.int .i64 x.1.2.1, .int .i64 x.1.2.2.1, .int .i64 x.1.2.2.2, .int .i64 x.1.1], undef, undef, undef, undef, undef, undef, undef, undef], defers := [] })
    (fun x a' => by
      rintro s A B row ⟨Bx, h1, h2, ⟨h3, h4, h5, h6⟩, h7⟩ hg hr
      have hr' : ∀ r, row = some r → ∃ o : Obj, A.heap[r]? = some o ∧ o.isCells = false := fun r e => (hr r e).2
      exact ⟨Bx, h1, Nat.lt_of_lt_of_le h2 hg.size, ⟨cell_kept h3 hg hr', cell_kept h4 hg hr', cell_kept h5 hg hr', cell_kept h6 hg hr'⟩, h7⟩) ?assign ?body ?done ?stop
  case assign =>
    rintro l pre ⟨⟨xb, x0, x1, x2⟩, hx⟩ W K ⟨⟨hd, hc, hfz, hrow⟩, hB⟩ hK
    gi_wp2
    refine hK _ (W.alloc (.cells #[.int .i64 x0, .int .i64 x1, .int .i64 x2, .int .i64 xb] 137)) ((KeepsOthers.alloc _ _).from _) (kc_below (below_al _ _)) ⟨⟨cellAl _ hd, cellAl _ hc, frozenAl _ hc hfz, hrow.alloc _⟩, hB.alloc hB.size _⟩ ⟨W.heap.size, ?_, alloc_lt2 _ _, ⟨by go_simp, by go_simp, by go_simp, by go_simp⟩, rfl⟩
    have := cell_lt5 hc
    exact this
  case body =>
    rintro l pre x a' W hl ⟨r, hr⟩ ⟨⟨hd, hc, hfz, hrow⟩, hB⟩ ⟨Bx, hBx, hBl, ⟨x0, x1, x2, x3⟩, rfl⟩ hlt
    have hmx : Try.prog.follows .mixedOrders = true := by kernel_rfl
    have hcl := cell_lt5 hc
    have hdl := cell_lt5 hd
    have HCL := Lib.hid hcl
    have HROW := Lib.hid hrow
    have HM := Lib.hid (show ∀ W, Calls Try.prog 105 #[.agg #[.int .i64 x.1.2.1, .int .i64 x.1.2.2.1, .int .i64 x.1.2.2.2], .int .i64 d] W fun e w' => e = .returned (.int .i64 (massR d x.1.2)) ∧ Below W.heap.size W w' from fun W => mass_any x.1.2.1 x.1.2.2.1 x.1.2.2.2 d W x.2.2 (by omega) d1)
    have HC7 := Lib.hid (fun w5 w7 hb5 hg7 => mas_step (w5 := w5) (w7 := w7) (y := massR d x.1.2) (g := w1.heap.size) hc hfz (by omega) hcl hb5 hg7)
    have HEND := Lib.hid (fun w5 w7 hb5 hown7 hg7 => mas_end (x := x) (w5 := w5) (w7 := w7) (B := w4.heap.size) hd hc hfz hB hdl hcl (by omega) (by omega) (by omega) (by omega) (by omega) (by omega) hb5 hown7 hg7)
    clear hrow hfz hB hr HN HUU HI HW HR HR4 q0 q1 q2 q3 q4 q5
    gi_wp2
    refine wpIn_region_any hmx ?_
    try (change wpAnyIn _ _ _ _ _ _ _ _ _ (World.drew _))
    refine wpAnyIn_ready (rs := [0, 1, 3]) (by kernel_rfl) (by simp) ?_
    refine AllReadyIn.cons rfl (fun K hK => ?_) ?_
    · go_simp
      refine hK _ _ ?_
      clear hK K
      refine wpAnyIn_ready (rs := [1, 3]) (by kernel_rfl) (by simp) ?_
      refine AllReadyIn.cons rfl (fun K hK => ?_) ?_
      · go_simp
        refine hK _ _ ?_
        clear hK K
        refine wpAnyIn_ready (rs := [2, 3]) (by kernel_rfl) (by simp) ?_
        refine AllReadyIn.cons rfl (fun K hK => ?_) ?_
        · go_simp
          refine hK _ _ ?_
          clear hK K
          refine wpAnyIn_ready (rs := [3]) (by kernel_rfl) (by simp) ?_
          refine AllReadyIn.cons rfl (fun K hK => ?_) ?_
          · go_simp
            refine hK _ _ ?_
            clear hK K
            refine wpAnyIn_ready (rs := [4]) (by kernel_rfl) (by simp) ?_
            refine AllReadyIn.cons rfl (fun K hK => ?_) ?_
            · go_simp
              gi_wp2_with (refine ⟨trivial, ?_⟩; gi_at_call 105; refine (CallsIn.inRound l (callsIn_wide.2 (HM.out _))).mono ?_; rintro e w5 ⟨rfl, hb5⟩; have hc5 := (below_cell hb5 _ 0 (by exact HCL.out)).trans hc; have hc6 := cellAl (.cells #[.int .i64 (massR d x.1.2)] 2) hc5)
              try (refine hK _ _ ?_; clear hK K)
              refine wpAnyIn_ready (rs := [5]) (by kernel_rfl) (by simp) ?_
              refine AllReadyIn.cons rfl (fun K hK => ?_) ?_
              · go_simp
                refine hK _ _ ?_
                clear hK K
                refine wpAnyIn_ready (rs := [6]) (by kernel_rfl) (by simp) ?_
                refine AllReadyIn.cons rfl (fun K hK => ?_) ?_
                · have HE := Lib.hid (fun w7 => HEND.out w5 w7 hb5)
                  have HR6 := Lib.hid ((row_keepM hb5 (row_keepM (below_drw W) HROW.out)).alloc (.cells #[.int .i64 (massR d x.1.2)] 2))
                  have H67 := Lib.hid (fun w7 => HC7.out w5 w7 hb5)
                  refine stepIn_append_fits _ rfl _ _ 22 rfl w1.heap.size 2 i0 1 Try.underlying22 hi hz1 w1.heap.size pre.length n (i64s (massP d pre)) rfl HR6.out ⟨w5.heap.size, 0, none⟩ 1 1 [.int .i64 (massR d x.1.2)] rfl rfl news1 (by intro u hu; simp at hu; subst hu; rfl) (by omega) ?_
                  intro w7 hown7 hg7
                  obtain ⟨hc7, hf7⟩ := H67.out w7 hg7
                  have HE7 := Lib.hid (HE.out w7 hown7 hg7)
                  clear hown7 hg7 HE H67
                  refine hK _ _ ?_
                  clear hK K
                  simp only [Act.put, List.setIfInBounds_toArray]
                  refine wpAnyIn_ready (rs := [7]) (by kernel_rfl) (by simp) ?_
                  refine AllReadyIn.cons rfl (fun K hK => ?_) ?_
                  · go_simp
                    refine hK _ _ ?_
                    clear hK K
                    refine wpAnyIn_done (by kernel_rfl) ?_ _
                    gi_wp2
                    exact HE7.out
                  exact AllReadyIn.nil
                exact AllReadyIn.nil
              exact AllReadyIn.nil
            exact AllReadyIn.nil
          exact AllReadyIn.nil
        refine AllReadyIn.cons rfl (fun K hK => ?_) ?_
        · go_simp
          refine hK _ _ ?_
          clear hK K
          refine wpAnyIn_ready (rs := [2]) (by kernel_rfl) (by simp) ?_
          refine AllReadyIn.cons rfl (fun K hK => ?_) ?_
          · go_simp
            refine hK _ _ ?_
            clear hK K
            refine wpAnyIn_ready (rs := [4]) (by kernel_rfl) (by simp) ?_
            refine AllReadyIn.cons rfl (fun K hK => ?_) ?_
            · go_simp
              gi_wp2_with (refine ⟨trivial, ?_⟩; gi_at_call 105; refine (CallsIn.inRound l (callsIn_wide.2 (HM.out _))).mono ?_; rintro e w5 ⟨rfl, hb5⟩; have hc5 := (below_cell hb5 _ 0 (by exact HCL.out)).trans hc; have hc6 := cellAl (.cells #[.int .i64 (massR d x.1.2)] 2) hc5)
              try (refine hK _ _ ?_; clear hK K)
              refine wpAnyIn_ready (rs := [5]) (by kernel_rfl) (by simp) ?_
              refine AllReadyIn.cons rfl (fun K hK => ?_) ?_
              · go_simp
                refine hK _ _ ?_
                clear hK K
                refine wpAnyIn_ready (rs := [6]) (by kernel_rfl) (by simp) ?_
                refine AllReadyIn.cons rfl (fun K hK => ?_) ?_
                · have HE := Lib.hid (fun w7 => HEND.out w5 w7 hb5)
                  have HR6 := Lib.hid ((row_keepM hb5 (row_keepM (below_drw W) HROW.out)).alloc (.cells #[.int .i64 (massR d x.1.2)] 2))
                  have H67 := Lib.hid (fun w7 => HC7.out w5 w7 hb5)
                  refine stepIn_append_fits _ rfl _ _ 22 rfl w1.heap.size 2 i0 1 Try.underlying22 hi hz1 w1.heap.size pre.length n (i64s (massP d pre)) rfl HR6.out ⟨w5.heap.size, 0, none⟩ 1 1 [.int .i64 (massR d x.1.2)] rfl rfl news1 (by intro u hu; simp at hu; subst hu; rfl) (by omega) ?_
                  intro w7 hown7 hg7
                  obtain ⟨hc7, hf7⟩ := H67.out w7 hg7
                  have HE7 := Lib.hid (HE.out w7 hown7 hg7)
                  clear hown7 hg7 HE H67
                  refine hK _ _ ?_
                  clear hK K
                  simp only [Act.put, List.setIfInBounds_toArray]
                  refine wpAnyIn_ready (rs := [7]) (by kernel_rfl) (by simp) ?_
                  refine AllReadyIn.cons rfl (fun K hK => ?_) ?_
                  · go_simp
                    refine hK _ _ ?_
                    clear hK K
                    refine wpAnyIn_done (by kernel_rfl) ?_ _
                    gi_wp2
                    exact HE7.out
                  exact AllReadyIn.nil
                exact AllReadyIn.nil
              exact AllReadyIn.nil
            exact AllReadyIn.nil
          exact AllReadyIn.nil
        exact AllReadyIn.nil
      refine AllReadyIn.cons rfl (fun K hK => ?_) ?_
      · go_simp
        refine hK _ _ ?_
        clear hK K
        refine wpAnyIn_ready (rs := [1]) (by kernel_rfl) (by simp) ?_
        refine AllReadyIn.cons rfl (fun K hK => ?_) ?_
        · go_simp
          refine hK _ _ ?_
          clear hK K
          refine wpAnyIn_ready (rs := [2]) (by kernel_rfl) (by simp) ?_
          refine AllReadyIn.cons rfl (fun K hK => ?_) ?_
          · go_simp
            refine hK _ _ ?_
            clear hK K
            refine wpAnyIn_ready (rs := [4]) (by kernel_rfl) (by simp) ?_
            refine AllReadyIn.cons rfl (fun K hK => ?_) ?_
            · go_simp
              gi_wp2_with (refine ⟨trivial, ?_⟩; gi_at_call 105; refine (CallsIn.inRound l (callsIn_wide.2 (HM.out _))).mono ?_; rintro e w5 ⟨rfl, hb5⟩; have hc5 := (below_cell hb5 _ 0 (by exact HCL.out)).trans hc; have hc6 := cellAl (.cells #[.int .i64 (massR d x.1.2)] 2) hc5)
              try (refine hK _ _ ?_; clear hK K)
              refine wpAnyIn_ready (rs := [5]) (by kernel_rfl) (by simp) ?_
              refine AllReadyIn.cons rfl (fun K hK => ?_) ?_
              · go_simp
                refine hK _ _ ?_
                clear hK K
                refine wpAnyIn_ready (rs := [6]) (by kernel_rfl) (by simp) ?_
                refine AllReadyIn.cons rfl (fun K hK => ?_) ?_
                · have HE := Lib.hid (fun w7 => HEND.out w5 w7 hb5)
                  have HR6 := Lib.hid ((row_keepM hb5 (row_keepM (below_drw W) HROW.out)).alloc (.cells #[.int .i64 (massR d x.1.2)] 2))
                  have H67 := Lib.hid (fun w7 => HC7.out w5 w7 hb5)
                  refine stepIn_append_fits _ rfl _ _ 22 rfl w1.heap.size 2 i0 1 Try.underlying22 hi hz1 w1.heap.size pre.length n (i64s (massP d pre)) rfl HR6.out ⟨w5.heap.size, 0, none⟩ 1 1 [.int .i64 (massR d x.1.2)] rfl rfl news1 (by intro u hu; simp at hu; subst hu; rfl) (by omega) ?_
                  intro w7 hown7 hg7
                  obtain ⟨hc7, hf7⟩ := H67.out w7 hg7
                  have HE7 := Lib.hid (HE.out w7 hown7 hg7)
                  clear hown7 hg7 HE H67
                  refine hK _ _ ?_
                  clear hK K
                  simp only [Act.put, List.setIfInBounds_toArray]
                  refine wpAnyIn_ready (rs := [7]) (by kernel_rfl) (by simp) ?_
                  refine AllReadyIn.cons rfl (fun K hK => ?_) ?_
                  · go_simp
                    refine hK _ _ ?_
                    clear hK K
                    refine wpAnyIn_done (by kernel_rfl) ?_ _
                    gi_wp2
                    exact HE7.out
                  exact AllReadyIn.nil
                exact AllReadyIn.nil
              exact AllReadyIn.nil
            exact AllReadyIn.nil
          exact AllReadyIn.nil
        exact AllReadyIn.nil
      exact AllReadyIn.nil
    refine AllReadyIn.cons rfl (fun K hK => ?_) ?_
    · go_simp
      refine hK _ _ ?_
      clear hK K
      refine wpAnyIn_ready (rs := [0, 2, 3]) (by kernel_rfl) (by simp) ?_
      refine AllReadyIn.cons rfl (fun K hK => ?_) ?_
      · go_simp
        refine hK _ _ ?_
        clear hK K
        refine wpAnyIn_ready (rs := [2, 3]) (by kernel_rfl) (by simp) ?_
        refine AllReadyIn.cons rfl (fun K hK => ?_) ?_
        · go_simp
          refine hK _ _ ?_
          clear hK K
          refine wpAnyIn_ready (rs := [3]) (by kernel_rfl) (by simp) ?_
          refine AllReadyIn.cons rfl (fun K hK => ?_) ?_
          · go_simp
            refine hK _ _ ?_
            clear hK K
            refine wpAnyIn_ready (rs := [4]) (by kernel_rfl) (by simp) ?_
            refine AllReadyIn.cons rfl (fun K hK => ?_) ?_
            · go_simp
              gi_wp2_with (refine ⟨trivial, ?_⟩; gi_at_call 105; refine (CallsIn.inRound l (callsIn_wide.2 (HM.out _))).mono ?_; rintro e w5 ⟨rfl, hb5⟩; have hc5 := (below_cell hb5 _ 0 (by exact HCL.out)).trans hc; have hc6 := cellAl (.cells #[.int .i64 (massR d x.1.2)] 2) hc5)
              try (refine hK _ _ ?_; clear hK K)
              refine wpAnyIn_ready (rs := [5]) (by kernel_rfl) (by simp) ?_
              refine AllReadyIn.cons rfl (fun K hK => ?_) ?_
              · go_simp
                refine hK _ _ ?_
                clear hK K
                refine wpAnyIn_ready (rs := [6]) (by kernel_rfl) (by simp) ?_
                refine AllReadyIn.cons rfl (fun K hK => ?_) ?_
                · have HE := Lib.hid (fun w7 => HEND.out w5 w7 hb5)
                  have HR6 := Lib.hid ((row_keepM hb5 (row_keepM (below_drw W) HROW.out)).alloc (.cells #[.int .i64 (massR d x.1.2)] 2))
                  have H67 := Lib.hid (fun w7 => HC7.out w5 w7 hb5)
                  refine stepIn_append_fits _ rfl _ _ 22 rfl w1.heap.size 2 i0 1 Try.underlying22 hi hz1 w1.heap.size pre.length n (i64s (massP d pre)) rfl HR6.out ⟨w5.heap.size, 0, none⟩ 1 1 [.int .i64 (massR d x.1.2)] rfl rfl news1 (by intro u hu; simp at hu; subst hu; rfl) (by omega) ?_
                  intro w7 hown7 hg7
                  obtain ⟨hc7, hf7⟩ := H67.out w7 hg7
                  have HE7 := Lib.hid (HE.out w7 hown7 hg7)
                  clear hown7 hg7 HE H67
                  refine hK _ _ ?_
                  clear hK K
                  simp only [Act.put, List.setIfInBounds_toArray]
                  refine wpAnyIn_ready (rs := [7]) (by kernel_rfl) (by simp) ?_
                  refine AllReadyIn.cons rfl (fun K hK => ?_) ?_
                  · go_simp
                    refine hK _ _ ?_
                    clear hK K
                    refine wpAnyIn_done (by kernel_rfl) ?_ _
                    gi_wp2
                    exact HE7.out
                  exact AllReadyIn.nil
                exact AllReadyIn.nil
              exact AllReadyIn.nil
            exact AllReadyIn.nil
          exact AllReadyIn.nil
        refine AllReadyIn.cons rfl (fun K hK => ?_) ?_
        · go_simp
          refine hK _ _ ?_
          clear hK K
          refine wpAnyIn_ready (rs := [2]) (by kernel_rfl) (by simp) ?_
          refine AllReadyIn.cons rfl (fun K hK => ?_) ?_
          · go_simp
            refine hK _ _ ?_
            clear hK K
            refine wpAnyIn_ready (rs := [4]) (by kernel_rfl) (by simp) ?_
            refine AllReadyIn.cons rfl (fun K hK => ?_) ?_
            · go_simp
              gi_wp2_with (refine ⟨trivial, ?_⟩; gi_at_call 105; refine (CallsIn.inRound l (callsIn_wide.2 (HM.out _))).mono ?_; rintro e w5 ⟨rfl, hb5⟩; have hc5 := (below_cell hb5 _ 0 (by exact HCL.out)).trans hc; have hc6 := cellAl (.cells #[.int .i64 (massR d x.1.2)] 2) hc5)
              try (refine hK _ _ ?_; clear hK K)
              refine wpAnyIn_ready (rs := [5]) (by kernel_rfl) (by simp) ?_
              refine AllReadyIn.cons rfl (fun K hK => ?_) ?_
              · go_simp
                refine hK _ _ ?_
                clear hK K
                refine wpAnyIn_ready (rs := [6]) (by kernel_rfl) (by simp) ?_
                refine AllReadyIn.cons rfl (fun K hK => ?_) ?_
                · have HE := Lib.hid (fun w7 => HEND.out w5 w7 hb5)
                  have HR6 := Lib.hid ((row_keepM hb5 (row_keepM (below_drw W) HROW.out)).alloc (.cells #[.int .i64 (massR d x.1.2)] 2))
                  have H67 := Lib.hid (fun w7 => HC7.out w5 w7 hb5)
                  refine stepIn_append_fits _ rfl _ _ 22 rfl w1.heap.size 2 i0 1 Try.underlying22 hi hz1 w1.heap.size pre.length n (i64s (massP d pre)) rfl HR6.out ⟨w5.heap.size, 0, none⟩ 1 1 [.int .i64 (massR d x.1.2)] rfl rfl news1 (by intro u hu; simp at hu; subst hu; rfl) (by omega) ?_
                  intro w7 hown7 hg7
                  obtain ⟨hc7, hf7⟩ := H67.out w7 hg7
                  have HE7 := Lib.hid (HE.out w7 hown7 hg7)
                  clear hown7 hg7 HE H67
                  refine hK _ _ ?_
                  clear hK K
                  simp only [Act.put, List.setIfInBounds_toArray]
                  refine wpAnyIn_ready (rs := [7]) (by kernel_rfl) (by simp) ?_
                  refine AllReadyIn.cons rfl (fun K hK => ?_) ?_
                  · go_simp
                    refine hK _ _ ?_
                    clear hK K
                    refine wpAnyIn_done (by kernel_rfl) ?_ _
                    gi_wp2
                    exact HE7.out
                  exact AllReadyIn.nil
                exact AllReadyIn.nil
              exact AllReadyIn.nil
            exact AllReadyIn.nil
          exact AllReadyIn.nil
        exact AllReadyIn.nil
      refine AllReadyIn.cons rfl (fun K hK => ?_) ?_
      · go_simp
        refine hK _ _ ?_
        clear hK K
        refine wpAnyIn_ready (rs := [0, 3]) (by kernel_rfl) (by simp) ?_
        refine AllReadyIn.cons rfl (fun K hK => ?_) ?_
        · go_simp
          refine hK _ _ ?_
          clear hK K
          refine wpAnyIn_ready (rs := [3]) (by kernel_rfl) (by simp) ?_
          refine AllReadyIn.cons rfl (fun K hK => ?_) ?_
          · go_simp
            refine hK _ _ ?_
            clear hK K
            refine wpAnyIn_ready (rs := [4]) (by kernel_rfl) (by simp) ?_
            refine AllReadyIn.cons rfl (fun K hK => ?_) ?_
            · go_simp
              gi_wp2_with (refine ⟨trivial, ?_⟩; gi_at_call 105; refine (CallsIn.inRound l (callsIn_wide.2 (HM.out _))).mono ?_; rintro e w5 ⟨rfl, hb5⟩; have hc5 := (below_cell hb5 _ 0 (by exact HCL.out)).trans hc; have hc6 := cellAl (.cells #[.int .i64 (massR d x.1.2)] 2) hc5)
              try (refine hK _ _ ?_; clear hK K)
              refine wpAnyIn_ready (rs := [5]) (by kernel_rfl) (by simp) ?_
              refine AllReadyIn.cons rfl (fun K hK => ?_) ?_
              · go_simp
                refine hK _ _ ?_
                clear hK K
                refine wpAnyIn_ready (rs := [6]) (by kernel_rfl) (by simp) ?_
                refine AllReadyIn.cons rfl (fun K hK => ?_) ?_
                · have HE := Lib.hid (fun w7 => HEND.out w5 w7 hb5)
                  have HR6 := Lib.hid ((row_keepM hb5 (row_keepM (below_drw W) HROW.out)).alloc (.cells #[.int .i64 (massR d x.1.2)] 2))
                  have H67 := Lib.hid (fun w7 => HC7.out w5 w7 hb5)
                  refine stepIn_append_fits _ rfl _ _ 22 rfl w1.heap.size 2 i0 1 Try.underlying22 hi hz1 w1.heap.size pre.length n (i64s (massP d pre)) rfl HR6.out ⟨w5.heap.size, 0, none⟩ 1 1 [.int .i64 (massR d x.1.2)] rfl rfl news1 (by intro u hu; simp at hu; subst hu; rfl) (by omega) ?_
                  intro w7 hown7 hg7
                  obtain ⟨hc7, hf7⟩ := H67.out w7 hg7
                  have HE7 := Lib.hid (HE.out w7 hown7 hg7)
                  clear hown7 hg7 HE H67
                  refine hK _ _ ?_
                  clear hK K
                  simp only [Act.put, List.setIfInBounds_toArray]
                  refine wpAnyIn_ready (rs := [7]) (by kernel_rfl) (by simp) ?_
                  refine AllReadyIn.cons rfl (fun K hK => ?_) ?_
                  · go_simp
                    refine hK _ _ ?_
                    clear hK K
                    refine wpAnyIn_done (by kernel_rfl) ?_ _
                    gi_wp2
                    exact HE7.out
                  exact AllReadyIn.nil
                exact AllReadyIn.nil
              exact AllReadyIn.nil
            exact AllReadyIn.nil
          exact AllReadyIn.nil
        refine AllReadyIn.cons rfl (fun K hK => ?_) ?_
        · go_simp
          refine hK _ _ ?_
          clear hK K
          refine wpAnyIn_ready (rs := [0, 4]) (by kernel_rfl) (by simp) ?_
          refine AllReadyIn.cons rfl (fun K hK => ?_) ?_
          · go_simp
            refine hK _ _ ?_
            clear hK K
            refine wpAnyIn_ready (rs := [4]) (by kernel_rfl) (by simp) ?_
            refine AllReadyIn.cons rfl (fun K hK => ?_) ?_
            · go_simp
              gi_wp2_with (refine ⟨trivial, ?_⟩; gi_at_call 105; refine (CallsIn.inRound l (callsIn_wide.2 (HM.out _))).mono ?_; rintro e w5 ⟨rfl, hb5⟩; have hc5 := (below_cell hb5 _ 0 (by exact HCL.out)).trans hc; have hc6 := cellAl (.cells #[.int .i64 (massR d x.1.2)] 2) hc5)
              try (refine hK _ _ ?_; clear hK K)
              refine wpAnyIn_ready (rs := [5]) (by kernel_rfl) (by simp) ?_
              refine AllReadyIn.cons rfl (fun K hK => ?_) ?_
              · go_simp
                refine hK _ _ ?_
                clear hK K
                refine wpAnyIn_ready (rs := [6]) (by kernel_rfl) (by simp) ?_
                refine AllReadyIn.cons rfl (fun K hK => ?_) ?_
                · have HE := Lib.hid (fun w7 => HEND.out w5 w7 hb5)
                  have HR6 := Lib.hid ((row_keepM hb5 (row_keepM (below_drw W) HROW.out)).alloc (.cells #[.int .i64 (massR d x.1.2)] 2))
                  have H67 := Lib.hid (fun w7 => HC7.out w5 w7 hb5)
                  refine stepIn_append_fits _ rfl _ _ 22 rfl w1.heap.size 2 i0 1 Try.underlying22 hi hz1 w1.heap.size pre.length n (i64s (massP d pre)) rfl HR6.out ⟨w5.heap.size, 0, none⟩ 1 1 [.int .i64 (massR d x.1.2)] rfl rfl news1 (by intro u hu; simp at hu; subst hu; rfl) (by omega) ?_
                  intro w7 hown7 hg7
                  obtain ⟨hc7, hf7⟩ := H67.out w7 hg7
                  have HE7 := Lib.hid (HE.out w7 hown7 hg7)
                  clear hown7 hg7 HE H67
                  refine hK _ _ ?_
                  clear hK K
                  simp only [Act.put, List.setIfInBounds_toArray]
                  refine wpAnyIn_ready (rs := [7]) (by kernel_rfl) (by simp) ?_
                  refine AllReadyIn.cons rfl (fun K hK => ?_) ?_
                  · go_simp
                    refine hK _ _ ?_
                    clear hK K
                    refine wpAnyIn_done (by kernel_rfl) ?_ _
                    gi_wp2
                    exact HE7.out
                  exact AllReadyIn.nil
                exact AllReadyIn.nil
              exact AllReadyIn.nil
            exact AllReadyIn.nil
          refine AllReadyIn.cons rfl (fun K hK => ?_) ?_
          · go_simp
            gi_wp2_with (refine ⟨trivial, ?_⟩; gi_at_call 105; refine (CallsIn.inRound l (callsIn_wide.2 (HM.out _))).mono ?_; rintro e w5 ⟨rfl, hb5⟩; have hc5 := (below_cell hb5 _ 0 (by exact HCL.out)).trans hc; have hc6 := cellAl (.cells #[.int .i64 (massR d x.1.2)] 2) hc5)
            try (refine hK _ _ ?_; clear hK K)
            refine wpAnyIn_ready (rs := [0, 5]) (by kernel_rfl) (by simp) ?_
            refine AllReadyIn.cons rfl (fun K hK => ?_) ?_
            · go_simp
              refine hK _ _ ?_
              clear hK K
              refine wpAnyIn_ready (rs := [5]) (by kernel_rfl) (by simp) ?_
              refine AllReadyIn.cons rfl (fun K hK => ?_) ?_
              · go_simp
                refine hK _ _ ?_
                clear hK K
                refine wpAnyIn_ready (rs := [6]) (by kernel_rfl) (by simp) ?_
                refine AllReadyIn.cons rfl (fun K hK => ?_) ?_
                · have HE := Lib.hid (fun w7 => HEND.out w5 w7 hb5)
                  have HR6 := Lib.hid ((row_keepM hb5 (row_keepM (below_drw W) HROW.out)).alloc (.cells #[.int .i64 (massR d x.1.2)] 2))
                  have H67 := Lib.hid (fun w7 => HC7.out w5 w7 hb5)
                  refine stepIn_append_fits _ rfl _ _ 22 rfl w1.heap.size 2 i0 1 Try.underlying22 hi hz1 w1.heap.size pre.length n (i64s (massP d pre)) rfl HR6.out ⟨w5.heap.size, 0, none⟩ 1 1 [.int .i64 (massR d x.1.2)] rfl rfl news1 (by intro u hu; simp at hu; subst hu; rfl) (by omega) ?_
                  intro w7 hown7 hg7
                  obtain ⟨hc7, hf7⟩ := H67.out w7 hg7
                  have HE7 := Lib.hid (HE.out w7 hown7 hg7)
                  clear hown7 hg7 HE H67
                  refine hK _ _ ?_
                  clear hK K
                  simp only [Act.put, List.setIfInBounds_toArray]
                  refine wpAnyIn_ready (rs := [7]) (by kernel_rfl) (by simp) ?_
                  refine AllReadyIn.cons rfl (fun K hK => ?_) ?_
                  · go_simp
                    refine hK _ _ ?_
                    clear hK K
                    refine wpAnyIn_done (by kernel_rfl) ?_ _
                    gi_wp2
                    exact HE7.out
                  exact AllReadyIn.nil
                exact AllReadyIn.nil
              exact AllReadyIn.nil
            refine AllReadyIn.cons rfl (fun K hK => ?_) ?_
            · go_simp
              refine hK _ _ ?_
              clear hK K
              refine wpAnyIn_ready (rs := [0]) (by kernel_rfl) (by simp) ?_
              refine AllReadyIn.cons rfl (fun K hK => ?_) ?_
              · go_simp
                refine hK _ _ ?_
                clear hK K
                refine wpAnyIn_ready (rs := [6]) (by kernel_rfl) (by simp) ?_
                refine AllReadyIn.cons rfl (fun K hK => ?_) ?_
                · have HE := Lib.hid (fun w7 => HEND.out w5 w7 hb5)
                  have HR6 := Lib.hid ((row_keepM hb5 (row_keepM (below_drw W) HROW.out)).alloc (.cells #[.int .i64 (massR d x.1.2)] 2))
                  have H67 := Lib.hid (fun w7 => HC7.out w5 w7 hb5)
                  refine stepIn_append_fits _ rfl _ _ 22 rfl w1.heap.size 2 i0 1 Try.underlying22 hi hz1 w1.heap.size pre.length n (i64s (massP d pre)) rfl HR6.out ⟨w5.heap.size, 0, none⟩ 1 1 [.int .i64 (massR d x.1.2)] rfl rfl news1 (by intro u hu; simp at hu; subst hu; rfl) (by omega) ?_
                  intro w7 hown7 hg7
                  obtain ⟨hc7, hf7⟩ := H67.out w7 hg7
                  have HE7 := Lib.hid (HE.out w7 hown7 hg7)
                  clear hown7 hg7 HE H67
                  refine hK _ _ ?_
                  clear hK K
                  simp only [Act.put, List.setIfInBounds_toArray]
                  refine wpAnyIn_ready (rs := [7]) (by kernel_rfl) (by simp) ?_
                  refine AllReadyIn.cons rfl (fun K hK => ?_) ?_
                  · go_simp
                    refine hK _ _ ?_
                    clear hK K
                    refine wpAnyIn_done (by kernel_rfl) ?_ _
                    gi_wp2
                    exact HE7.out
                  exact AllReadyIn.nil
                exact AllReadyIn.nil
              exact AllReadyIn.nil
            exact AllReadyIn.nil
          exact AllReadyIn.nil
        exact AllReadyIn.nil
      refine AllReadyIn.cons rfl (fun K hK => ?_) ?_
      · go_simp
        refine hK _ _ ?_
        clear hK K
        refine wpAnyIn_ready (rs := [0, 2]) (by kernel_rfl) (by simp) ?_
        refine AllReadyIn.cons rfl (fun K hK => ?_) ?_
        · go_simp
          refine hK _ _ ?_
          clear hK K
          refine wpAnyIn_ready (rs := [2]) (by kernel_rfl) (by simp) ?_
          refine AllReadyIn.cons rfl (fun K hK => ?_) ?_
          · go_simp
            refine hK _ _ ?_
            clear hK K
            refine wpAnyIn_ready (rs := [4]) (by kernel_rfl) (by simp) ?_
            refine AllReadyIn.cons rfl (fun K hK => ?_) ?_
            · go_simp
              gi_wp2_with (refine ⟨trivial, ?_⟩; gi_at_call 105; refine (CallsIn.inRound l (callsIn_wide.2 (HM.out _))).mono ?_; rintro e w5 ⟨rfl, hb5⟩; have hc5 := (below_cell hb5 _ 0 (by exact HCL.out)).trans hc; have hc6 := cellAl (.cells #[.int .i64 (massR d x.1.2)] 2) hc5)
              try (refine hK _ _ ?_; clear hK K)
              refine wpAnyIn_ready (rs := [5]) (by kernel_rfl) (by simp) ?_
              refine AllReadyIn.cons rfl (fun K hK => ?_) ?_
              · go_simp
                refine hK _ _ ?_
                clear hK K
                refine wpAnyIn_ready (rs := [6]) (by kernel_rfl) (by simp) ?_
                refine AllReadyIn.cons rfl (fun K hK => ?_) ?_
                · have HE := Lib.hid (fun w7 => HEND.out w5 w7 hb5)
                  have HR6 := Lib.hid ((row_keepM hb5 (row_keepM (below_drw W) HROW.out)).alloc (.cells #[.int .i64 (massR d x.1.2)] 2))
                  have H67 := Lib.hid (fun w7 => HC7.out w5 w7 hb5)
                  refine stepIn_append_fits _ rfl _ _ 22 rfl w1.heap.size 2 i0 1 Try.underlying22 hi hz1 w1.heap.size pre.length n (i64s (massP d pre)) rfl HR6.out ⟨w5.heap.size, 0, none⟩ 1 1 [.int .i64 (massR d x.1.2)] rfl rfl news1 (by intro u hu; simp at hu; subst hu; rfl) (by omega) ?_
                  intro w7 hown7 hg7
                  obtain ⟨hc7, hf7⟩ := H67.out w7 hg7
                  have HE7 := Lib.hid (HE.out w7 hown7 hg7)
                  clear hown7 hg7 HE H67
                  refine hK _ _ ?_
                  clear hK K
                  simp only [Act.put, List.setIfInBounds_toArray]
                  refine wpAnyIn_ready (rs := [7]) (by kernel_rfl) (by simp) ?_
                  refine AllReadyIn.cons rfl (fun K hK => ?_) ?_
                  · go_simp
                    refine hK _ _ ?_
                    clear hK K
                    refine wpAnyIn_done (by kernel_rfl) ?_ _
                    gi_wp2
                    exact HE7.out
                  exact AllReadyIn.nil
                exact AllReadyIn.nil
              exact AllReadyIn.nil
            exact AllReadyIn.nil
          exact AllReadyIn.nil
        refine AllReadyIn.cons rfl (fun K hK => ?_) ?_
        · go_simp
          refine hK _ _ ?_
          clear hK K
          refine wpAnyIn_ready (rs := [0, 4]) (by kernel_rfl) (by simp) ?_
          refine AllReadyIn.cons rfl (fun K hK => ?_) ?_
          · go_simp
            refine hK _ _ ?_
            clear hK K
            refine wpAnyIn_ready (rs := [4]) (by kernel_rfl) (by simp) ?_
            refine AllReadyIn.cons rfl (fun K hK => ?_) ?_
            · go_simp
              gi_wp2_with (refine ⟨trivial, ?_⟩; gi_at_call 105; refine (CallsIn.inRound l (callsIn_wide.2 (HM.out _))).mono ?_; rintro e w5 ⟨rfl, hb5⟩; have hc5 := (below_cell hb5 _ 0 (by exact HCL.out)).trans hc; have hc6 := cellAl (.cells #[.int .i64 (massR d x.1.2)] 2) hc5)
              try (refine hK _ _ ?_; clear hK K)
              refine wpAnyIn_ready (rs := [5]) (by kernel_rfl) (by simp) ?_
              refine AllReadyIn.cons rfl (fun K hK => ?_) ?_
              · go_simp
                refine hK _ _ ?_
                clear hK K
                refine wpAnyIn_ready (rs := [6]) (by kernel_rfl) (by simp) ?_
                refine AllReadyIn.cons rfl (fun K hK => ?_) ?_
                · have HE := Lib.hid (fun w7 => HEND.out w5 w7 hb5)
                  have HR6 := Lib.hid ((row_keepM hb5 (row_keepM (below_drw W) HROW.out)).alloc (.cells #[.int .i64 (massR d x.1.2)] 2))
                  have H67 := Lib.hid (fun w7 => HC7.out w5 w7 hb5)
                  refine stepIn_append_fits _ rfl _ _ 22 rfl w1.heap.size 2 i0 1 Try.underlying22 hi hz1 w1.heap.size pre.length n (i64s (massP d pre)) rfl HR6.out ⟨w5.heap.size, 0, none⟩ 1 1 [.int .i64 (massR d x.1.2)] rfl rfl news1 (by intro u hu; simp at hu; subst hu; rfl) (by omega) ?_
                  intro w7 hown7 hg7
                  obtain ⟨hc7, hf7⟩ := H67.out w7 hg7
                  have HE7 := Lib.hid (HE.out w7 hown7 hg7)
                  clear hown7 hg7 HE H67
                  refine hK _ _ ?_
                  clear hK K
                  simp only [Act.put, List.setIfInBounds_toArray]
                  refine wpAnyIn_ready (rs := [7]) (by kernel_rfl) (by simp) ?_
                  refine AllReadyIn.cons rfl (fun K hK => ?_) ?_
                  · go_simp
                    refine hK _ _ ?_
                    clear hK K
                    refine wpAnyIn_done (by kernel_rfl) ?_ _
                    gi_wp2
                    exact HE7.out
                  exact AllReadyIn.nil
                exact AllReadyIn.nil
              exact AllReadyIn.nil
            exact AllReadyIn.nil
          refine AllReadyIn.cons rfl (fun K hK => ?_) ?_
          · go_simp
            gi_wp2_with (refine ⟨trivial, ?_⟩; gi_at_call 105; refine (CallsIn.inRound l (callsIn_wide.2 (HM.out _))).mono ?_; rintro e w5 ⟨rfl, hb5⟩; have hc5 := (below_cell hb5 _ 0 (by exact HCL.out)).trans hc; have hc6 := cellAl (.cells #[.int .i64 (massR d x.1.2)] 2) hc5)
            try (refine hK _ _ ?_; clear hK K)
            refine wpAnyIn_ready (rs := [0, 5]) (by kernel_rfl) (by simp) ?_
            refine AllReadyIn.cons rfl (fun K hK => ?_) ?_
            · go_simp
              refine hK _ _ ?_
              clear hK K
              refine wpAnyIn_ready (rs := [5]) (by kernel_rfl) (by simp) ?_
              refine AllReadyIn.cons rfl (fun K hK => ?_) ?_
              · go_simp
                refine hK _ _ ?_
                clear hK K
                refine wpAnyIn_ready (rs := [6]) (by kernel_rfl) (by simp) ?_
                refine AllReadyIn.cons rfl (fun K hK => ?_) ?_
                · have HE := Lib.hid (fun w7 => HEND.out w5 w7 hb5)
                  have HR6 := Lib.hid ((row_keepM hb5 (row_keepM (below_drw W) HROW.out)).alloc (.cells #[.int .i64 (massR d x.1.2)] 2))
                  have H67 := Lib.hid (fun w7 => HC7.out w5 w7 hb5)
                  refine stepIn_append_fits _ rfl _ _ 22 rfl w1.heap.size 2 i0 1 Try.underlying22 hi hz1 w1.heap.size pre.length n (i64s (massP d pre)) rfl HR6.out ⟨w5.heap.size, 0, none⟩ 1 1 [.int .i64 (massR d x.1.2)] rfl rfl news1 (by intro u hu; simp at hu; subst hu; rfl) (by omega) ?_
                  intro w7 hown7 hg7
                  obtain ⟨hc7, hf7⟩ := H67.out w7 hg7
                  have HE7 := Lib.hid (HE.out w7 hown7 hg7)
                  clear hown7 hg7 HE H67
                  refine hK _ _ ?_
                  clear hK K
                  simp only [Act.put, List.setIfInBounds_toArray]
                  refine wpAnyIn_ready (rs := [7]) (by kernel_rfl) (by simp) ?_
                  refine AllReadyIn.cons rfl (fun K hK => ?_) ?_
                  · go_simp
                    refine hK _ _ ?_
                    clear hK K
                    refine wpAnyIn_done (by kernel_rfl) ?_ _
                    gi_wp2
                    exact HE7.out
                  exact AllReadyIn.nil
                exact AllReadyIn.nil
              exact AllReadyIn.nil
            refine AllReadyIn.cons rfl (fun K hK => ?_) ?_
            · go_simp
              refine hK _ _ ?_
              clear hK K
              refine wpAnyIn_ready (rs := [0]) (by kernel_rfl) (by simp) ?_
              refine AllReadyIn.cons rfl (fun K hK => ?_) ?_
              · go_simp
                refine hK _ _ ?_
                clear hK K
                refine wpAnyIn_ready (rs := [6]) (by kernel_rfl) (by simp) ?_
                refine AllReadyIn.cons rfl (fun K hK => ?_) ?_
                · have HE := Lib.hid (fun w7 => HEND.out w5 w7 hb5)
                  have HR6 := Lib.hid ((row_keepM hb5 (row_keepM (below_drw W) HROW.out)).alloc (.cells #[.int .i64 (massR d x.1.2)] 2))
                  have H67 := Lib.hid (fun w7 => HC7.out w5 w7 hb5)
                  refine stepIn_append_fits _ rfl _ _ 22 rfl w1.heap.size 2 i0 1 Try.underlying22 hi hz1 w1.heap.size pre.length n (i64s (massP d pre)) rfl HR6.out ⟨w5.heap.size, 0, none⟩ 1 1 [.int .i64 (massR d x.1.2)] rfl rfl news1 (by intro u hu; simp at hu; subst hu; rfl) (by omega) ?_
                  intro w7 hown7 hg7
                  obtain ⟨hc7, hf7⟩ := H67.out w7 hg7
                  have HE7 := Lib.hid (HE.out w7 hown7 hg7)
                  clear hown7 hg7 HE H67
                  refine hK _ _ ?_
                  clear hK K
                  simp only [Act.put, List.setIfInBounds_toArray]
                  refine wpAnyIn_ready (rs := [7]) (by kernel_rfl) (by simp) ?_
                  refine AllReadyIn.cons rfl (fun K hK => ?_) ?_
                  · go_simp
                    refine hK _ _ ?_
                    clear hK K
                    refine wpAnyIn_done (by kernel_rfl) ?_ _
                    gi_wp2
                    exact HE7.out
                  exact AllReadyIn.nil
                exact AllReadyIn.nil
              exact AllReadyIn.nil
            exact AllReadyIn.nil
          exact AllReadyIn.nil
        exact AllReadyIn.nil
      exact AllReadyIn.nil
    refine AllReadyIn.cons rfl (fun K hK => ?_) ?_
    · go_simp
      refine hK _ _ ?_
      clear hK K
      refine wpAnyIn_ready (rs := [0, 1]) (by kernel_rfl) (by simp) ?_
      refine AllReadyIn.cons rfl (fun K hK => ?_) ?_
      · go_simp
        refine hK _ _ ?_
        clear hK K
        refine wpAnyIn_ready (rs := [1]) (by kernel_rfl) (by simp) ?_
        refine AllReadyIn.cons rfl (fun K hK => ?_) ?_
        · go_simp
          refine hK _ _ ?_
          clear hK K
          refine wpAnyIn_ready (rs := [2]) (by kernel_rfl) (by simp) ?_
          refine AllReadyIn.cons rfl (fun K hK => ?_) ?_
          · go_simp
            refine hK _ _ ?_
            clear hK K
            refine wpAnyIn_ready (rs := [4]) (by kernel_rfl) (by simp) ?_
            refine AllReadyIn.cons rfl (fun K hK => ?_) ?_
            · go_simp
              gi_wp2_with (refine ⟨trivial, ?_⟩; gi_at_call 105; refine (CallsIn.inRound l (callsIn_wide.2 (HM.out _))).mono ?_; rintro e w5 ⟨rfl, hb5⟩; have hc5 := (below_cell hb5 _ 0 (by exact HCL.out)).trans hc; have hc6 := cellAl (.cells #[.int .i64 (massR d x.1.2)] 2) hc5)
              try (refine hK _ _ ?_; clear hK K)
              refine wpAnyIn_ready (rs := [5]) (by kernel_rfl) (by simp) ?_
              refine AllReadyIn.cons rfl (fun K hK => ?_) ?_
              · go_simp
                refine hK _ _ ?_
                clear hK K
                refine wpAnyIn_ready (rs := [6]) (by kernel_rfl) (by simp) ?_
                refine AllReadyIn.cons rfl (fun K hK => ?_) ?_
                · have HE := Lib.hid (fun w7 => HEND.out w5 w7 hb5)
                  have HR6 := Lib.hid ((row_keepM hb5 (row_keepM (below_drw W) HROW.out)).alloc (.cells #[.int .i64 (massR d x.1.2)] 2))
                  have H67 := Lib.hid (fun w7 => HC7.out w5 w7 hb5)
                  refine stepIn_append_fits _ rfl _ _ 22 rfl w1.heap.size 2 i0 1 Try.underlying22 hi hz1 w1.heap.size pre.length n (i64s (massP d pre)) rfl HR6.out ⟨w5.heap.size, 0, none⟩ 1 1 [.int .i64 (massR d x.1.2)] rfl rfl news1 (by intro u hu; simp at hu; subst hu; rfl) (by omega) ?_
                  intro w7 hown7 hg7
                  obtain ⟨hc7, hf7⟩ := H67.out w7 hg7
                  have HE7 := Lib.hid (HE.out w7 hown7 hg7)
                  clear hown7 hg7 HE H67
                  refine hK _ _ ?_
                  clear hK K
                  simp only [Act.put, List.setIfInBounds_toArray]
                  refine wpAnyIn_ready (rs := [7]) (by kernel_rfl) (by simp) ?_
                  refine AllReadyIn.cons rfl (fun K hK => ?_) ?_
                  · go_simp
                    refine hK _ _ ?_
                    clear hK K
                    refine wpAnyIn_done (by kernel_rfl) ?_ _
                    gi_wp2
                    exact HE7.out
                  exact AllReadyIn.nil
                exact AllReadyIn.nil
              exact AllReadyIn.nil
            exact AllReadyIn.nil
          exact AllReadyIn.nil
        exact AllReadyIn.nil
      refine AllReadyIn.cons rfl (fun K hK => ?_) ?_
      · go_simp
        refine hK _ _ ?_
        clear hK K
        refine wpAnyIn_ready (rs := [0, 2]) (by kernel_rfl) (by simp) ?_
        refine AllReadyIn.cons rfl (fun K hK => ?_) ?_
        · go_simp
          refine hK _ _ ?_
          clear hK K
          refine wpAnyIn_ready (rs := [2]) (by kernel_rfl) (by simp) ?_
          refine AllReadyIn.cons rfl (fun K hK => ?_) ?_
          · go_simp
            refine hK _ _ ?_
            clear hK K
            refine wpAnyIn_ready (rs := [4]) (by kernel_rfl) (by simp) ?_
            refine AllReadyIn.cons rfl (fun K hK => ?_) ?_
            · go_simp
              gi_wp2_with (refine ⟨trivial, ?_⟩; gi_at_call 105; refine (CallsIn.inRound l (callsIn_wide.2 (HM.out _))).mono ?_; rintro e w5 ⟨rfl, hb5⟩; have hc5 := (below_cell hb5 _ 0 (by exact HCL.out)).trans hc; have hc6 := cellAl (.cells #[.int .i64 (massR d x.1.2)] 2) hc5)
              try (refine hK _ _ ?_; clear hK K)
              refine wpAnyIn_ready (rs := [5]) (by kernel_rfl) (by simp) ?_
              refine AllReadyIn.cons rfl (fun K hK => ?_) ?_
              · go_simp
                refine hK _ _ ?_
                clear hK K
                refine wpAnyIn_ready (rs := [6]) (by kernel_rfl) (by simp) ?_
                refine AllReadyIn.cons rfl (fun K hK => ?_) ?_
                · have HE := Lib.hid (fun w7 => HEND.out w5 w7 hb5)
                  have HR6 := Lib.hid ((row_keepM hb5 (row_keepM (below_drw W) HROW.out)).alloc (.cells #[.int .i64 (massR d x.1.2)] 2))
                  have H67 := Lib.hid (fun w7 => HC7.out w5 w7 hb5)
                  refine stepIn_append_fits _ rfl _ _ 22 rfl w1.heap.size 2 i0 1 Try.underlying22 hi hz1 w1.heap.size pre.length n (i64s (massP d pre)) rfl HR6.out ⟨w5.heap.size, 0, none⟩ 1 1 [.int .i64 (massR d x.1.2)] rfl rfl news1 (by intro u hu; simp at hu; subst hu; rfl) (by omega) ?_
                  intro w7 hown7 hg7
                  obtain ⟨hc7, hf7⟩ := H67.out w7 hg7
                  have HE7 := Lib.hid (HE.out w7 hown7 hg7)
                  clear hown7 hg7 HE H67
                  refine hK _ _ ?_
                  clear hK K
                  simp only [Act.put, List.setIfInBounds_toArray]
                  refine wpAnyIn_ready (rs := [7]) (by kernel_rfl) (by simp) ?_
                  refine AllReadyIn.cons rfl (fun K hK => ?_) ?_
                  · go_simp
                    refine hK _ _ ?_
                    clear hK K
                    refine wpAnyIn_done (by kernel_rfl) ?_ _
                    gi_wp2
                    exact HE7.out
                  exact AllReadyIn.nil
                exact AllReadyIn.nil
              exact AllReadyIn.nil
            exact AllReadyIn.nil
          exact AllReadyIn.nil
        refine AllReadyIn.cons rfl (fun K hK => ?_) ?_
        · go_simp
          refine hK _ _ ?_
          clear hK K
          refine wpAnyIn_ready (rs := [0, 4]) (by kernel_rfl) (by simp) ?_
          refine AllReadyIn.cons rfl (fun K hK => ?_) ?_
          · go_simp
            refine hK _ _ ?_
            clear hK K
            refine wpAnyIn_ready (rs := [4]) (by kernel_rfl) (by simp) ?_
            refine AllReadyIn.cons rfl (fun K hK => ?_) ?_
            · go_simp
              gi_wp2_with (refine ⟨trivial, ?_⟩; gi_at_call 105; refine (CallsIn.inRound l (callsIn_wide.2 (HM.out _))).mono ?_; rintro e w5 ⟨rfl, hb5⟩; have hc5 := (below_cell hb5 _ 0 (by exact HCL.out)).trans hc; have hc6 := cellAl (.cells #[.int .i64 (massR d x.1.2)] 2) hc5)
              try (refine hK _ _ ?_; clear hK K)
              refine wpAnyIn_ready (rs := [5]) (by kernel_rfl) (by simp) ?_
              refine AllReadyIn.cons rfl (fun K hK => ?_) ?_
              · go_simp
                refine hK _ _ ?_
                clear hK K
                refine wpAnyIn_ready (rs := [6]) (by kernel_rfl) (by simp) ?_
                refine AllReadyIn.cons rfl (fun K hK => ?_) ?_
                · have HE := Lib.hid (fun w7 => HEND.out w5 w7 hb5)
                  have HR6 := Lib.hid ((row_keepM hb5 (row_keepM (below_drw W) HROW.out)).alloc (.cells #[.int .i64 (massR d x.1.2)] 2))
                  have H67 := Lib.hid (fun w7 => HC7.out w5 w7 hb5)
                  refine stepIn_append_fits _ rfl _ _ 22 rfl w1.heap.size 2 i0 1 Try.underlying22 hi hz1 w1.heap.size pre.length n (i64s (massP d pre)) rfl HR6.out ⟨w5.heap.size, 0, none⟩ 1 1 [.int .i64 (massR d x.1.2)] rfl rfl news1 (by intro u hu; simp at hu; subst hu; rfl) (by omega) ?_
                  intro w7 hown7 hg7
                  obtain ⟨hc7, hf7⟩ := H67.out w7 hg7
                  have HE7 := Lib.hid (HE.out w7 hown7 hg7)
                  clear hown7 hg7 HE H67
                  refine hK _ _ ?_
                  clear hK K
                  simp only [Act.put, List.setIfInBounds_toArray]
                  refine wpAnyIn_ready (rs := [7]) (by kernel_rfl) (by simp) ?_
                  refine AllReadyIn.cons rfl (fun K hK => ?_) ?_
                  · go_simp
                    refine hK _ _ ?_
                    clear hK K
                    refine wpAnyIn_done (by kernel_rfl) ?_ _
                    gi_wp2
                    exact HE7.out
                  exact AllReadyIn.nil
                exact AllReadyIn.nil
              exact AllReadyIn.nil
            exact AllReadyIn.nil
          refine AllReadyIn.cons rfl (fun K hK => ?_) ?_
          · go_simp
            gi_wp2_with (refine ⟨trivial, ?_⟩; gi_at_call 105; refine (CallsIn.inRound l (callsIn_wide.2 (HM.out _))).mono ?_; rintro e w5 ⟨rfl, hb5⟩; have hc5 := (below_cell hb5 _ 0 (by exact HCL.out)).trans hc; have hc6 := cellAl (.cells #[.int .i64 (massR d x.1.2)] 2) hc5)
            try (refine hK _ _ ?_; clear hK K)
            refine wpAnyIn_ready (rs := [0, 5]) (by kernel_rfl) (by simp) ?_
            refine AllReadyIn.cons rfl (fun K hK => ?_) ?_
            · go_simp
              refine hK _ _ ?_
              clear hK K
              refine wpAnyIn_ready (rs := [5]) (by kernel_rfl) (by simp) ?_
              refine AllReadyIn.cons rfl (fun K hK => ?_) ?_
              · go_simp
                refine hK _ _ ?_
                clear hK K
                refine wpAnyIn_ready (rs := [6]) (by kernel_rfl) (by simp) ?_
                refine AllReadyIn.cons rfl (fun K hK => ?_) ?_
                · have HE := Lib.hid (fun w7 => HEND.out w5 w7 hb5)
                  have HR6 := Lib.hid ((row_keepM hb5 (row_keepM (below_drw W) HROW.out)).alloc (.cells #[.int .i64 (massR d x.1.2)] 2))
                  have H67 := Lib.hid (fun w7 => HC7.out w5 w7 hb5)
                  refine stepIn_append_fits _ rfl _ _ 22 rfl w1.heap.size 2 i0 1 Try.underlying22 hi hz1 w1.heap.size pre.length n (i64s (massP d pre)) rfl HR6.out ⟨w5.heap.size, 0, none⟩ 1 1 [.int .i64 (massR d x.1.2)] rfl rfl news1 (by intro u hu; simp at hu; subst hu; rfl) (by omega) ?_
                  intro w7 hown7 hg7
                  obtain ⟨hc7, hf7⟩ := H67.out w7 hg7
                  have HE7 := Lib.hid (HE.out w7 hown7 hg7)
                  clear hown7 hg7 HE H67
                  refine hK _ _ ?_
                  clear hK K
                  simp only [Act.put, List.setIfInBounds_toArray]
                  refine wpAnyIn_ready (rs := [7]) (by kernel_rfl) (by simp) ?_
                  refine AllReadyIn.cons rfl (fun K hK => ?_) ?_
                  · go_simp
                    refine hK _ _ ?_
                    clear hK K
                    refine wpAnyIn_done (by kernel_rfl) ?_ _
                    gi_wp2
                    exact HE7.out
                  exact AllReadyIn.nil
                exact AllReadyIn.nil
              exact AllReadyIn.nil
            refine AllReadyIn.cons rfl (fun K hK => ?_) ?_
            · go_simp
              refine hK _ _ ?_
              clear hK K
              refine wpAnyIn_ready (rs := [0]) (by kernel_rfl) (by simp) ?_
              refine AllReadyIn.cons rfl (fun K hK => ?_) ?_
              · go_simp
                refine hK _ _ ?_
                clear hK K
                refine wpAnyIn_ready (rs := [6]) (by kernel_rfl) (by simp) ?_
                refine AllReadyIn.cons rfl (fun K hK => ?_) ?_
                · have HE := Lib.hid (fun w7 => HEND.out w5 w7 hb5)
                  have HR6 := Lib.hid ((row_keepM hb5 (row_keepM (below_drw W) HROW.out)).alloc (.cells #[.int .i64 (massR d x.1.2)] 2))
                  have H67 := Lib.hid (fun w7 => HC7.out w5 w7 hb5)
                  refine stepIn_append_fits _ rfl _ _ 22 rfl w1.heap.size 2 i0 1 Try.underlying22 hi hz1 w1.heap.size pre.length n (i64s (massP d pre)) rfl HR6.out ⟨w5.heap.size, 0, none⟩ 1 1 [.int .i64 (massR d x.1.2)] rfl rfl news1 (by intro u hu; simp at hu; subst hu; rfl) (by omega) ?_
                  intro w7 hown7 hg7
                  obtain ⟨hc7, hf7⟩ := H67.out w7 hg7
                  have HE7 := Lib.hid (HE.out w7 hown7 hg7)
                  clear hown7 hg7 HE H67
                  refine hK _ _ ?_
                  clear hK K
                  simp only [Act.put, List.setIfInBounds_toArray]
                  refine wpAnyIn_ready (rs := [7]) (by kernel_rfl) (by simp) ?_
                  refine AllReadyIn.cons rfl (fun K hK => ?_) ?_
                  · go_simp
                    refine hK _ _ ?_
                    clear hK K
                    refine wpAnyIn_done (by kernel_rfl) ?_ _
                    gi_wp2
                    exact HE7.out
                  exact AllReadyIn.nil
                exact AllReadyIn.nil
              exact AllReadyIn.nil
            exact AllReadyIn.nil
          exact AllReadyIn.nil
        exact AllReadyIn.nil
      exact AllReadyIn.nil
    exact AllReadyIn.nil
  case done =>
    rintro D ys W hD rfl ⟨⟨_, hc, _, hrow⟩, hB⟩ hK
    rw [upto_length] at hc hrow
    rw [HL.out] at hrow
    gi_wp2
    refine ⟨by simp, .inl ⟨_, _, rfl, run_takeDeferred hK, ?_⟩⟩
    have hLn : (massL rs d).length = n := by rw [massL_len]; exact HN.out
    refine ⟨_, results_tmp2 rfl _ _ _, .slice (some ⟨w1.heap.size, 0, none⟩) n n, rfl, iv_base (B := w1.heap.size) (.inr ⟨w1.heap.size, n, by rw [hLn], Nat.le_refl _, ?_⟩) (by omega), hB.trans (belowK_b (w := w) (Nat.le_refl _) W D _ _ (by omega) hK rfl rfl)⟩
    rw [hLn]
    exact row_own hrow (grownBy_putObj' W D _) (fun r e => by cases e; exact ⟨_, hK, rfl⟩)
  case stop =>
    rintro D c pre W _ _ h _
    exact h.elim
end Go.Proofs.Ytndmakimkghihaa
