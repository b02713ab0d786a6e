/- What ingots are together and whether they fit: metalIn, fits (the program); l13Sum, l13Chosen, l13Fits (the reference model). -/
import Derived.Test.YtikoehjalcljnaaChM
set_option linter.unusedVariables false
namespace Go.Proofs.Ytikoehjalcljnaa
open Go.ChangeShapes Go.WideShapes Go.ChangeAt Go.RowKit

def mtV (rs : List Gt) (zs : List Int) (k : Nat) : Value := .agg #[.int .i64 (sumG fM rs zs k), .int .i64 (sumG fT rs zs k), .int .i64 (sumG fO rs zs k)]
theorem lt_of_cellM {w : World} {p i : Nat} {v : Value} (h : w.cell? ⟨p, i, none⟩ = some v) : p < w.heap.size := World.block_lt_of_cell? _ _ h
/-- Block p holds three numbers, and may be written. -/
structure Met (w : World) (p : Nat) (m t o : Int) : Prop where
  c0 : w.cell? ⟨p, 0, none⟩ = some (.int .i64 m)
  c1 : w.cell? ⟨p, 1, none⟩ = some (.int .i64 t)
  c2 : w.cell? ⟨p, 2, none⟩ = some (.int .i64 o)
  f0 : w.frozen? ⟨p, 0, none⟩ = false
  f1 : w.frozen? ⟨p, 1, none⟩ = false
  f2 : w.frozen? ⟨p, 2, none⟩ = false
theorem met_kept {w w' : World} {B p : Nat} {m t o : Int} (hb : Below B w w') (hp : p < B) (h : Met w p m t o) : Met w' p m t o :=
  ⟨by rw [hb.cell (p := ⟨p, 0, none⟩) hp]; exact h.c0, by rw [hb.cell (p := ⟨p, 1, none⟩) hp]; exact h.c1, by rw [hb.cell (p := ⟨p, 2, none⟩) hp]; exact h.c2, by rw [hb.frozen (p := ⟨p, 0, none⟩) hp]; exact h.f0, by rw [hb.frozen (p := ⟨p, 1, none⟩) hp]; exact h.f1, by rw [hb.frozen (p := ⟨p, 2, none⟩) hp]; exact h.f2⟩
theorem met_alloc (w : World) (m t o : Int) (T : TypeId) : Met (w.alloc (.cells #[.int .i64 m, .int .i64 t, .int .i64 o] T)) w.heap.size m t o :=
  ⟨by go_simp, by go_simp, by go_simp, by go_simp, by go_simp, by go_simp⟩
theorem met_lt {w : World} {p : Nat} {m t o : Int} (h : Met w p m t o) : p < w.heap.size := lt_of_cellM h.c0
theorem met_set {w : World} {p : Nat} {m t o : Int} (m' t' o' : Int) (h : Met w p m t o) : Met (((w.setCell ⟨p, 0, none⟩ (.int .i64 m')).setCell ⟨p, 1, none⟩ (.int .i64 t')).setCell ⟨p, 2, none⟩ (.int .i64 o')) p m' t' o' := by
  have h0 := h.c0; have h1 := h.c1; have h2 := h.c2
  have g0 := h.f0; have g1 := h.f1; have g2 := h.f2
  exact ⟨by go_simp, by go_simp, by go_simp, by go_simp, by go_simp, by go_simp⟩
theorem met_far {w : World} {p q : Nat} {m t o : Int} {x : Nat} {v : Value} (hne : q ≠ p) (h : Met w p m t o) : Met (w.setCell ⟨q, x, none⟩ v) p m t o :=
  ⟨(World.cell?_setCell_far _ _ _ _ hne).trans h.c0, (World.cell?_setCell_far _ _ _ _ hne).trans h.c1, (World.cell?_setCell_far _ _ _ _ hne).trans h.c2, by rw [World.frozen?_setCell]; exact h.f0, by rw [World.frozen?_setCell]; exact h.f1, by rw [World.frozen?_setCell]; exact h.f2⟩
set_option maxRecDepth 20000 in
set_option maxHeartbeats 4000000 in
theorem metalIn_any (rs : List Gt) (v : Value) (c : Nat) (zs : List Int) (w : World) (hc : c < 65536) (hI : idxs c 16 = zs) (hr : RiseTo rs.length zs zs.length) (hv : ingsB rs = true) (h : IngsAt w v rs) :
    Calls Try.prog 63 #[.int .u16 (c : Int), v] w fun e w' => e = .returned (mtV rs zs zs.length) ∧ Below w.heap.size w w' := by
  obtain ⟨n, hn⟩ : ∃ n, zs.length = n := ⟨_, rfl⟩
  rw [hn] at hr ⊢
  have HN := Lib.hid hn
  have hn16 : n ≤ 16 := by have := rise_len hr; have := (ings_iff.1 hv).1; omega
  have HR := Lib.hid hr
  have HV := Lib.hid hv
  have HSB := Lib.hid (fun k (hk : k ≤ n) => sum_bd hv k (fun j hj => hr j (by omega)))
  have HIA := Lib.hid h
  obtain ⟨sa, sc, rfl⟩ := ings_form h
  have HII := Lib.hid (fun W => indices_any c W hc)
  rw [hI] at HII
  clear hI hv hr h hn
  go_enter Try.func63, Try.ntmps63
  have hc0 := met_alloc w 0 0 0 97
  have hc1 := met_alloc (w.alloc (.cells #[.int .i64 0, .int .i64 0, .int .i64 0] 97)) 0 0 0 97
  have hl0 := alloc_ltG w (.cells #[.int .i64 0, .int .i64 0, .int .i64 0] 97)
  have hl1 := alloc_ltG (w.alloc (.cells #[.int .i64 0, .int .i64 0, .int .i64 0] 97)) (.cells #[.int .i64 0, .int .i64 0, .int .i64 0] 97)
  have hs1 : (w.alloc (.cells #[.int .i64 0, .int .i64 0, .int .i64 0] 97)).heap.size = w.heap.size + 1 := by simp
  have HBA := Lib.hid (below_of (below_alG w (.cells #[.int .i64 0, .int .i64 0, .int .i64 0] 97)) (below_alG _ (.cells #[.int .i64 0, .int .i64 0, .int .i64 0] 97)) (by simp))
  have hc0' := met_kept (below_alG (w.alloc (.cells #[.int .i64 0, .int .i64 0, .int .i64 0] 97)) (.cells #[.int .i64 0, .int .i64 0, .int .i64 0] 97)) hl0 hc0
  rw [hs1] at hc1 hl1
  clear hs1
  go_wp2_with fail
  generalize ((w.alloc (.cells #[.int .i64 0, .int .i64 0, .int .i64 0] 97)).alloc (.cells #[.int .i64 0, .int .i64 0, .int .i64 0] 97)) = wA at *
  have hlA : w.heap.size < wA.heap.size := met_lt hc0'
  refine (HII.out _).mono ?_
  rintro en w1 ⟨vi, rfl, hvi, hb⟩
  have HX1 := Lib.hid (met_kept hb hlA hc0')
  have HM1 := Lib.hid (met_kept hb hl1 hc1)
  have HB1 := Lib.hid (below_of HBA.out hb HBA.out.size)
  clear hb hc0 hc1 hc0' hl0
  rcases hvi with ⟨hz, ia, im, rfl⟩ | ⟨g, ic, rfl, hg1, hg2, hgc⟩
  · subst hz
    obtain rfl : n = 0 := HN.out.symm
    obtain ⟨a0, a1, a2, b0, b1, b2⟩ := HX1.out
    obtain ⟨d0, d1, d2, -, -, -⟩ := HM1.out
    clear hl1 hlA
    go_wp2
    refine wp_loop_rounds 1 ?_
    rw [rounds_succ]
    go_wp2
    try simp only [Exit.inBlock, Exit.then]
    refine bodyPost_ret_by (v := mtV rs [] 0) (by rw [results_cellGs rfl]; unfold mtV; simp only [sumG]; go_simp) rfl ?_
    refine ⟨rfl, ?_⟩
    repeat (first | with_reducible exact HB1.out | refine Below.setCell ?_ (by simp) _)
  · have HG1 := Lib.hid hgc
    have hgp : w.heap.size + 1 < g := Nat.lt_of_lt_of_le hl1 hg1
    rw [HN.out] at HG1 ⊢
    clear hgc hl1 hlA
    go_wp2
    go_loopw [12] (fun i wr => ∃ k : Nat, k ≤ n ∧ i = .int .i64 k ∧ Hid (Met wr (w.heap.size + 1) (sumG fM rs zs k) (sumG fT rs zs k) (sumG fO rs zs k)) ∧ Hid (Met wr w.heap.size 0 0 0) ∧ Hid (Below w.heap.size w wr) ∧ Hid (∀ j, j < n → wr.cell? ⟨g, j, none⟩ = some (.int .i64 (zs.getD j 0)))) (fun i _ => n - (intOf i).toNat)
    case atStart => exact ⟨0, by omega, rfl, HM1, HX1, HB1, HG1⟩
    case round =>
      obtain ⟨k, hk, rfl, HM, HX, HB, HG⟩ := hrel
      by_cases hlt : k < n
      · have gk := HG.out k hlt
        have hzb := rise_bd HR.out hlt
        obtain ⟨b1, b2, b3⟩ := HSB.out k hk
        have HS1 := Lib.hid (show sumG fM rs zs (k + 1) = sumG fM rs zs k + fM (rs.getD (zs.getD k 0).toNat zG) from rfl)
        have HS2 := Lib.hid (show sumG fT rs zs (k + 1) = sumG fT rs zs k + fT (rs.getD (zs.getD k 0).toNat zG) from rfl)
        have HS3 := Lib.hid (show sumG fO rs zs (k + 1) = sumG fO rs zs k + fO (rs.getD (zs.getD k 0).toNat zG) from rfl)
        obtain ⟨z, hz⟩ : ∃ z, zs.getD k 0 = z := ⟨_, rfl⟩
        rw [hz] at gk hzb HS1 HS2 HS3
        obtain ⟨zn, rfl⟩ := Int.eq_ofNat_of_zero_le hzb.1
        have hzl : zn < rs.length := by omega
        obtain ⟨c1, c2, c3⟩ := ings_bd HV.out hzl
        rw [Int.toNat_natCast] at HS1 HS2 HS3
        obtain ⟨lb, lo, lc, hle, hlb, hcl⟩ := ings_cells HIA.out (by omega)
        simp only [Value.slice.injEq] at hle
        obtain ⟨rfl, hle2, rfl⟩ := hle
        have hin := Gin_kept (show Below w.heap.size w wr from HB.out) hlb (hcl zn hzl)
        obtain ⟨⟨s, a, x, y, zz⟩, hxy⟩ : ∃ r, rs.getD zn zG = r := ⟨_, rfl⟩
        rw [hxy] at hin HS1 HS2 HS3 c1 c2 c3
        simp only [fM, fT, fO] at HS1 HS2 HS3 c1 c2 c3
        obtain ⟨e0, e1, e2, e3, e4⟩ := hin
        simp only at e0 e1 e2 e3 e4
        obtain ⟨m, hm⟩ : ∃ m, sumG fM rs zs k = m := ⟨_, rfl⟩
        obtain ⟨t, ht⟩ : ∃ t, sumG fT rs zs k = t := ⟨_, rfl⟩
        obtain ⟨o, ho⟩ : ∃ o, sumG fO rs zs k = o := ⟨_, rfl⟩
        rw [hm, ht, ho] at HM
        rw [hm] at b1 HS1
        rw [ht] at b2 HS2
        rw [ho] at b3 HS3
        have HC := Lib.hid (fun W => plus_any m t o s a x y zz W (by omega) (by omega) (by omega) c1 c2 c3)
        have hML := met_lt HM.out
        have hXL := met_lt HX.out
        have hgl := lt_of_cellM gk
        obtain ⟨m0, m1, m2, n0, n1, n2⟩ := HM.out
        have HKB := Lib.hid (fun w2 (hb5 : Below wr.drew.heap.size wr.drew w2) => show Met w2 (w.heap.size + 1) m t o ∧ Met w2 w.heap.size 0 0 0 ∧ Below w.heap.size w w2 ∧ (∀ j, j < n → w2.cell? ⟨g, j, none⟩ = some (.int .i64 (zs.getD j 0))) from
          (let hb6 : Below wr.heap.size wr w2 := ⟨hb5.os, hb5.tape, hb5.output, hb5.size, hb5.block⟩
           ⟨met_kept hb6 hML HM.out, met_kept hb6 hXL HX.out, below_of HB.out hb6 HB.out.size, fun j hj => (below_cell hb6 _ _ hgl).trans (HG.out j hj)⟩))
        have hkm : (k : Int) < (n : Int) := by omega
        have hk0 : (0 : Int) ≤ (k : Int) := by omega
        have hz0 : (0 : Int) ≤ (zn : Int) := by omega
        have hz1 : (zn : Int) < (rs.length : Int) := by omega
        clear hzb hxy b1 b2 b3 c1 c2 c3 hcl hm ht ho hML hgl hz hle2
        go_wp2
        go_region_with (go_at_call 82; refine (HC.out _).mono ?_; rintro en w2 ⟨rfl, hb5⟩; have hk5 := HKB.out _ hb5; obtain ⟨⟨j0, j1, j2, i0, i1, i2⟩, -, -, -⟩ := hk5)
        all_goals
          have HK5 := Lib.hid (HKB.out _ hb5)
          clear hb5
          go_wp2
          go_roundw
          case rel => exact ⟨k + 1, by omega, by go_num, Lib.hid (by rw [HS1.out, HS2.out, HS3.out]; exact met_set _ _ _ HK5.out.1), Lib.hid (met_far (by omega) (met_far (by omega) (met_far (by omega) HK5.out.2.1))), Lib.hid (((HK5.out.2.2.1.setCell (by simp) _).setCell (by simp) _).setCell (by simp) _), Lib.hid (fun j hj => by
            rw [World.cell?_setCell_far _ _ _ _ (by simp only; omega), World.cell?_setCell_far _ _ _ _ (by simp only; omega), World.cell?_setCell_far _ _ _ _ (by simp only; omega)]
            exact HK5.out.2.2.2 j hj)⟩
          case measure => simp [intOf]; omega
      · obtain rfl : k = n := by omega
        obtain ⟨a0, a1, a2, b0, b1, b2⟩ := HX.out
        obtain ⟨d0, d1, d2, -, -, -⟩ := HM.out
        have HVV := Lib.hid (show mtV rs zs k = .agg #[.int .i64 (sumG fM rs zs k), .int .i64 (sumG fT rs zs k), .int .i64 (sumG fO rs zs k)] from rfl)
        generalize sumG fM rs zs k = m at *
        generalize sumG fT rs zs k = t at *
        generalize sumG fO rs zs k = o at *
        go_wp2
        try simp only [Exit.inBlock, Exit.then]
        refine bodyPost_ret_by (v := .agg #[.int .i64 m, .int .i64 t, .int .i64 o]) (by rw [results_cellGs rfl]; go_simp) rfl ?_
        refine ⟨by rw [HVV.out], ?_⟩
        repeat (first | with_reducible exact HB.out | refine Below.setCell ?_ (by simp) _)
def fitB (a b c e f m t o : Int) : Bool := inB m a b && (inB t (c * m) (e * m) && decide (o ≤ f * m))
set_option maxHeartbeats 2000000 in
theorem fits_any (a b c e f m t o : Int) (w : World) (hm : 0 ≤ m ∧ m ≤ 320000000) (hd : (0 ≤ c ∧ c ≤ e) ∧ e ≤ 1000000 ∧ 0 ≤ f ∧ f ≤ 1000000) :
    Calls Try.prog 66 #[.agg #[.int .i64 m, .int .i64 t, .int .i64 o], .agg #[.int .i64 a, .int .i64 b, .int .i64 c, .int .i64 e, .int .i64 f]] w fun en w' => en = .returned (.bool (fitB a b c e f m t o)) ∧ Below w.heap.size w w' := by
  obtain ⟨p0, p1⟩ := prod_bdM (A := 1000000) (Y := 320000000) (by omega) (show c ≤ 1000000 by omega) hm.1 hm.2
  obtain ⟨q0, q1⟩ := prod_bdM (A := 1000000) (Y := 320000000) (by omega) (show e ≤ 1000000 by omega) hm.1 hm.2
  obtain ⟨r0, r1⟩ := prod_bdM (A := 1000000) (Y := 320000000) (by omega) (show f ≤ 1000000 by omega) hm.1 hm.2
  have HW1 := Lib.hid (show wrap64 (c * m) = c * m from IntWalk.wrap64_in _ (by omega))
  have HW2 := Lib.hid (show wrap64 (e * m) = e * m from IntWalk.wrap64_in _ (by omega))
  have HW3 := Lib.hid (show wrap64 (f * m) = f * m from IntWalk.wrap64_in _ (by omega))
  clear p0 p1 q0 q1 r0 r1
  have HBA := Lib.hid (below_of (below_alG w (.cells #[.int .i64 m, .int .i64 t, .int .i64 o] 97)) (below_alG _ (.cells #[.int .i64 a, .int .i64 b, .int .i64 c, .int .i64 e, .int .i64 f] 51)) (by simp))
  have HQ := Lib.hid (show ∀ (z lo hi lo' hi' : Int) (r : Bool) (g : Nat) (W : World), inB z lo' hi' = r → lo = lo' → hi = hi' → g = W.heap.size → Calls Try.prog 52 #[.int .i64 lo, .int .i64 hi, .slice (some ⟨g, 0, none⟩) 1 1] (W.alloc (.cells #[.int .i64 z] 2)) fun en w' => en = .returned (.bool r) ∧ W.alloc (.cells #[.int .i64 z] 2) = w' from fun z lo hi lo' hi' r g W hr h1 h2 h3 => by
    subst h1 h2
    refine (within_i64 _ _ [z] _ 0 1 1 _ rfl (by omega) (cellI1G _ _ _ _ h3)).mono ?_
    rintro en w' ⟨rfl, rfl⟩
    exact ⟨by rw [allI1G, hr], rfl⟩)
  rcases Bool.eq_false_or_eq_true (inB m a b) with h1 | h1
  · rcases Bool.eq_false_or_eq_true (inB t (c * m) (e * m)) with h2 | h2
    · have HF := Lib.hid (show fitB a b c e f m t o = decide (o ≤ f * m) by unfold fitB; rw [h1, h2]; rfl)
      have H1 := Lib.hid h1
      have H2 := Lib.hid h2
      clear h1 h2
      go_enter Try.func66, Try.ntmps66
      go_wp2_with fail
      refine ((HQ.out m _ _ a b _ _ _ H1.out rfl rfl (by simp)).mono ?_)
      rintro en w1 ⟨rfl, rfl⟩
      go_wp2_with fail
      refine ((HQ.out t _ _ (c * m) (e * m) _ _ _ H2.out (by first | rfl | exact HW1.out) (by first | rfl | exact HW2.out) (by simp)).mono ?_)
      rintro en w1 ⟨rfl, rfl⟩
      go_wp2
      go_ret
      exact ⟨retG_b (by first | exact HF.out.symm | (rw [HW3.out]; exact HF.out.symm)), (HBA.out.alloc (by simp <;> omega) _).alloc (by simp <;> omega) _⟩
    · have HF := Lib.hid (show fitB a b c e f m t o = false by unfold fitB; rw [h1, h2]; rfl)
      have H1 := Lib.hid h1
      have H2 := Lib.hid h2
      clear h1 h2
      go_enter Try.func66, Try.ntmps66
      go_wp2_with fail
      refine ((HQ.out m _ _ a b _ _ _ H1.out rfl rfl (by simp)).mono ?_)
      rintro en w1 ⟨rfl, rfl⟩
      go_wp2_with fail
      refine ((HQ.out t _ _ (c * m) (e * m) _ _ _ H2.out (by first | rfl | exact HW1.out) (by first | rfl | exact HW2.out) (by simp)).mono ?_)
      rintro en w1 ⟨rfl, rfl⟩
      go_wp2
      go_ret
      exact ⟨retG_b (by first | exact HF.out.symm | (rw [HW3.out]; exact HF.out.symm)), (HBA.out.alloc (by simp <;> omega) _).alloc (by simp <;> omega) _⟩
  · have HF := Lib.hid (show fitB a b c e f m t o = false by unfold fitB; rw [h1]; rfl)
    have H1 := Lib.hid h1
    clear h1
    go_enter Try.func66, Try.ntmps66
    go_wp2_with fail
    refine ((HQ.out m _ _ a b _ _ _ H1.out rfl rfl (by simp)).mono ?_)
    rintro en w1 ⟨rfl, rfl⟩
    go_wp2
    go_ret
    exact ⟨retG_b (by first | exact HF.out.symm | (rw [HW3.out]; exact HF.out.symm)), HBA.out.alloc (by simp <;> omega) _⟩
theorem inq_eq {n lo hi lo' hi' : Int} {r : Bool} {w : World} {m : Nat} (h : inB n lo' hi' = r) (h1 : lo = lo') (h2 : hi = hi') : Calls Try.prog 67 #[.int .i64 n, .int .i64 lo, .int .i64 hi] (w.drewN m) fun e w' => e = .returned (.bool r) ∧ ∃ k, w' = w.drewN k := by
  subst h1 h2; exact inq_is h
set_option maxHeartbeats 2000000 in
theorem l13Fits_any (p : Nat) (a b c e f m t o : Int) (w : World) (hm : 0 ≤ m ∧ m ≤ 320000000) (hd : (0 ≤ c ∧ c ≤ e) ∧ e ≤ 1000000 ∧ 0 ≤ f ∧ f ≤ 1000000) (c0 : w.cell? ⟨p, 0, none⟩ = some (.int .i64 a)) (c1 : w.cell? ⟨p, 1, none⟩ = some (.int .i64 b)) (c2 : w.cell? ⟨p, 2, none⟩ = some (.int .i64 c)) (c3 : w.cell? ⟨p, 3, none⟩ = some (.int .i64 e)) (c4 : w.cell? ⟨p, 4, none⟩ = some (.int .i64 f)) :
    Calls Try.prog 65 #[.pointer (some ⟨p, 0, none⟩), .int .i64 m, .int .i64 t, .int .i64 o] w fun en w' => en = .returned (.bool (fitB a b c e f m t o)) ∧ ∃ k, w' = w.drewN k := by
  obtain ⟨p0, p1⟩ := prod_bdM (A := 1000000) (Y := 320000000) (by omega) (show c ≤ 1000000 by omega) hm.1 hm.2
  obtain ⟨q0, q1⟩ := prod_bdM (A := 1000000) (Y := 320000000) (by omega) (show e ≤ 1000000 by omega) hm.1 hm.2
  obtain ⟨r0, r1⟩ := prod_bdM (A := 1000000) (Y := 320000000) (by omega) (show f ≤ 1000000 by omega) hm.1 hm.2
  have HW1 := Lib.hid (show wrap64 (c * m) = c * m from IntWalk.wrap64_in _ (by omega))
  have HW2 := Lib.hid (show wrap64 (e * m) = e * m from IntWalk.wrap64_in _ (by omega))
  have HW3 := Lib.hid (show wrap64 (f * m) = f * m from IntWalk.wrap64_in _ (by omega))
  clear p0 p1 q0 q1 r0 r1
  rcases Bool.eq_false_or_eq_true (inB m a b) with h1 | h1
  · rcases Bool.eq_false_or_eq_true (inB t (c * m) (e * m)) with h2 | h2
    · have HF := Lib.hid (show fitB a b c e f m t o = decide (o ≤ f * m) by unfold fitB; rw [h1, h2]; rfl)
      have H1 := Lib.hid h1
      have H2 := Lib.hid h2
      clear h1 h2
      go_enter Try.func65, Try.ntmps65
      go_wp2
      go_quiet ((go_at_call 67; first | exact inq_eq H1.out rfl rfl | exact inq_eq H2.out (by first | rfl | exact HW1.out) (by first | rfl | exact HW2.out)))
      go_wp2
      go_ret
      exact ⟨retG_b (by first | exact HF.out.symm | (rw [HW3.out]; exact HF.out.symm)), _, by first | rfl | rw [World.drewN_drewN]⟩
    · have HF := Lib.hid (show fitB a b c e f m t o = false by unfold fitB; rw [h1, h2]; rfl)
      have H1 := Lib.hid h1
      have H2 := Lib.hid h2
      clear h1 h2
      go_enter Try.func65, Try.ntmps65
      go_wp2
      go_quiet ((go_at_call 67; first | exact inq_eq H1.out rfl rfl | exact inq_eq H2.out (by first | rfl | exact HW1.out) (by first | rfl | exact HW2.out)))
      go_wp2
      go_ret
      exact ⟨retG_b (by first | exact HF.out.symm | (rw [HW3.out]; exact HF.out.symm)), _, by first | rfl | rw [World.drewN_drewN]⟩
  · have HF := Lib.hid (show fitB a b c e f m t o = false by unfold fitB; rw [h1]; rfl)
    have H1 := Lib.hid h1
    clear h1
    go_enter Try.func65, Try.ntmps65
    go_wp2
    go_quiet ((go_at_call 67; first | exact inq_eq H1.out rfl rfl))
    go_wp2
    go_ret
    exact ⟨retG_b (by first | exact HF.out.symm | (rw [HW3.out]; exact HF.out.symm)), _, by first | rfl | rw [World.drewN_drewN]⟩
theorem rises_none (lo hi : Int) (a : Option Addr) (cap : Nat) (w : World) :
    Calls Try.prog 78 #[.slice a 0 cap, .int .i64 lo, .int .i64 hi] w fun e w' => e = .returned (.bool (risesB lo hi [])) ∧ Below w.heap.size w w' := by
  go_enter Try.func78, Try.ntmps78
  go_wp2
  refine wp_loop_rounds 1 ?_
  rw [rounds_succ]
  go_wp2
  go_ret
  exact ⟨rfl, Below.refl _ _⟩
theorem l13Chosen_any (a : Option Addr) (L cl : Nat) (zs : List Int) (v : Value) (w : World) (hL : L ≤ 16) (h : IntsAt w v zs) :
    Calls Try.prog 60 #[.slice a L cl, v] w fun e w' => e = .returned (.bool (chB L zs)) ∧ Below w.heap.size w w' := by
  have HC := Lib.hid (show ∀ hi : Int, hi = (L : Int) - 1 → Calls Try.prog 78 #[v, .int .i64 0, .int .i64 hi] w fun e w' => e = .returned (.bool (chB L zs)) ∧ Below w.heap.size w w' from fun hi hh => by
    subst hh
    obtain ⟨hl, ⟨a2, c2, rfl, rfl⟩ | ⟨b, off, cap, rfl, hb, hc⟩⟩ := h
    · exact rises_none _ _ _ _ _
    · exact rises_any _ _ zs b off _ cap w rfl (by omega) hc)
  obtain ⟨ia, ic, rfl⟩ := ints_form h
  generalize zs.length = n at *
  have HW := Lib.hid (show wrap64 ((L : Int) - 1) = (L : Int) - 1 from IntWalk.wrap64_in _ (by omega))
  clear h
  go_enter Try.func60, Try.ntmps60
  go_wp2_with fail
  refine ((HC.out _ (by first | rfl | exact HW.out)).mono ?_)
  rintro e w1 ⟨rfl, hb⟩
  have HB := Lib.hid hb
  clear hb
  go_wp2
  go_ret
  exact ⟨rfl, HB.out⟩
theorem ret3S {a b c d e f : Int} (h : a = d) (k : b = e) (l : c = f) : Ending.returned (.tuple #[.int .i64 a, .int .i64 b, .int .i64 c]) = .returned (.tuple #[.int .i64 d, .int .i64 e, .int .i64 f]) := by rw [h, k, l]
set_option maxRecDepth 20000 in
set_option maxHeartbeats 4000000 in
theorem l13Sum_some (rs : List Gt) (v : Value) (zs : List Int) (b off cap n : Nat) (w : World) (hv : ingsB rs = true) (h : IngsAt w v rs) (hn : zs.length = n) (hr : RiseTo rs.length zs n) (hb : b < w.heap.size) (hc : ∀ j, j < n → w.cell? ⟨b, off + j, none⟩ = some (.int .i64 (zs.getD j 0))) :
    Calls Try.prog 61 #[v, .slice (some ⟨b, off, none⟩) n cap] w fun en w' => en = .returned (.tuple #[.int .i64 (sumG fM rs zs n), .int .i64 (sumG fT rs zs n), .int .i64 (sumG fO rs zs n)]) ∧ Below w.heap.size w w' := by
  have hn16 : n ≤ 16 := by have := rise_len hr; have := (ings_iff.1 hv).1; omega
  have HR := Lib.hid hr
  have HV := Lib.hid hv
  have HSB := Lib.hid (fun k (hk : k ≤ n) => sum_bd hv k (fun j hj => hr j (by omega)))
  have HIA := Lib.hid h
  have HC := Lib.hid hc
  obtain ⟨sa, sc, rfl⟩ := ings_form h
  clear hv hr h hc hn
  go_enter Try.func61, Try.ntmps61
  go_wp2
  go_loopw [7, 8, 9, 10] (fun v1 v2 v3 i wr => ∃ (k : Nat) (m t o : Int), k ≤ n ∧ i = .int .i64 k ∧ v1 = .int .i64 m ∧ v2 = .int .i64 t ∧ v3 = .int .i64 o ∧ Hid (sumG fM rs zs k = m ∧ sumG fT rs zs k = t ∧ sumG fO rs zs k = o) ∧ Hid (Below w.heap.size w wr)) (fun _ _ _ i _ => n - (intOf i).toNat)
  case atStart => exact ⟨0, 0, 0, 0, by omega, rfl, rfl, rfl, rfl, Lib.hid ⟨rfl, rfl, rfl⟩, Lib.hid (Below.refl _ _)⟩
  case round =>
    obtain ⟨k, m, t, o, hk, rfl, rfl, rfl, rfl, HE, HB⟩ := hrel
    by_cases hlt : k < n
    · have gk := (below_cell (show Below w.heap.size w wr from HB.out) b (off + k) hb).trans (HC.out k hlt)
      have hzb := rise_bd HR.out hlt
      obtain ⟨b1, b2, b3⟩ := HSB.out k hk
      obtain ⟨d1, d2, d3⟩ := HSB.out (k + 1) hlt
      have HS1 := Lib.hid (show sumG fM rs zs (k + 1) = sumG fM rs zs k + fM (rs.getD (zs.getD k 0).toNat zG) from rfl)
      have HS2 := Lib.hid (show sumG fT rs zs (k + 1) = sumG fT rs zs k + fT (rs.getD (zs.getD k 0).toNat zG) from rfl)
      have HS3 := Lib.hid (show sumG fO rs zs (k + 1) = sumG fO rs zs k + fO (rs.getD (zs.getD k 0).toNat zG) from rfl)
      obtain ⟨z, hz⟩ : ∃ z, zs.getD k 0 = z := ⟨_, rfl⟩
      rw [hz] at gk hzb HS1 HS2 HS3
      obtain ⟨zn, rfl⟩ := Int.eq_ofNat_of_zero_le hzb.1
      have hzl : zn < rs.length := by omega
      obtain ⟨c1, c2, c3⟩ := ings_bd HV.out hzl
      rw [Int.toNat_natCast] at HS1 HS2 HS3
      obtain ⟨lb, lo, lc, hle, hlb, hcl⟩ := ings_cells HIA.out (by omega)
      simp only [Value.slice.injEq] at hle
      obtain ⟨rfl, hle2, rfl⟩ := hle
      have hin := Gin_kept (show Below w.heap.size w wr from HB.out) hlb (hcl zn hzl)
      obtain ⟨⟨s, a, x, y, zz⟩, hxy⟩ : ∃ r, rs.getD zn zG = r := ⟨_, rfl⟩
      rw [hxy] at hin HS1 HS2 HS3 c1 c2 c3
      simp only [fM, fT, fO] at HS1 HS2 HS3 c1 c2 c3
      obtain ⟨e0, e1, e2, e3, e4⟩ := hin
      simp only at e0 e1 e2 e3 e4
      obtain ⟨g1, g2, g3⟩ := HE.out
      rw [g1] at b1 HS1
      rw [g2] at b2 HS2
      rw [g3] at b3 HS3
      rw [HS1.out] at d1
      rw [HS2.out] at d2
      rw [HS3.out] at d3
      obtain ⟨p0, p1⟩ := prod_bdM (A := 20000000) (Y := 1000000) (by omega) c1.2 c2.1 c2.2
      obtain ⟨q0, q1⟩ := prod_bdM (A := 20000000) (Y := 1000000) (by omega) c1.2 c3.1 c3.2
      have hk16 : (k : Int) ≤ 16 := by omega
      have hw1 : wrap64 (m + a) = m + a := IntWalk.wrap64_in _ (by omega)
      have hw2 : wrap64 (a * y) = a * y := IntWalk.wrap64_in _ (by omega)
      have hw3 : wrap64 (a * zz) = a * zz := IntWalk.wrap64_in _ (by omega)
      have hw4 : wrap64 (t + a * y) = t + a * y := IntWalk.wrap64_in _ (by omega)
      have hw5 : wrap64 (o + a * zz) = o + a * zz := IntWalk.wrap64_in _ (by omega)
      have HW := Lib.hid (show wrap64 (t + wrap64 (a * y)) = t + a * y ∧ wrap64 (o + wrap64 (a * zz)) = o + a * zz from by rw [hw2, hw3]; exact ⟨hw4, hw5⟩)
      have HK := Lib.hid (show sumG fM rs zs (k + 1) = m + a ∧ sumG fT rs zs (k + 1) = t + a * y ∧ sumG fO rs zs (k + 1) = o + a * zz from ⟨HS1.out, HS2.out, HS3.out⟩)
      have hkm : (k : Int) < (n : Int) := by omega
      have hk0 : (0 : Int) ≤ (k : Int) := by omega
      have hz0 : (0 : Int) ≤ (zn : Int) := by omega
      have hz1 : (zn : Int) < (rs.length : Int) := by omega
      have HB2 := Lib.hid (HB.out.alloc HB.out.size (.cells #[.string s, .int .i64 a, .int .i64 x, .int .i64 y, .int .i64 zz] 60))
      clear hzb hxy b1 b2 b3 c1 c2 c3 d1 d2 d3 hcl g1 g2 g3 hz hle2 p0 p1 q0 q1 HS1 HS2 HS3
      go_wp2
      go_roundw
      case rel => exact ⟨k + 1, m + a, t + a * y, o + a * zz, by omega, by go_num, by first | rfl | rw [hw1], by first | rfl | rw [hw2, hw4] | rw [hw4] | rw [HW.out.1], by first | rfl | rw [hw3, hw5] | rw [hw5] | rw [HW.out.2], HK, HB2⟩
      case measure => simp [intOf]; omega
    · obtain rfl : k = n := by omega
      go_wp2
      go_ret3
      exact ⟨ret3S HE.out.1.symm HE.out.2.1.symm HE.out.2.2.symm, HB.out⟩
theorem l13Sum_none (a a2 : Option Addr) (L cl cap : Nat) (w : World) :
    Calls Try.prog 61 #[.slice a L cl, .slice a2 0 cap] w fun en w' => en = .returned (.tuple #[.int .i64 0, .int .i64 0, .int .i64 0]) ∧ Below w.heap.size w w' := by
  go_enter Try.func61, Try.ntmps61
  go_wp2
  refine wp_loop_rounds 1 ?_
  rw [rounds_succ]
  go_wp2
  go_ret3
  exact ⟨rfl, Below.refl _ _⟩
theorem l13Sum_any (rs : List Gt) (v : Value) (zs : List Int) (vz : Value) (w : World) (hv : ingsB rs = true) (h : IngsAt w v rs) (hr : RiseTo rs.length zs zs.length) (hz : IntsAt w vz zs) :
    Calls Try.prog 61 #[v, vz] w fun en w' => en = .returned (.tuple #[.int .i64 (sumG fM rs zs zs.length), .int .i64 (sumG fT rs zs zs.length), .int .i64 (sumG fO rs zs zs.length)]) ∧ Below w.heap.size w w' := by
  obtain ⟨hl, ⟨a2, c2, rfl, rfl⟩ | ⟨b, off, cap, rfl, hb, hc⟩⟩ := hz
  · obtain ⟨a, c, rfl⟩ := ings_form h
    exact l13Sum_none a a2 _ c c2 w
  · exact l13Sum_some rs v zs b off cap _ w hv h rfl hr hb hc
end Go.Proofs.Ytikoehjalcljnaa
