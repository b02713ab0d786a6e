/- StandardModel: the program's. -/
import Derived.Test.YtpjopfhkgegahaaStdI
import Derived.Deep.RegionLaw
import Derived.Deep.AppendLies
set_option linter.unusedVariables false
namespace Go.Proofs.Ytpjopfhkgegahaa
open Go.ChangeShapes Go.WideShapes Go.ChangeAt Go.RowKit

theorem step_runQ {P : Program} {w : World} {ops : Array Oper} {o : Oper} {a : Act} {K : Act → World → Prop} {Q : Exit → Act → World → Prop} {E : Prop} (hgd : o.guard = none) (s x : Operand) (t : TypeId)
    (ho : o.op = .call { callee := .builtin .append, args := #[s, x], argTypes := #[t, t] }) (v1 v2 v' : Value) (w' : World) (hs : a.eval s = v1) (hx : a.eval x = v2) (hr : (Builtin.append_ #[t, t] o.type #[v1, v2]).run P w = .ok v' w') (h : K (a.put o.dst v') w') :
    if Region.wanted o (yielded ops a.tmps) = true then Oper.wp P o a w K Q else E := by
  have hw : Region.wanted o (yielded ops a.tmps) = true := by simp [Region.wanted, hgd]
  rw [if_pos hw]
  unfold Oper.wp execOp
  simp only [ho, resolve, invoke, builtin, Sem.run_bind, Sem.run_pure, Result.andThen_ok, List.map_toArray, List.map_cons, List.map_nil, hs, hx, hr]
  exact h
theorem wpList_runQ {P : Program} (w : World) {ops : Array Oper} {rest : List Oper} {o : Oper} {a : Act} {Q : Exit → Act → World → Prop} (hgd : o.guard = none) (s x : Operand) (t : TypeId)
    (ho : o.op = .call { callee := .builtin .append, args := #[s, x], argTypes := #[t, t] }) (v1 v2 v' : Value) (w' : World) (hs : a.eval s = v1) (hx : a.eval x = v2) (hr : (Builtin.append_ #[t, t] o.type #[v1, v2]).run P w = .ok v' w') (h : wpList P ops Q rest (a.put o.dst v') w') :
    wpList P ops Q (o :: rest) a w := by
  refine wpList_plain hgd fun K hK => ?_
  unfold Oper.wp execOp
  simp only [ho, resolve, invoke, builtin, Sem.run_bind, Sem.run_pure, Result.andThen_ok, List.map_toArray, List.map_cons, List.map_nil, hs, hx, hr]
  exact hK _ _ h
section
variable {w w2 wA : World} {B bx m k C1 C2 : Nat} {A1 A2 : Option Addr} {y0 y1 y2 u : Value} {us : List Value} {zs z : List Int} {ws : List (List Int)}
theorem std_app1 (ty : TypeId) (hS : StdSt w B bx m y0 (.slice A1 k C1) y2 us zs ws) (hk : ws.length = k) (hk8 : k ≤ 8) (hb : Below w.heap.size w w2) (hu : OwnInts w2 w.heap.size u z) (hA : Below B wA w) :
    ∃ A5 C5 w5, (Builtin.append_ #[23, 23] ty #[.slice A1 k C1, .slice (some ⟨w2.heap.size, 0, none⟩) 1 1]).run Try.prog (w2.alloc (.cells #[u] 22)) = .ok (.slice A5 (k + 1) C5) w5 ∧
      (w2.cell? ⟨bx, 1, none⟩ = some (.slice A1 k C1) ∧ (w2.alloc (.cells #[u] 22)).cell? ⟨bx, 1, none⟩ = some (.slice A1 k C1)) ∧ (w5.cell? ⟨bx, 1, none⟩ = some (.slice A1 k C1) ∧ w5.frozen? ⟨bx, 1, none⟩ = false) ∧
      StdSt (w5.setCell ⟨bx, 1, none⟩ (.slice A5 (k + 1) C5)) B bx m y0 (.slice A5 (k + 1) C5) y2 (us ++ [u]) zs (ws ++ [z]) ∧ Below B wA w5 := by
  obtain ⟨j0, hj, hy0, hy1, hy2⟩ := info_parts infoSlQ
  subst hk
  have hs3 := std_kept hb hS
  have hbA := below_al w2 (.cells #[u] 22)
  have hs4 := std_kept hbA hs3
  have hou4 := own_kept hbA hu
  obtain ⟨gu, eu, hu1, hu2⟩ := ownInts_block hu
  have hBw : B ≤ w.heap.size := by have := hS.le; have := hS.lt; omega
  have hone : u.oneCell' = true := by
    obtain ⟨g9, c9, e9, -⟩ := hu; rw [e9]; rfl
  obtain ⟨v', w5, hr, hown, hgrow, -, hat⟩ := run_append_own_at (P := Try.prog) (w2.alloc (.cells #[u] 22)) B 23 ty 22 j0 _ 1 24 Try.underlying23 hj hy0 hy1 hy2 rfl (by omega) _ _ us hs4.row1 ⟨w2.heap.size, 0, none⟩ 1 1 [u] rfl (cell_one_new _ _ _) (by intro x hx; simp at hx; subst hx; exact hone) (by unfold maxLen; omega) (by omega) (by have := hb.size; simp; omega)
  obtain ⟨A5, C5, rfl⟩ := row_formQ hown
  refine ⟨A5, C5, w5, hr, ⟨hs3.c1, hs4.c1⟩, ⟨(gb_blkQ hgrow hs4.lt (Ne.symm hs4.far1)).trans hs4.c1, (gb_frzQ hgrow hs4.lt (Ne.symm hs4.far1)).trans (hs4.fz 1)⟩, ?_, ?_⟩
  · exact std_row1 hs4 (ownInts_base hou4 hBw) (fun j hj => by
      obtain ⟨g, e, -, hl⟩ := ownInts_block (hS.own.each j (by simpa using hj))
      rw [e, eu]; intro e2; have := Option.some.inj e2; omega)
      (by rw [eu]; intro e2; have := (hS.row2.lt gu e2).2; omega) (by rw [eu]; intro e2; have := Option.some.inj e2; have := hS.lt; omega) hown hgrow hat
  · have h1 : Below B wA w2 := ⟨hb.os.trans hA.os, hb.tape.trans hA.tape, hb.output.trans hA.output, Nat.le_trans hA.size hb.size, fun j hj => (hb.block j (by omega)).trans (hA.block j hj)⟩
    have h2 : Below B wA (w2.alloc (.cells #[u] 22)) := ⟨hbA.os.trans h1.os, hbA.tape.trans h1.tape, hbA.output.trans h1.output, Nat.le_trans h1.size hbA.size, fun j hj => (hbA.block j (by have := hb.size; omega)).trans (h1.block j hj)⟩
    exact ⟨hgrow.os.trans h2.os, hgrow.tape.trans h2.tape, hgrow.output.trans h2.output, Nat.le_trans h2.size hgrow.size, fun j hj => (hgrow.block j (by have := hb.size; simp; omega) (fun e => by have := (hs4.row1.lt j e.symm).1; omega)).trans (h2.block j hj)⟩
theorem std_app2 (ty : TypeId) (hS : StdSt w B bx m y0 y1 (.slice A2 m C2) us zs ws) (hm8 : m ≤ 8) (hA : Below B wA w) :
    ∃ A5 C5 w5, (Builtin.append_ #[22, 22] ty #[.slice A2 m C2, .slice (some ⟨w.heap.size, 0, none⟩) 1 1]).run Try.prog (w.alloc (.cells #[.int .i64 1000] 2)) = .ok (.slice A5 (m + 1) C5) w5 ∧
      (w5.cell? ⟨bx, 2, none⟩ = some (.slice A2 m C2) ∧ w5.frozen? ⟨bx, 2, none⟩ = false) ∧
      StdSt (w5.setCell ⟨bx, 2, none⟩ (.slice A5 (m + 1) C5)) B bx (m + 1) y0 y1 (.slice A5 (m + 1) C5) us zs ws ∧ Below B wA w5 := by
  obtain ⟨i0, hi, hz0, hz1, hz2⟩ := info_parts infoI64
  have hbA := below_al w (.cells #[.int .i64 1000] 2)
  have hs4 := std_kept hbA hS
  have hBw : B ≤ w.heap.size := by have := hS.le; have := hS.lt; omega
  obtain ⟨v', w5, hr, hown, hgrow, -, hat⟩ := run_append_own_at (P := Try.prog) (w.alloc (.cells #[.int .i64 1000] 2)) B 22 ty 2 i0 _ 1 8 Try.underlying22 hi hz0 hz1 hz2 rfl (by omega) _ _ _ hs4.row2 ⟨w.heap.size, 0, none⟩ 1 1 [.int .i64 1000] rfl (cell_one_new _ _ _) (by intro x hx; simp at hx; subst hx; rfl) (by unfold maxLen; omega) (by omega) (by simp; omega)
  rw [thou_next] at hown
  obtain ⟨A5, C5, rfl⟩ := row_formQ hown
  refine ⟨A5, C5, w5, hr, ⟨(gb_blkQ hgrow hs4.lt (Ne.symm hs4.far2)).trans hs4.c2, (gb_frzQ hgrow hs4.lt (Ne.symm hs4.far2)).trans (hs4.fz 2)⟩, std_row2 hs4 hown hgrow hat, ?_⟩
  have h2 : Below B wA (w.alloc (.cells #[.int .i64 1000] 2)) := ⟨hbA.os.trans hA.os, hbA.tape.trans hA.tape, hbA.output.trans hA.output, Nat.le_trans hA.size hbA.size, fun j hj => (hbA.block j (by omega)).trans (hA.block j hj)⟩
  exact ⟨hgrow.os.trans h2.os, hgrow.tape.trans h2.tape, hgrow.output.trans h2.output, Nat.le_trans h2.size hgrow.size, fun j hj => (hgrow.block j (by simp; omega) (fun e => by have := (hs4.row2.lt j e.symm).1; omega)).trans (h2.block j hj)⟩
end
set_option maxHeartbeats 4000000 in
set_option maxRecDepth 100000 in
theorem implStd_any (zs : List Int) (v : Value) (w : World) (h : IntsAt w v zs) :
    Calls Try.prog 7 #[v] w (ModU (stZ zs) (stL zs) (stB zs) (stC zs) w) := by
  have hba := below_al w (.cells #[.slice none 0 0, .slice none 0 0, .slice none 0 0] 25)
  have hbl := blankS_alloc w 25
  have hsa : (w.alloc (.cells #[.slice none 0 0, .slice none 0 0, .slice none 0 0] 25)).heap.size = w.heap.size + 1 := by simp
  have HZ := Lib.hid (zvalid_any zs v _ (ints_kept hba h))
  have hia := ints_kept hba h
  rcases Bool.eq_false_or_eq_true (zonesB zs) with hz | hz
  · obtain ⟨e1, e2, e3, e4⟩ := st_yes hz
    rw [e1, e2, e3, e4]
    obtain ⟨z1, z8⟩ := zones_len hz
    have HLC := Lib.hid (fun W (hW : Below (w.alloc (.cells #[.slice none 0 0, .slice none 0 0, .slice none 0 0] 25)).heap.size (w.alloc (.cells #[.slice none 0 0, .slice none 0 0, .slice none 0 0] 25)) W) => listCopy_any zs v W (ints_kept hW hia) z1 z8)
    have HBLK := Lib.hid (fun W (hW : Below (w.alloc (.cells #[.slice none 0 0, .slice none 0 0, .slice none 0 0] 25)).heap.size (w.alloc (.cells #[.slice none 0 0, .slice none 0 0, .slice none 0 0] 25)) W) => blankS_kept (g := w.heap.size) hW (by rw [hsa]; omega) hbl)
    have HBA := Lib.hid hba
    have HSA := Lib.hid hsa
    rw [hz] at HZ
    obtain ⟨a, c, rfl⟩ := ints_form h
    obtain ⟨n, hn⟩ : ∃ n, zs.length = n := ⟨_, rfl⟩
    rw [hn] at HLC HZ z1 z8 ⊢
    clear hba hbl hsa e1 e2 e3 e4 h hia
    go_enter Try.func7, Try.ntmps7
    go_wp2_with fail
    generalize w.alloc (.cells #[.slice none 0 0, .slice none 0 0, .slice none 0 0] 25) = wA at *
    refine HZ.out.mono ?_
    rintro e w1 ⟨rfl, hb⟩
    have HB1 := Lib.hid hb
    clear hb
    go_wp2_with fail
    refine (HLC.out w1 HB1.out).mono ?_
    rintro e w2 ⟨y0, rfl, ho, hb⟩
    obtain ⟨g0, k0, e0, -⟩ := id ho
    rw [hn] at e0
    subst e0
    have hB1 : wA.heap.size ≤ w1.heap.size := HB1.out.size
    have HB2 := Lib.hid (below_of HB1.out hb HB1.out.size)
    have HST := Lib.hid (std_start0 w2 wA.heap.size _ zs (ownInts_base ho hB1) HB2.out.size)
    have HB3 := Lib.hid (below_of HB2.out (below_al w2 (.cells #[.slice (some ⟨g0, 0, none⟩) n k0, .slice none 0 0, .slice none 0 0] 25)) HB2.out.size)
    clear ho hb
    go_wp2
    generalize hw3 : w2.alloc (.cells #[.slice (some ⟨g0, 0, none⟩) n k0, .slice none 0 0, .slice none 0 0] 25) = w3 at *
    clear hw3
    go_loopw [13] (fun i wr => ∃ (k : Nat) (A1 : Option Addr) (C1 : Nat) (A2 : Option Addr) (C2 : Nat) (us : List Value), k ≤ 5 ∧ i = .int .i64 k ∧ Hid (StdSt wr wA.heap.size w2.heap.size k (.slice (some ⟨g0, 0, none⟩) n k0) (.slice A1 k C1) (.slice A2 k C2) us zs (stWs n k)) ∧ Hid (Below wA.heap.size wA wr)) (fun i _ => 5 - (intOf i).toNat)
    case atStart => exact ⟨0, none, 0, none, 0, [], by omega, rfl, HST, HB3⟩
    case round =>
      obtain ⟨k, A1, C1, A2, C2, us, hk, rfl, HS, HB⟩ := hrel
      generalize hwk : wr = wk at *
      clear hwk
      by_cases hlt : k < 5
      · have hk5 : (k : Int) < 5 := by omega
        have HROW := Lib.hid (fun W => stRow_any k n W hlt z1 z8)
        have c1 := HS.out.c1
        have HAPP := Lib.hid (fun (w4 : World) (u : Value) (hb5 : Below wk.drew.heap.size wk.drew w4) (hu : OwnInts w4 wk.drew.heap.size u (stRow n k)) => (have hb6 : Below wk.heap.size wk w4 := ⟨hb5.os, hb5.tape, hb5.output, hb5.size, hb5.block⟩
          have := std_app1 23 HS.out (stWs_len n k) (by omega) hb6 hu HB.out
          by rw [← stWs_next] at this; exact this))
        go_wp2
        go_region_law (first
          | (refine step_runQ rfl (.tmp 17) (.tmp 22) 23 rfl _ _ _ _ (by simp [Act.eval]) (by simp [Act.eval]) hr5 ?_)
          | (go_simp; go_at_call 24; refine (HROW.out _).mono ?_; rintro en w4 ⟨u, rfl, ho, hb5⟩; obtain ⟨gu, cu, eu, -⟩ := id ho; rw [stRow_len] at eu; subst eu; obtain ⟨A5, C5, w5, hr5, ⟨q1, q2⟩, ⟨q3, q4⟩, hs5, hb6⟩ := HAPP.out w4 _ hb5 ho))
        all_goals
          have HS5 := Lib.hid hs5
          have HB5 := Lib.hid (hb6.setCell (p := ⟨w2.heap.size, 1, none⟩) (by exact HB2.out.size) (.slice A5 (k + 1) C5))
          clear hr5 q1 q2 q3 q4 hs5 hb6 ho hb5 c1
          generalize hwx : w5.setCell ⟨w2.heap.size, 1, none⟩ (.slice A5 (k + 1) C5) = wX at *
          clear hwx
          obtain ⟨A6, C6, w6, hr6, ⟨p3, p4⟩, hs6, hb7⟩ := std_app2 22 HS5.out (by omega) HB5.out
          have c2 := HS5.out.c2
          have HS6 := Lib.hid hs6
          have HB6 := Lib.hid (hb7.setCell (p := ⟨w2.heap.size, 2, none⟩) (by exact HB2.out.size) (.slice A6 (k + 1) C6))
          clear hs6 hb7
          go_wp2_with (at_builtin; refine wpList_runQ _ rfl (.tmp 26) (.tmp 27) 22 rfl _ _ _ _ rfl rfl hr6 ?_)
          go_roundw
          case rel => exact ⟨k + 1, A5, C5, A6, C6, _, by omega, by go_num, HS6, HB6⟩
          case measure => simp [intOf]; omega
      · obtain rfl : k = 5 := by omega
        have HM := Lib.hid (fun (w5 : World) hg => std_end (w5 := w5) (r := w.heap.size) (B' := w.heap.size) HS.out (by omega) (by rw [stWs_len]; omega) (by rw [HSA.out]; omega) (by rw [HSA.out]; omega) hg)
        obtain ⟨⟨r0, r1, r2⟩, f0, f1, f2⟩ := HBLK.out wk HB.out
        have c0 := HS.out.c0
        have c1 := HS.out.c1
        have c2 := HS.out.c2
        have HBF := Lib.hid (below_of HBA.out HB.out HBA.out.size)
        clear HS
        go_wp2
        try simp only [Exit.inBlock, Exit.then]
        refine bodyPost_ret_by (v := .tuple #[.agg #[.slice (some ⟨g0, 0, none⟩) n k0, .slice A1 5 C1, .slice A2 5 C2], .int .i64 0]) (by rw [results_cellM rfl]; go_simp) rfl ?_
        exact ⟨_, _, _, rfl, .inr (HM.out _ ((gb_setQ _ _ _ _).trans ((gb_setQ _ _ _ _).trans (gb_setQ _ _ _ _)))), ((HBF.out.setCell (by exact Nat.le_refl _) _).setCell (by exact Nat.le_refl _) _).setCell (by exact Nat.le_refl _) _⟩
  · obtain ⟨e1, e2, e3, e4⟩ := st_no hz
    rw [e1, e2, e3, e4]
    have HBLK := Lib.hid (fun W (hW : Below (w.alloc (.cells #[.slice none 0 0, .slice none 0 0, .slice none 0 0] 25)).heap.size (w.alloc (.cells #[.slice none 0 0, .slice none 0 0, .slice none 0 0] 25)) W) => blankS_kept (g := w.heap.size) hW (by rw [hsa]; omega) hbl)
    have HBA := Lib.hid hba
    rw [hz] at HZ
    clear hba hbl hsa e1 e2 e3 e4 h hia
    go_enter Try.func7, Try.ntmps7
    go_wp2_with fail
    generalize w.alloc (.cells #[.slice none 0 0, .slice none 0 0, .slice none 0 0] 25) = wA at *
    refine HZ.out.mono ?_
    rintro e w1 ⟨rfl, hb⟩
    obtain ⟨⟨r0, r1, r2⟩, f0, f1, f2⟩ := HBLK.out w1 hb
    have HBF := Lib.hid (below_of HBA.out hb HBA.out.size)
    clear hb
    go_wp2
    try simp only [Exit.inBlock, Exit.then]
    refine bodyPost_ret_by (v := .tuple #[.agg #[.slice none 0 0, .slice none 0 0, .slice none 0 0], .int .i64 1]) (by rw [results_cellM rfl]; go_simp) rfl ?_
    exact ⟨_, _, _, rfl, .inl ⟨rfl, rfl, rfl, rfl, rfl, rfl⟩, ((HBF.out.setCell (by exact Nat.le_refl _) _).setCell (by exact Nat.le_refl _) _).setCell (by exact Nat.le_refl _) _⟩
theorem st_size (zs : List Int) : (stZ zs).length + ((stL zs).length + lenS (stL zs) (stL zs).length) + (stB zs).length ≤ 1048576 := by
  rcases Bool.eq_false_or_eq_true (zonesB zs) with h | h
  · obtain ⟨e1, e2, e3, -⟩ := st_yes h
    have := zones_len h
    rw [e1, e2, e3, show stWs zs.length 5 = [stRow zs.length 0, stRow zs.length 1, stRow zs.length 2, stRow zs.length 3, stRow zs.length 4] from rfl]
    simp [lenS, sumL, stRow_len, thou_len]
    omega
  · obtain ⟨e1, e2, e3, -⟩ := st_no h
    rw [e1, e2, e3]
    simp [lenS, sumL]
end Go.Proofs.Ytpjopfhkgegahaa
