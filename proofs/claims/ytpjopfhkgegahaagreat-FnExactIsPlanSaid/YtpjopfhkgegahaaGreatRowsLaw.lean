/- What the laws do with slices of slices of numbers: measured, copied, compared. -/
import Derived.Test.YtpjopfhkgegahaaGreatG1
import Derived.BigRegion
import Derived.Deep.QuietTactic
import Derived.BigQuiet
import Derived.Deep.RegionWith
namespace Go.Proofs.YtpjopfhkgegahaaGreat
open Go.ChangeShapes Go.WideShapes Go.ChangeAt Go.RowKit

theorem infoSl : (Tryz.prog.info? 22).map (fun i => (i.zero, i.size, i.bytes)) = some (some (.slice none 0 0), 1, 24) := by kernel_rfl
theorem made_sl (n : Nat) : (madeCells (Value.slice none 0 0).cells (n * 1)).toList = List.replicate n (.slice none 0 0) := by
  unfold madeCells
  rw [Nat.mul_one]
  apply List.ext_getElem?
  intro j
  by_cases h : j < n
  · simp [h, Value.cells, Nat.mod_one]
  · simp [h]
theorem ownInts_base {w : World} {B B' : Nat} {v : Value} {zs : List Int} (h : OwnInts w B v zs) (hB : B' ≤ B) : OwnInts w B' v zs := by
  obtain ⟨g, cap, rfl, h1, h2, h3, h4⟩ := h
  refine ⟨g, cap, rfl, by omega, h2, h3, ?_⟩
  rcases h4 with h | ⟨g', cap', cur, e, hb, rest⟩
  · exact .inl h
  · exact .inr ⟨g', cap', cur, e, by omega, rest⟩
theorem ownInts_set {w : World} {B : Nat} {v : Value} {zs : List Int} (h : OwnInts w B v zs) (b o : Nat) (x : Value) (hb : b < B) : OwnInts (w.setCell ⟨b, o, none⟩ x) B v zs := by
  obtain ⟨g, cap, rfl, h1, h2, hown⟩ := h
  refine ⟨g, cap, rfl, h1, by simpa using h2, hown.kept (row := some b) ⟨rfl, rfl, rfl, by simp, fun k _ hk => Below.heap_setCell _ _ _ _ (by intro e; exact hk (by simp only at e; rw [e]))⟩ (.inr (by simp [Value.ownBlock]; omega))⟩
theorem getD_snoc_old {α : Type} (us : List α) (u d : α) (j : Nat) (h : j < us.length) : (us ++ [u]).getD j d = us.getD j d := by
  rw [List.getD_eq_getElem?_getD, List.getD_eq_getElem?_getD, List.getElem?_append_left h]
theorem getD_snoc_new {α : Type} (us : List α) (u d : α) (j : Nat) (h : j = us.length) : (us ++ [u]).getD j d = u := by
  subst h
  rw [List.getD_eq_getElem?_getD, List.getElem?_append_right (Nat.le_refl _)]; simp
theorem rowsOwn_nil (w : World) (B : Nat) : RowsOwn w B [] [] := ⟨rfl, fun j hj => by simp at hj, fun i j _ hj => by simp at hj⟩
theorem rowsOwn_snoc {w : World} {B : Nat} {us : List Value} {ws : List (List Int)} {u : Value} {z : List Int} (h : RowsOwn w B us ws) (hu : OwnInts w B u z)
    (hne : ∀ j, j < ws.length → (us.getD j undef).ownBlock ≠ u.ownBlock) : RowsOwn w B (us ++ [u]) (ws ++ [z]) := by
  have hl := h.len
  refine ⟨by simp [hl], fun j hj => ?_, fun i j hij hj => ?_⟩
  · rw [List.length_append, List.length_singleton] at hj
    by_cases e : j = ws.length
    · rw [getD_snoc_new _ _ _ _ (by omega), getD_snoc_new _ _ _ _ e]; exact hu
    · rw [getD_snoc_old _ _ _ _ (by omega), getD_snoc_old _ _ _ _ (by omega)]; exact h.each j (by omega)
  · rw [List.length_append, List.length_singleton] at hj
    by_cases e : j = ws.length
    · rw [getD_snoc_new us u _ j (by omega), getD_snoc_old _ _ _ _ (by omega)]; exact hne i (by omega)
    · rw [getD_snoc_old _ _ _ _ (by omega), getD_snoc_old _ _ _ _ (by omega)]; exact h.apart i j hij (by omega)
theorem ownInts_block {w : World} {B : Nat} {v : Value} {zs : List Int} (h : OwnInts w B v zs) : ∃ g, v.ownBlock = some g ∧ B ≤ g ∧ g < w.heap.size := by
  obtain ⟨g, cap, rfl, h1, h2, _⟩ := h
  exact ⟨g, rfl, h1, h2⟩
theorem rowsOwn_new {w w' : World} {B : Nat} {us : List Value} {ws : List (List Int)} {u : Value} {z : List Int} (hb : Below w.heap.size w w') (h : RowsOwn w B us ws) (hB : B ≤ w.heap.size) (hu : OwnInts w' w.heap.size u z) : RowsOwn w' B (us ++ [u]) (ws ++ [z]) := by
  refine rowsOwn_snoc (rowsOwn_kept hb h) (ownInts_base hu hB) fun j hj e => ?_
  obtain ⟨g1, e1, _, h1⟩ := ownInts_block (h.each j hj)
  obtain ⟨g2, e2, h2, _⟩ := ownInts_block hu
  rw [e1, e2] at e
  simp only [Option.some.injEq] at e
  omega
theorem rowsOwn_set {w : World} {B : Nat} {us : List Value} {ws : List (List Int)} (h : RowsOwn w B us ws) (b o : Nat) (x : Value) (hb : b < B) : RowsOwn (w.setCell ⟨b, o, none⟩ x) B us ws :=
  ⟨h.len, fun j hj => ownInts_set (h.each j hj) b o x hb, h.apart⟩
theorem rowsOwn_base {w : World} {B B' : Nat} {us : List Value} {ws : List (List Int)} (h : RowsOwn w B us ws) (hB : B' ≤ B) : RowsOwn w B' us ws :=
  ⟨h.len, fun j hj => ownInts_base (h.each j hj) hB, h.apart⟩
theorem take_snoc {α : Type} (xs : List α) (k : Nat) (d : α) (h : k < xs.length) : xs.take (k + 1) = xs.take k ++ [xs.getD k d] := by
  rw [List.take_succ_eq_append_getElem h, List.getD_eq_getElem?_getD, List.getElem?_eq_getElem h]; rfl
/-- The rows so far, and the empty ones behind. -/
def rowsTo (us : List Value) (n : Nat) : List Value := us ++ List.replicate (n - us.length) (.slice none 0 0)
theorem rowsTo_len (us : List Value) (n : Nat) (h : us.length ≤ n) : (rowsTo us n).length = n := by simp [rowsTo]; omega
theorem rowsTo_at (us : List Value) (n k : Nat) (hk : us.length = k) (h : k < n) : (rowsTo us n)[k]? = some (.slice none 0 0) := by
  unfold rowsTo
  rw [List.getElem?_append_right (by omega), hk, Nat.sub_self, List.getElem?_replicate]
  simp; omega
theorem rowsTo_next (us : List Value) (n k : Nat) (u : Value) (hk : us.length = k) (h : k < n) : (rowsTo us n).set k u = rowsTo (us ++ [u]) n := by
  unfold rowsTo
  rw [List.length_append, List.length_singleton, hk, show n - k = n - (k + 1) + 1 from by omega, List.replicate_succ, List.set_append_right _ _ (by omega), hk, Nat.sub_self, List.set_cons_zero]
  simp
theorem rowsTo_all (us : List Value) (n : Nat) (hk : us.length = n) : rowsTo us n = us := by unfold rowsTo; rw [hk, Nat.sub_self]; simp

set_option maxHeartbeats 2000000 in
set_option maxRecDepth 100000 in
theorem toRows_some (ws : List (List Int)) (b off cap : Nat) (w : World) (hl : ws.length ≤ 1048576) (hlt : b < w.heap.size) (hc : ∀ j, j < ws.length → ∃ u, w.cell? ⟨b, off + j, none⟩ = some u ∧ IntsAt w u (ws.getD j [])) (n : Nat) (hn : Hid (ws.length = n)) :
    Calls Tryz.prog 26 #[.slice (some ⟨b, off, none⟩) n cap] w fun e w' => ∃ v, e = .returned v ∧ OwnRows w' w.heap.size v ws ∧ Below w.heap.size w w' := by
  obtain ⟨i0, hi, hz0, hz1, hz2⟩ := info_parts infoSl
  have hn1 : n ≤ 1048576 := by rw [← hn.out]; exact hl
  have HC := Lib.hid hc
  clear hc hl
  go_enter Tryz.func26, Tryz.ntmps26
  go_wp2_with (at_make; refine wpList_make_full _ rfl _ _ 23 rfl w.heap.size 22 i0 (.slice none 0 0) 1 Tryz.underlying23 hi hz0 hz1 .i64 .i64 _ _ n rfl rfl rfl rfl (by rw [hz2]; omega) (by unfold maxLen; omega) (Nat.le_refl _) ?_; intro w0 hown hgrow)
  have HB0 := Lib.hid ((Below.refl w.heap.size w).grown hgrow (Nat.le_refl _) (fun k hk => by cases hk))
  rw [made_sl] at hown
  have HO0 := Lib.hid (show w0.ownsRow w.heap.size 22 1 (.slice (some ⟨w.heap.size, 0, none⟩) n n) n (rowsTo [] n) by unfold rowsTo; simpa using hown)
  clear hgrow hown
  go_wp2
  go_loopw [4] (fun i wr => ∃ (k : Nat) (us : List Value), k ≤ n ∧ i = .int .i64 k ∧ Hid (us.length = k) ∧ wr.ownsRow w.heap.size 22 1 (.slice (some ⟨w.heap.size, 0, none⟩) n n) n (rowsTo us n) ∧ Hid (RowsOwn wr (w.heap.size + 1) us (ws.take k)) ∧ Below w.heap.size w wr) (fun i _ => n - (intOf i).toNat)
  case atStart => exact ⟨0, [], by omega, rfl, rfl, HO0.out, Lib.hid (by rw [List.take_zero]; exact rowsOwn_nil _ _), HB0.out⟩
  case round =>
    obtain ⟨k, us, hk, rfl, HL, hown, HR, hbw⟩ := hrel
    have HO := Lib.hid hown
    have HB := Lib.hid hbw
    by_cases hlt2 : k < n
    · obtain ⟨u, hu, hz⟩ := HC.out k (by rw [hn.out]; exact hlt2)
      have hu2 : wr.cell? ⟨b, off + k, none⟩ = some u := by rw [hbw.cell (p := ⟨b, off + k, none⟩) hlt]; exact hu
      have HZ := Lib.hid (ints_kept hbw hz)
      obtain ⟨ua, uc, rfl⟩ := ints_form hz
      have HT := Lib.hid (take_snoc ws k [] (by rw [hn.out]; exact hlt2))
      have hkn : (k : Int) < (n : Int) := by omega
      have hk0 : (0 : Int) ≤ (k : Int) := by omega
      generalize ws.getD k [] = z at *
      clear hown hbw hz hu
      go_wp2_with fail
      refine (toInts_any z _ _ HZ.out).mono ?_
      rintro e w2 ⟨v2, rfl, hv2, hb2⟩
      have HO2 := Lib.hid (row_keep1 hb2 HO.out)
      have HB2 := Lib.hid (below_of HB.out hb2 HB.out.size)
      have hsz : w.heap.size + 1 ≤ wr.heap.size := (HO.out.lt _ rfl).2
      have HR2 := Lib.hid (rowsOwn_new hb2 HR.out hsz hv2)
      have hf := HO2.out.frozenAt k
      have hat : w2.cell? ⟨w.heap.size, k, none⟩ = some (.slice none 0 0) := by rw [HO2.out.cellAt k (by omega)]; exact rowsTo_at us n k HL.out hlt2
      obtain ⟨g2, c2, rfl, -⟩ := hv2
      have HS := Lib.hid (HO2.out.stored k (.slice (some ⟨g2, 0, none⟩) z.length c2)).1
      have HN := Lib.hid (rowsTo_next us n k (.slice (some ⟨g2, 0, none⟩) z.length c2) HL.out hlt2)
      clear hb2
      generalize z.length = zl at *
      go_wp2
      go_roundw
      case rel => exact ⟨k + 1, us ++ [.slice (some ⟨g2, 0, none⟩) zl c2], by omega, by go_num, Lib.hid (by rw [List.length_append, HL.out]; rfl), by rw [← HN.out]; exact HS.out, Lib.hid (by rw [HT.out]; exact rowsOwn_set HR2.out _ _ _ (Nat.lt_succ_self _)), HB2.out.setCell (Nat.le_refl _) _⟩
      case measure => simp [intOf]; omega
    · obtain rfl : k = n := by omega
      clear hown hbw
      rw [rowsTo_all _ _ HL.out] at HO
      have HRR := Lib.hid (show RowsOwn wr (w.heap.size + 1) us ws by have := HR.out; rwa [List.take_of_length_le (by rw [hn.out]; exact Nat.le_refl _)] at this)
      go_wp2
      go_ret
      refine ⟨.slice (some ⟨w.heap.size, 0, none⟩) k k, rfl, ⟨w.heap.size, k, us, by rw [hn.out], Nat.le_refl _, (HO.out.lt _ rfl).2, by rw [hn.out]; exact HO.out, rowsOwn_base HRR.out (Nat.le_succ _), fun j hj e => ?_⟩, HB.out⟩
      obtain ⟨g1, e1, h1, _⟩ := ownInts_block (HRR.out.each j hj)
      rw [e1] at e
      simp only [Option.some.injEq] at e
      omega
set_option maxRecDepth 100000 in
theorem toRows_none (a : Option Addr) (c : Nat) (w : World) :
    Calls Tryz.prog 26 #[.slice a 0 c] w fun e w' => ∃ v, e = .returned v ∧ OwnRows w' w.heap.size v [] ∧ Below w.heap.size w w' := by
  obtain ⟨i0, hi, hz0, hz1, hz2⟩ := info_parts infoSl
  go_enter Tryz.func26, Tryz.ntmps26
  go_wp2_with (at_make; refine wpList_make_full _ rfl _ _ 23 rfl w.heap.size 22 i0 (.slice none 0 0) 1 Tryz.underlying23 hi hz0 hz1 .i64 .i64 _ _ 0 rfl rfl rfl rfl (by omega) (by unfold maxLen; omega) (Nat.le_refl _) ?_; intro w0 hown hgrow)
  have HB0 := Lib.hid ((Below.refl w.heap.size w).grown hgrow (Nat.le_refl _) (fun k hk => by cases hk))
  rw [made_sl] at hown
  have HO0 := Lib.hid hown
  clear hgrow hown
  go_wp2
  refine wp_loop_rounds 1 ?_
  rw [rounds_succ]
  go_wp2
  go_ret
  exact ⟨_, rfl, ⟨w.heap.size, 0, [], rfl, Nat.le_refl _, (HO0.out.lt _ rfl).2, HO0.out, rowsOwn_nil _ _, fun j hj => by simp at hj⟩, HB0.out⟩
def CopyRows (w : World) (ws : List (List Int)) (e : Ending) (w' : World) : Prop := ∃ v, e = .returned v ∧ OwnRows w' w.heap.size v ws ∧ Below w.heap.size w w'
theorem toRows_any (ws : List (List Int)) (v : Value) (w : World) (h : RowsAt w v ws) : Calls Tryz.prog 26 #[v] w (CopyRows w ws) := by
  obtain ⟨hl, ⟨a, c, rfl, rfl⟩ | ⟨b, off, cap, rfl, hlt, hc⟩⟩ := h
  · exact toRows_none a c w
  · exact toRows_some ws b off cap w hl hlt hc _ (Lib.hid rfl)
theorem eqInts_at (zs : List Int) (v1 v2 : Value) (w : World) (h1 : IntsAt w v1 zs) (h2 : IntsAt w v2 zs) :
    Calls Tryz.prog 33 #[v1, v2] w fun e w' => e = .returned (.bool true) ∧ Below w.heap.size w w' := by
  obtain ⟨hl, ⟨a, c, rfl, rfl⟩ | ⟨b, off, cap, rfl, hb, hc⟩⟩ := h1
  · obtain ⟨a2, c2, rfl⟩ := ints_form h2
    exact eqInts_zero a a2 c c2 w
  · obtain ⟨_, ⟨a, c, rfl, rfl⟩ | ⟨b2, off2, cap2, rfl, hb2, hc2⟩⟩ := h2
    · exact eqInts_zero _ _ _ _ w
    · exact eqInts_some zs b off cap b2 off2 cap2 w _ hl hc hc2
set_option maxHeartbeats 1000000 in
theorem eqRowsM_some (ws : List (List Int)) (b o c b2 o2 c2 : Nat) (w : World) (n : Nat) (hn1 : n ≤ 1048576) (hb : b < w.heap.size) (hb2 : b2 < w.heap.size)
    (h1 : ∀ j, j < n → ∃ u, w.cell? ⟨b, o + j, none⟩ = some u ∧ IntsAt w u (ws.getD j [])) (h2 : ∀ j, j < n → ∃ u, w.cell? ⟨b2, o2 + j, none⟩ = some u ∧ IntsAt w u (ws.getD j [])) :
    Calls Tryz.prog 34 #[.slice (some ⟨b, o, none⟩) n c, .slice (some ⟨b2, o2, none⟩) n c2] w fun e w' => e = .returned (.bool true) ∧ Below w.heap.size w w' := by
  have H1 := Lib.hid h1
  have H2 := Lib.hid h2
  clear h1 h2
  have hne : ((n : Int) != n) = false := by simp
  go_enter Tryz.func34, Tryz.ntmps34
  go_wp2
  go_loopw [5] (fun i wr => ∃ k : Nat, k ≤ n ∧ i = .int .i64 k ∧ Below w.heap.size w wr) (fun i _ => n - (intOf i).toNat)
  case atStart => exact ⟨0, by omega, rfl, Below.refl _ _⟩
  case round =>
    obtain ⟨k, hk, rfl, hbw⟩ := hrel
    have HB := Lib.hid hbw
    clear hbw
    by_cases hlt : k < n
    · obtain ⟨u1, d1, z1⟩ := H1.out k hlt
      obtain ⟨u2, d2, z2⟩ := H2.out k hlt
      rw [← HB.out.cell (p := ⟨b, _, none⟩) hb] at d1
      rw [← HB.out.cell (p := ⟨b2, _, none⟩) hb2] at d2
      have Z1 := Lib.hid (ints_kept HB.out z1)
      have Z2 := Lib.hid (ints_kept HB.out z2)
      clear z1 z2
      generalize ws.getD k [] = z at *
      have hlt1 : (k : Int) < (n : Int) := by omega
      have hk0 : (0 : Int) ≤ (k : Int) := by omega
      go_wp2
      go_region_with (go_at_call 33; refine (eqInts_at z u1 u2 wr.drew (ints_kept (w := wr) (w' := wr.drew) ⟨rfl, rfl, rfl, Nat.le_refl _, fun _ _ => rfl⟩ Z1.out) (ints_kept (w := wr) (w' := wr.drew) ⟨rfl, rfl, rfl, Nat.le_refl _, fun _ _ => rfl⟩ Z2.out)).mono ?_; rintro e w2 ⟨rfl, hb5⟩)
      all_goals
        have HB5 := Lib.hid (HB.out.trans ((show Below wr.heap.size wr w2 from ⟨hb5.os, hb5.tape, hb5.output, hb5.size, hb5.block⟩).mono HB.out.size))
        clear hb5
        go_wp2
        go_roundw
        case rel => exact ⟨k + 1, by omega, by go_num, HB5.out⟩
        case measure => simp [intOf]; omega
    · go_wp2
      go_ret
      exact ⟨rfl, HB.out⟩
theorem eqRowsM_zero (a a2 : Option Addr) (c c2 : Nat) (w : World) :
    Calls Tryz.prog 34 #[.slice a 0 c, .slice a2 0 c2] w fun e w' => e = .returned (.bool true) ∧ Below w.heap.size w w' := by
  go_enter Tryz.func34, Tryz.ntmps34
  go_wp2
  refine wp_loop_rounds 1 ?_
  rw [rounds_succ]
  go_wp2
  go_ret
  exact ⟨rfl, Below.refl _ _⟩
theorem eqRowsM_at (ws : List (List Int)) (v1 v2 : Value) (w : World) (h1 : RowsAt w v1 ws) (h2 : RowsAt w v2 ws) :
    Calls Tryz.prog 34 #[v1, v2] w fun e w' => e = .returned (.bool true) ∧ Below w.heap.size w w' := by
  obtain ⟨hl, ⟨a, c, rfl, rfl⟩ | ⟨b, off, cap, rfl, hb, hc⟩⟩ := h1
  · obtain ⟨a2, c2, rfl⟩ := mrows_form h2
    exact eqRowsM_zero a a2 c c2 w
  · obtain ⟨_, ⟨a, c, rfl, rfl⟩ | ⟨b2, off2, cap2, rfl, hb2, hc2⟩⟩ := h2
    · exact eqRowsM_zero _ _ _ _ w
    · exact eqRowsM_some ws b off cap b2 off2 cap2 w _ hl hb hb2 hc hc2
theorem szInts_m (v : Value) (n : Nat) (left : Int) (w : World) (hv : ∃ a c, v = .slice a n c) (hn : n ≤ 9223372036854775807) (h0 : 0 ≤ left) (h1 : left ≤ 1048576) :
    Calls Tryz.prog 19 #[v, .int .i64 left] w fun e w' => e = .returned (.int .i64 (if left - n < 0 then -1 else left - n)) ∧ w = w' := by
  obtain ⟨a, c, rfl⟩ := hv
  by_cases h : left - n < 0
  · rw [if_pos h]
    go_enter Tryz.func19, Tryz.ntmps19
    go_wp2
    go_ret
    exact ⟨rfl, rfl⟩
  · rw [if_neg h]
    go_enter Tryz.func19, Tryz.ntmps19
    go_wp2
    go_ret
    exact ⟨rfl, rfl⟩
def leftN (n : Nat) (left : Int) : Int := if left - n < 0 then -1 else left - n
theorem leftN_no {n : Nat} {left : Int} (h : left - n < 0) : leftN n left = -1 := by unfold leftN; rw [if_pos h]
theorem leftN_yes {n : Nat} {left : Int} (h : ¬ left - n < 0) : leftN n left = left - n := by unfold leftN; rw [if_neg h]
set_option maxHeartbeats 1000000 in
theorem szRowsM_any (v : Value) (n : Nat) (L : Nat → Nat) (left : Int) (w : World) (h : SzAt w v n L) (hn : n ≤ 9223372036854775807) (h0 : 0 ≤ left) (h1 : left ≤ 1048576) :
    Calls Tryz.prog 20 #[v, .int .i64 left] w fun e w' => e = .returned (.int .i64 (leftN (n + sumL L n) left)) ∧ Below w.heap.size w w' := by
  by_cases hb : left - n < 0
  · have HR := Lib.hid (show leftN (n + sumL L n) left = -1 from leftN_no (by omega))
    obtain ⟨a, c, rfl⟩ := sz_form h
    clear h
    go_enter Tryz.func20, Tryz.ntmps20
    go_wp2
    go_ret
    exact ⟨ret_i64 HR.out.symm, Below.refl _ _⟩
  · rcases h with ⟨a, c, rfl, rfl⟩ | ⟨b, off, c, rfl, hbl, hc⟩
    · have HR := Lib.hid (show leftN (0 + sumL L 0) left = left from by rw [leftN_yes (by simp [sumL]; omega)]; simp [sumL])
      go_enter Tryz.func20, Tryz.ntmps20
      go_wp2
      refine wp_loop_rounds 1 ?_
      rw [rounds_succ]
      go_wp2
      go_ret
      exact ⟨ret_i64 (by rw [HR.out]; try omega), Below.refl _ _⟩
    · have HC := Lib.hid hc
      have HS := Lib.hid (sumL_le L)
      have HM := Lib.hid (fun m (hm : m ≤ n) => sumL_mono L hm)
      have HN := Lib.hid (show ∀ k, sumL L (k + 1) = sumL L k + L k from fun _ => rfl)
      have HY := Lib.hid (fun h => leftN_yes (n := n + sumL L n) (left := left) h)
      have HX := Lib.hid (fun h => leftN_no (n := n + sumL L n) (left := left) h)
      clear hc
      go_enter Tryz.func20, Tryz.ntmps20
      go_wp2
      go_loopw [1, 5] (fun l i wr => ∃ k : Nat, k ≤ n ∧ i = .int .i64 k ∧ l = .int .i64 (left - n - sumL L k) ∧ Hid (0 ≤ left - n - sumL L k) ∧ Below w.heap.size w wr) (fun _ i _ => n - (intOf i).toNat)
      case atStart => exact ⟨0, by omega, rfl, by simp [sumL], Lib.hid (by show (0 : Int) ≤ left - n - ((0 : Nat) : Int); omega), Below.refl _ _⟩
      case round =>
        obtain ⟨k, hk, rfl, rfl, HP, hbw⟩ := hrel
        have HB := Lib.hid hbw
        have hp := HP.out
        by_cases hlt : k < n
        · obtain ⟨x, y, hcell, hL⟩ := HC.out k hlt
          rw [← hbw.cell (p := ⟨b, _, none⟩) hbl] at hcell
          have HK := Lib.hid (HN.out k)
          have hmono := HM.out (k + 1) (by omega)
          rw [HK.out] at hmono
          have HMO := Lib.hid hmono
          have hlt1 : (k : Int) < (n : Int) := by omega
          have hk0 : (0 : Int) ≤ (k : Int) := by omega
          clear hbw hmono
          generalize L k = l at *
          generalize sumL L k = s at *
          have hlo : left - n - s ≤ 1048576 := by omega
          by_cases hneg : left - n - s - l < 0
          · have HNEG := Lib.hid (show (if left - n - s - l < 0 then (-1 : Int) else left - n - s - l) = -1 by rw [if_pos hneg])
            have HRR := Lib.hid (HX.out (by have := HMO.out; omega))
            go_wp2_with fail
            refine (szInts_m _ l (left - n - s) _ ⟨_, _, rfl⟩ hL hp hlo).mono ?_
            rintro e w2 ⟨rfl, rfl⟩
            rw [HNEG.out]
            go_wp2
            go_ret
            exact ⟨ret_i64 HRR.out.symm, HB.out⟩
          · have HNEG := Lib.hid (show (if left - n - s - l < 0 then (-1 : Int) else left - n - s - l) = left - n - s - l by rw [if_neg hneg])
            have HNG := Lib.hid (show 0 ≤ left - n - s - l by omega)
            go_wp2_with fail
            refine (szInts_m _ l (left - n - s) _ ⟨_, _, rfl⟩ hL hp hlo).mono ?_
            rintro e w2 ⟨rfl, rfl⟩
            rw [HNEG.out]
            go_wp2
            go_roundw
            case rel => exact ⟨k + 1, by omega, by go_num, by rw [HK.out]; congr 1; omega, Lib.hid (by rw [HK.out]; have := HNG.out; omega), HB.out⟩
            case measure => simp [intOf]; omega
        · obtain rfl : k = n := by omega
          have HRR := Lib.hid (show leftN (k + sumL L k) left = left - k - sumL L k by rw [HY.out (by omega)]; omega)
          clear hbw
          generalize hsv : sumL L k = s at *
          have HSV := Lib.hid hsv
          clear hsv
          go_wp2
          go_ret
          exact ⟨ret_i64 (by rw [HSV.out]; exact HRR.out.symm), HB.out⟩
end Go.Proofs.YtpjopfhkgegahaaGreat
