/- What the laws do with rings: a copy of a slice of rings; two slices of rings compared. -/
import Derived.Test.YtpjopfhkgegahaaRingSpec
import Derived.BigRegion
namespace Go.Proofs.Ytpjopfhkgegahaa
open Go.ChangeShapes Go.WideShapes Go.ChangeAt Go.RowKit

def rgV (r : Rg) : Value := .agg #[.int .i64 r.1, .int .i64 r.2.1, .int .i64 r.2.2]
theorem infoRing : (Try.prog.info? 58).map (fun i => (i.zero, i.size, i.bytes)) = some (some (.agg #[.int .i64 0, .int .i64 0, .int .i64 0]), 3, 24) := by kernel_rfl
theorem flat_append (a b : List Rg) : flat (a ++ b) = flat a ++ flat b := by
  induction a with
  | nil => rfl
  | cons r a ih => simp [flat, ih]
theorem flat_set (rs : List Rg) (j : Nat) (r : Rg) : (((flat rs).set (j * 3) r.1).set (j * 3 + 1) r.2.1).set (j * 3 + 2) r.2.2 = flat (rs.set j r) := by
  induction rs generalizing j with
  | nil => rfl
  | cons q rs ih =>
    match j with
    | 0 => simp [flat]
    | j + 1 =>
      have e : (j + 1) * 3 = j * 3 + 3 := by omega
      have := ih j
      rw [e]
      simpa [flat] using this
theorem i64s_set (zs : List Int) (j : Nat) (z : Int) : (i64s zs).set j (.int .i64 z) = i64s (zs.set j z) := by simp [i64s, List.map_set]
/-- What the copy holds after k rounds. -/
def copiedR (rs : List Rg) (k : Nat) : List Rg := rs.take k ++ List.replicate (rs.length - k) zR
theorem copiedR_len (rs : List Rg) (k : Nat) (h : k ≤ rs.length) : (copiedR rs k).length = rs.length := by simp [copiedR]; omega
theorem copiedR_next (rs : List Rg) (k : Nat) (h : k < rs.length) : (copiedR rs k).set k (rs.getD k zR) = copiedR rs (k + 1) := by
  unfold copiedR
  rw [show rs.length - k = rs.length - (k + 1) + 1 from by omega, List.replicate_succ, List.set_append_right _ _ (by simp; omega), List.length_take,
    Nat.min_eq_left (by omega), Nat.sub_self, List.set_cons_zero, List.take_succ_eq_append_getElem h]
  simp only [List.append_assoc, List.singleton_append, List.getD_eq_getElem?_getD, List.getElem?_eq_getElem h, Option.getD_some]
theorem copiedR_all (rs : List Rg) : copiedR rs rs.length = rs := by simp [copiedR]
theorem flat_zeros (n : Nat) : flat (List.replicate n zR) = List.replicate (n * 3) 0 := by
  induction n with
  | zero => rfl
  | succ n ih => rw [List.replicate_succ, flat, ih, show (n + 1) * 3 = n * 3 + 1 + 1 + 1 from by omega, List.replicate_succ, List.replicate_succ, List.replicate_succ]; rfl
theorem made_rings (n : Nat) : (madeCells (Value.agg #[.int .i64 0, .int .i64 0, .int .i64 0]).cells (n * 3)).toList = i64s (flat (List.replicate n zR)) := by
  rw [flat_zeros]
  unfold madeCells i64s
  rw [List.map_replicate]
  apply List.ext_getElem?
  intro j
  have h3 : j % 3 = 0 ∨ j % 3 = 1 ∨ j % 3 = 2 := by omega
  by_cases h : j < n * 3
  · rcases h3 with h3 | h3 | h3 <;> simp [h, Value.cells, h3]
  · simp [h]

theorem results_cellR {P : Program} {fn : Func} {p : Tmp} {ty : TypeId} (h : fn.results = #[.cell p ty]) (tmps : Array Value) (w : World) :
    (results fn tmps).run P w = ((asAddr (tmps.getD p undef)).run P w).andThen fun a w1 => (loadVar ty a).run P w1 := by
  simp only [results, h]
  simp [Sem.run_bind, Result.andThen]
set_option maxHeartbeats 1000000 in
theorem toRing_any (x y z : Int) (w : World) : Calls Try.prog 56 #[.agg #[.int .i64 x, .int .i64 y, .int .i64 z]] w fun e w' => e = .returned (.agg #[.int .i64 x, .int .i64 y, .int .i64 z]) ∧ Below w.heap.size w w' := by
  go_enter Try.func56, Try.ntmps56
  go_wp2
  try simp only [Exit.inBlock, Exit.then]
  refine bodyPost_ret_by (v := .agg #[.int .i64 x, .int .i64 y, .int .i64 z]) (by rw [results_cellR rfl]; go_simp) rfl ?_
  exact ⟨rfl, (((Below.refl _ _).alloc (Nat.le_refl _) _).alloc (by simp) _).alloc (by simp <;> omega) _⟩
set_option maxHeartbeats 1000000 in
theorem eqRing_any (x y z : Int) (w : World) : Calls Try.prog 62 #[.agg #[.int .i64 x, .int .i64 y, .int .i64 z], .agg #[.int .i64 x, .int .i64 y, .int .i64 z]] w fun e w' => e = .returned (.bool true) ∧ Below w.heap.size w w' := by
  have hx : (x != x) = false := by simp
  have hy : (y != y) = false := by simp
  have hz : (z != z) = false := by simp
  go_enter Try.func62, Try.ntmps62
  go_wp2
  go_ret
  exact ⟨rfl, ((Below.refl _ _).alloc (Nat.le_refl _) _).alloc (by simp) _⟩

theorem row_keepR {w w' : World} {B sz : Nat} {e : TypeId} {v : Value} {n : Nat} {xs : List Value} (hb : Below w.heap.size w w') (h : w.ownsRow B e sz v n xs) : w'.ownsRow B e sz v n xs :=
  h.kept (row := none) ⟨hb.os, hb.tape, hb.output, hb.size, fun k hk _ => hb.block k hk⟩ (by cases hv : v.ownBlock <;> simp)
theorem store3 {w : World} {B g n cap : Nat} {rs : List Rg} (h : w.ownsRow B 58 3 (.slice (some ⟨g, 0, none⟩) n cap) n (i64s (flat rs))) (j : Nat) (r : Rg) :
    (((w.setCell ⟨g, j * 3, none⟩ (.int .i64 r.1)).setCell ⟨g, j * 3 + 1, none⟩ (.int .i64 r.2.1)).setCell ⟨g, j * 3 + 2, none⟩ (.int .i64 r.2.2)).ownsRow B 58 3 (.slice (some ⟨g, 0, none⟩) n cap) n (i64s (flat (rs.set j r))) := by
  have h1 := (h.stored (j * 3) (.int .i64 r.1)).1
  have h2 := (h1.stored (j * 3 + 1) (.int .i64 r.2.1)).1
  have h3 := (h2.stored (j * 3 + 2) (.int .i64 r.2.2)).1
  rw [i64s_set, i64s_set, i64s_set, flat_set] at h3
  exact h3
theorem own_in {w : World} {B g n cap : Nat} {E : TypeId} {rs : List Rg} (hn : rs.length = n) (h : w.ownsRow B E 3 (.slice (some ⟨g, 0, none⟩) n cap) n (i64s (flat rs))) (i : Nat) (hi : i < n) : RingIn w g (i * 3) (rs.getD i zR) := by
  have hr := ring_in (w := w) (b := g) (off := 0) (rs := rs) (fun j hj => by
    rw [Nat.zero_add, h.cellAt j (by omega)]
    exact i64s_get _ j (by rw [flat_len]; omega)) i (by omega)
  rw [Nat.zero_add] at hr
  exact hr
set_option maxHeartbeats 2000000 in
set_option maxRecDepth 100000 in
theorem toRings_some (rs : List Rg) (b off cap : Nat) (w : World) (hl : rs.length ≤ 1048576) (hlt : b < w.heap.size) (hc : ∀ i, i < rs.length → RingIn w b (off + i * 3) (rs.getD i zR)) (n : Nat) (hn : Hid (rs.length = n)) :
    Calls Try.prog 34 #[.slice (some ⟨b, off, none⟩) n cap] w fun e w' => ∃ g, e = .returned (.slice (some ⟨g, 0, none⟩) n n) ∧ w.heap.size ≤ g ∧ g < w'.heap.size ∧ w'.ownsRow w.heap.size 58 3 (.slice (some ⟨g, 0, none⟩) n n) n (i64s (flat rs)) ∧ Below w.heap.size w w' := by
  obtain ⟨i0, hi, hz0, hz1, hz2⟩ := info_parts infoRing
  have hn1 : n ≤ 1048576 := by rw [← hn.out]; exact hl
  have HC := Lib.hid hc
  clear hc hl
  go_enter Try.func34, Try.ntmps34
  go_wp2_with (at_make; refine wpList_make_full _ rfl _ _ 38 rfl w.heap.size 58 i0 (.agg #[.int .i64 0, .int .i64 0, .int .i64 0]) 3 Try.underlying38 hi hz0 hz1 .i64 .i64 _ _ n rfl rfl rfl rfl (by rw [hz2]; omega) (by unfold maxLen; omega) (Nat.le_refl _) ?_; intro w0 hown hgrow)
  have HB0 := Lib.hid ((Below.refl w.heap.size w).grown hgrow (Nat.le_refl _) (fun k hk => by cases hk))
  rw [made_rings] at hown
  have HO0 := Lib.hid (show w0.ownsRow w.heap.size 58 3 (.slice (some ⟨w.heap.size, 0, none⟩) n n) n (i64s (flat (copiedR rs 0))) by
    unfold copiedR; rw [hn.out, Nat.sub_zero, List.take_zero, List.nil_append]; exact hown)
  clear hgrow hown
  go_wp2
  go_loopw [4] (fun i wr => ∃ k : Nat, k ≤ n ∧ i = .int .i64 k ∧ wr.ownsRow w.heap.size 58 3 (.slice (some ⟨w.heap.size, 0, none⟩) n n) n (i64s (flat (copiedR rs k))) ∧ Below w.heap.size w wr) (fun i _ => n - (intOf i).toNat)
  case atStart => exact ⟨0, by omega, rfl, HO0.out, HB0.out⟩
  case round =>
    obtain ⟨k, hk, rfl, hown, hbw⟩ := hrel
    by_cases hlt2 : k < n
    · obtain ⟨c0, c1, c2⟩ := HC.out k (by rw [hn.out]; exact hlt2)
      obtain ⟨⟨x, y, z⟩, hxyz⟩ : ∃ r, rs.getD k zR = r := ⟨_, rfl⟩
      rw [hxyz] at c0 c1 c2
      have hc0 : wr.cell? ⟨b, off + k * 3, none⟩ = some (.int .i64 x) := by rw [hbw.cell (p := ⟨b, off + k * 3, none⟩) hlt]; exact c0
      have hc1 : wr.cell? ⟨b, off + k * 3 + 1, none⟩ = some (.int .i64 y) := by rw [hbw.cell (p := ⟨b, off + k * 3 + 1, none⟩) hlt]; exact c1
      have hc2 : wr.cell? ⟨b, off + k * 3 + 2, none⟩ = some (.int .i64 z) := by rw [hbw.cell (p := ⟨b, off + k * 3 + 2, none⟩) hlt]; exact c2
      have HN := Lib.hid (show (copiedR rs k).set k (x, y, z) = copiedR rs (k + 1) by rw [← hxyz]; exact copiedR_next rs k (by rw [hn.out]; exact hlt2))
      have HL := Lib.hid (show (copiedR rs k).length = n by rw [copiedR_len _ _ (by rw [hn.out]; omega), hn.out])
      have HO := Lib.hid hown
      have HB := Lib.hid hbw
      clear hown hbw c0 c1 c2 hxyz
      generalize copiedR rs k = cs at *
      have hkn : (k : Int) < (n : Int) := by omega
      have hk0 : (0 : Int) ≤ (k : Int) := by omega
      go_wp2_with fail
      refine (toRing_any x y z _).mono ?_
      rintro e w2 ⟨rfl, hb2⟩
      have HO2 := Lib.hid (row_keepR hb2 HO.out)
      have HB2 := Lib.hid (below_of HB.out hb2 HB.out.size)
      obtain ⟨d0, d1, d2⟩ := own_in HL.out HO2.out k hlt2
      generalize cs.getD k zR = old at *
      have f0 := HO2.out.frozenAt (k * 3)
      have f1 := HO2.out.frozenAt (k * 3 + 1)
      have f2 := HO2.out.frozenAt (k * 3 + 2)
      have HS := Lib.hid (store3 HO2.out k (x, y, z))
      clear hb2
      go_wp2
      go_roundw
      case rel => exact ⟨k + 1, by omega, by go_num, by rw [← HN.out]; exact HS.out, ((HB2.out.setCell (Nat.le_refl _) _).setCell (Nat.le_refl _) _).setCell (Nat.le_refl _) _⟩
      case measure => simp [intOf]; omega
    · obtain rfl : k = n := by omega
      have HO := Lib.hid hown
      have HB := Lib.hid hbw
      clear hown hbw
      have hc2 : copiedR rs k = rs := by rw [← hn.out]; exact copiedR_all rs
      rw [hc2] at HO
      clear hc2
      go_wp2
      go_ret
      exact ⟨w.heap.size, rfl, Nat.le_refl _, (HO.out.lt _ rfl).2, HO.out, HB.out⟩

set_option maxRecDepth 100000 in
theorem toRings_none (a : Option Addr) (c : Nat) (w : World) :
    Calls Try.prog 34 #[.slice a 0 c] w fun e w' => ∃ g, e = .returned (.slice (some ⟨g, 0, none⟩) 0 0) ∧ w.heap.size ≤ g ∧ g < w'.heap.size ∧ w'.ownsRow w.heap.size 58 3 (.slice (some ⟨g, 0, none⟩) 0 0) 0 (i64s (flat [])) ∧ Below w.heap.size w w' := by
  obtain ⟨i0, hi, hz0, hz1, hz2⟩ := info_parts infoRing
  go_enter Try.func34, Try.ntmps34
  go_wp2_with (at_make; refine wpList_make_full _ rfl _ _ 38 rfl w.heap.size 58 i0 (.agg #[.int .i64 0, .int .i64 0, .int .i64 0]) 3 Try.underlying38 hi hz0 hz1 .i64 .i64 _ _ 0 rfl rfl rfl rfl (by omega) (by unfold maxLen; omega) (Nat.le_refl _) ?_; intro w0 hown hgrow)
  have HB0 := Lib.hid ((Below.refl w.heap.size w).grown hgrow (Nat.le_refl _) (fun k hk => by cases hk))
  rw [made_rings] at hown
  have HO0 := Lib.hid hown
  clear hgrow hown
  go_wp2
  refine wp_loop_rounds 1 ?_
  rw [rounds_succ]
  go_wp2
  go_ret
  exact ⟨w.heap.size, rfl, Nat.le_refl _, (HO0.out.lt _ rfl).2, HO0.out, HB0.out⟩
def CopyRings (w : World) (rs : List Rg) (e : Ending) (w' : World) : Prop := ∃ v, e = .returned v ∧ OwnRings w' w.heap.size v rs ∧ Below w.heap.size w w'
theorem toRings_any (rs : List Rg) (v : Value) (w : World) (h : RingsAt w v rs) : Calls Try.prog 34 #[v] w (CopyRings w rs) := by
  obtain ⟨hl, ⟨a, c, rfl, rfl⟩ | ⟨b, off, cap, rfl, hlt, hc⟩⟩ := h
  · refine (toRings_none a c w).mono ?_
    rintro e w' ⟨g, rfl, h1, h2, h3, h4⟩
    exact ⟨_, rfl, ⟨g, _, rfl, h1, h2, h3⟩, h4⟩
  · refine (toRings_some rs b off cap w hl hlt (ring_in hc) _ (Lib.hid rfl)).mono ?_
    rintro e w' ⟨g, rfl, h1, h2, h3, h4⟩
    exact ⟨_, rfl, ⟨g, _, rfl, h1, h2, h3⟩, h4⟩
set_option maxHeartbeats 1000000 in
theorem eqRings_some (rs : List Rg) (b o c b2 o2 c2 : Nat) (w : World) (n : Nat) (hn1 : n ≤ 1048576) (hb : b < w.heap.size) (hb2 : b2 < w.heap.size)
    (h1 : ∀ i, i < n → RingIn w b (o + i * 3) (rs.getD i zR)) (h2 : ∀ i, i < n → RingIn w b2 (o2 + i * 3) (rs.getD i zR)) :
    Calls Try.prog 42 #[.slice (some ⟨b, o, none⟩) n c, .slice (some ⟨b2, o2, none⟩) n c2] w fun e w' => e = .returned (.bool true) ∧ Below w.heap.size w w' := by
  have H1 := Lib.hid h1
  have H2 := Lib.hid h2
  clear h1 h2
  have hne : ((n : Int) != n) = false := by simp
  go_enter Try.func42, Try.ntmps42
  go_wp2
  go_loopw [5] (fun i wr => ∃ k : Nat, k ≤ n ∧ i = .int .i64 k ∧ Below w.heap.size w wr) (fun i _ => n - (intOf i).toNat)
  case atStart => exact ⟨0, by omega, rfl, Below.refl _ _⟩
  case round =>
    obtain ⟨k, hk, rfl, hbw⟩ := hrel
    have HB := Lib.hid hbw
    clear hbw
    by_cases hlt : k < n
    · obtain ⟨c0, c1, c3⟩ := H1.out k hlt
      obtain ⟨d0, d1, d3⟩ := H2.out k hlt
      rw [← HB.out.cell (p := ⟨b, _, none⟩) hb] at c0 c1 c3
      rw [← HB.out.cell (p := ⟨b2, _, none⟩) hb2] at d0 d1 d3
      generalize rs.getD k zR = r at *
      obtain ⟨x, y, z⟩ := r
      have e0 : wr.cell? ⟨b, o + k * 3, none⟩ = some (.int .i64 x) := c0
      have e1 : wr.cell? ⟨b, o + k * 3 + 1, none⟩ = some (.int .i64 y) := c1
      have e2 : wr.cell? ⟨b, o + k * 3 + 2, none⟩ = some (.int .i64 z) := c3
      have g0 : wr.cell? ⟨b2, o2 + k * 3, none⟩ = some (.int .i64 x) := d0
      have g1 : wr.cell? ⟨b2, o2 + k * 3 + 1, none⟩ = some (.int .i64 y) := d1
      have g2 : wr.cell? ⟨b2, o2 + k * 3 + 2, none⟩ = some (.int .i64 z) := d3
      clear c0 c1 c3 d0 d1 d3
      have hlt1 : (k : Int) < (n : Int) := by omega
      have hk0 : (0 : Int) ≤ (k : Int) := by omega
      go_wp2
      go_region_with (go_at_call 62; refine (eqRing_any x y z _).mono ?_; rintro e w2 ⟨rfl, hb5⟩)
      all_goals
        have HB5 := Lib.hid (HB.out.trans ((show Below wr.heap.size wr w2 from ⟨hb5.os, hb5.tape, hb5.output, hb5.size, hb5.block⟩).mono HB.out.size))
        clear hb5
        go_wp2
        go_roundw
        case rel => exact ⟨k + 1, by omega, by go_num, HB5.out⟩
        case measure => simp [intOf]; omega
    · go_wp2
      go_ret
      exact ⟨rfl, HB.out⟩
theorem eqRings_zero (a a2 : Option Addr) (c c2 : Nat) (w : World) :
    Calls Try.prog 42 #[.slice a 0 c, .slice a2 0 c2] w fun e w' => e = .returned (.bool true) ∧ Below w.heap.size w w' := by
  go_enter Try.func42, Try.ntmps42
  go_wp2
  refine wp_loop_rounds 1 ?_
  rw [rounds_succ]
  go_wp2
  go_ret
  exact ⟨rfl, Below.refl _ _⟩
theorem rings_form {w : World} {v : Value} {zs : List Rg} (h : RingsAt w v zs) : ∃ a c, v = .slice a zs.length c := by
  obtain ⟨_, ⟨a, c, rfl, rfl⟩ | ⟨b, off, cap, rfl, _⟩⟩ := h
  · exact ⟨_, _, rfl⟩
  · exact ⟨_, _, rfl⟩
theorem eqRings_at (zs : List Rg) (v1 v2 : Value) (w : World) (h1 : RingsAt w v1 zs) (h2 : RingsAt w v2 zs) :
    Calls Try.prog 42 #[v1, v2] w fun e w' => e = .returned (.bool true) ∧ Below w.heap.size w w' := by
  obtain ⟨hl, ⟨a, c, rfl, rfl⟩ | ⟨b, off, cap, rfl, hb, hc⟩⟩ := h1
  · obtain ⟨a2, c2, rfl⟩ := rings_form h2
    exact eqRings_zero a a2 c c2 w
  · obtain ⟨_, ⟨a, c, rfl, rfl⟩ | ⟨b2, off2, cap2, rfl, hb2, hc2⟩⟩ := h2
    · exact eqRings_zero _ _ _ _ w
    · exact eqRings_some zs b off cap b2 off2 cap2 w _ hl hb hb2 (ring_in hc) (ring_in hc2)
end Go.Proofs.Ytpjopfhkgegahaa
