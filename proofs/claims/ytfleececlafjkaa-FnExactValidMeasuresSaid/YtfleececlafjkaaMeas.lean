/- Lists of measurements: an argument opened; measured, copied, compared. -/
import Derived.Test.YtfleececlafjkaaInts
import Derived.Test.YtfleececlafjkaaBase
import Derived.Deep.Slices
import Derived.Deep.Strs
import Derived.Lib.SmallJoins
import Derived.Deep.RegionWith
import Derived.BigRegion
set_option linter.unusedVariables false
namespace Go.Proofs.Ytfleececlafjkaa
open Go.ChangeShapes Go.WideShapes Go.ChangeAt Go.RowKit Go.Deep

abbrev Mt := ByteArray × Int × Int
def zM : Mt := (ByteArray.empty, 0, 0)
/-- The cells, one element after the other. -/
def flatM : List Mt → List Value
  | [] => []
  | r :: rs => .string r.1 :: .int .i64 r.2.1 :: .int .i64 r.2.2 :: flatM rs
theorem flatM_len (rs : List Mt) : (flatM rs).length = rs.length * 3 := by
  induction rs with
  | nil => rfl
  | cons r rs ih => simp [flatM, ih]; omega
theorem flatM_get (rs : List Mt) (j : Nat) (h : j < rs.length) : (flatM rs)[j * 3]? = some (.string (rs.getD j zM).1) ∧ (flatM rs)[j * 3 + 1]? = some (.int .i64 (rs.getD j zM).2.1) ∧ (flatM rs)[j * 3 + 2]? = some (.int .i64 (rs.getD j zM).2.2) := by
  induction rs generalizing j with
  | nil => simp at h
  | cons r rs ih =>
    match j with
    | 0 => simp [flatM]
    | j + 1 =>
      have := ih j (by simpa using h)
      have e : (j + 1) * 3 = j * 3 + 3 := by omega
      rw [e]
      simpa [flatM] using this
theorem flatM_set (rs : List Mt) (j : Nat) (r : Mt) : (((flatM rs).set (j * 3) (.string r.1)).set (j * 3 + 1) (.int .i64 r.2.1)).set (j * 3 + 2) (.int .i64 r.2.2) = flatM (rs.set j r) := by
  induction rs generalizing j with
  | nil => rfl
  | cons q rs ih =>
    match j with
    | 0 => simp [flatM]
    | j + 1 =>
      have e : (j + 1) * 3 = j * 3 + 3 := by omega
      have := ih j
      rw [e]
      simpa [flatM] using this
/-- Block b holds the element r from o on. -/
structure MIn (w : World) (b o : Nat) (r : Mt) : Prop where
  c0 : w.cell? ⟨b, o, none⟩ = some (.string r.1)
  c1 : w.cell? ⟨b, o + 1, none⟩ = some (.int .i64 r.2.1)
  c2 : w.cell? ⟨b, o + 2, none⟩ = some (.int .i64 r.2.2)
theorem min_kept {w w' : World} {b o : Nat} {r : Mt} (hb : Below w.heap.size w w') (hl : b < w.heap.size) (h : MIn w b o r) : MIn w' b o r :=
  ⟨(below_cell hb _ _ hl).trans h.c0, (below_cell hb _ _ hl).trans h.c1, (below_cell hb _ _ hl).trans h.c2⟩
/-- The slice v reads as rs. -/
def MeasAt (w : World) (v : Value) (rs : List Mt) : Prop :=
  rs.length ≤ 1048576 ∧ ((∃ a c, v = .slice a 0 c ∧ rs = []) ∨ ∃ b off cap, v = .slice (some ⟨b, off, none⟩) rs.length cap ∧ b < w.heap.size ∧ ∀ i, i < rs.length → MIn w b (off + i * 3) (rs.getD i zM))
/-- .. in a block of its own, from B on, that may be written. -/
def OwnMeas (w : World) (B : Nat) (v : Value) (rs : List Mt) : Prop := ∃ g cap, v = .slice (some ⟨g, 0, none⟩) rs.length cap ∧ B ≤ g ∧ g < w.heap.size ∧ w.ownsRow B 78 3 v rs.length (flatM rs)
theorem meas_kept {w w' : World} {v : Value} {rs : List Mt} (hb : Below w.heap.size w w') (h : MeasAt w v rs) : MeasAt w' v rs := by
  obtain ⟨hl, h | ⟨b, off, cap, rfl, hlt, hc⟩⟩ := h
  · exact ⟨hl, .inl h⟩
  · exact ⟨hl, .inr ⟨b, off, cap, rfl, Nat.lt_of_lt_of_le hlt hb.size, fun i hi => min_kept hb hlt (hc i hi)⟩⟩
theorem own_inM {w : World} {B g n cap : Nat} {T : TypeId} {rs : List Mt} (hn : rs.length = n) (h : w.ownsRow B T 3 (.slice (some ⟨g, 0, none⟩) n cap) n (flatM rs)) (i : Nat) (hi : i < n) : MIn w g (i * 3) (rs.getD i zM) := by
  obtain ⟨g0, g1, g2⟩ := flatM_get rs i (by omega)
  exact ⟨(h.cellAt (i * 3) (by omega)).trans g0, (h.cellAt (i * 3 + 1) (by omega)).trans g1, (h.cellAt (i * 3 + 2) (by omega)).trans g2⟩
theorem own_meas {w : World} {B : Nat} {v : Value} {rs : List Mt} (hl : rs.length ≤ 1048576) (h : OwnMeas w B v rs) : MeasAt w v rs := by
  obtain ⟨g, cap, rfl, _, hg, hown⟩ := h
  refine ⟨hl, .inr ⟨g, 0, cap, rfl, hg, fun i hi => ?_⟩⟩
  rw [Nat.zero_add]
  exact own_inM rfl hown i hi
theorem meas_form {w : World} {v : Value} {zs : List Mt} (h : MeasAt w v zs) : ∃ a c, v = .slice a zs.length c := by
  obtain ⟨_, ⟨a, c, rfl, rfl⟩ | ⟨b, off, cap, rfl, _⟩⟩ := h
  · exact ⟨_, _, rfl⟩
  · exact ⟨_, _, rfl⟩
theorem meas_cells {w : World} {v : Value} {rs : List Mt} (h : MeasAt w v rs) (h0 : 0 < rs.length) : ∃ b off cap, v = .slice (some ⟨b, off, none⟩) rs.length cap ∧ b < w.heap.size ∧ ∀ i, i < rs.length → MIn w b (off + i * 3) (rs.getD i zM) := by
  obtain ⟨_, ⟨a, c, _, rfl⟩ | h⟩ := h
  · simp at h0
  · exact h
theorem infoM : (Try.prog.info? 78).map (fun i => (i.zero, i.size, i.bytes)) = some (some (.agg #[.string ByteArray.empty, .int .i64 0, .int .i64 0]), 3, 32) := by kernel_rfl
def copiedM (rs : List Mt) (k : Nat) : List Mt := rs.take k ++ List.replicate (rs.length - k) zM
theorem copiedM_len (rs : List Mt) (k : Nat) (h : k ≤ rs.length) : (copiedM rs k).length = rs.length := by simp [copiedM]; omega
theorem copiedM_next (rs : List Mt) (k : Nat) (h : k < rs.length) : (copiedM rs k).set k (rs.getD k zM) = copiedM rs (k + 1) := by
  unfold copiedM
  rw [show rs.length - k = rs.length - (k + 1) + 1 from by omega, List.replicate_succ, List.set_append_right _ _ (by simp; omega), List.length_take,
    Nat.min_eq_left (by omega), Nat.sub_self, List.set_cons_zero, List.take_succ_eq_append_getElem h]
  simp only [List.append_assoc, List.singleton_append, List.getD_eq_getElem?_getD, List.getElem?_eq_getElem h, Option.getD_some]
theorem copiedM_all (rs : List Mt) : copiedM rs rs.length = rs := by simp [copiedM]
theorem made_meas (n : Nat) : (madeCells (Value.agg #[.string ByteArray.empty, .int .i64 0, .int .i64 0]).cells (n * 3)).toList = flatM (List.replicate n zM) := by
  apply List.ext_getElem?
  intro j
  have hL : (flatM (List.replicate n zM)).length = n * 3 := by rw [flatM_len, List.length_replicate]
  by_cases h : j < n * 3
  · obtain ⟨i, f, rfl, hf⟩ : ∃ i f, j = i * 3 + f ∧ f < 3 := ⟨j / 3, j % 3, by omega, by omega⟩
    have hi : i < n := by omega
    obtain ⟨g0, g1, g2⟩ := flatM_get (List.replicate n zM) i (by rw [List.length_replicate]; exact hi)
    have hz : (List.replicate n zM).getD i zM = zM := by simp [List.getD, hi]
    rw [hz] at g0 g1 g2
    have hm : (i * 3 + f) % 3 = f := by omega
    unfold madeCells
    rcases (by omega : f = 0 ∨ f = 1 ∨ f = 2) with rfl | rfl | rfl
    · rw [Nat.add_zero] at h hm ⊢; rw [g0]; simp [h, Value.cells, hm, zM]
    · rw [g1]; simp [h, Value.cells, hm, zM]
    · rw [g2]; simp [h, Value.cells, hm, zM]
  · rw [List.getElem?_eq_none (by unfold madeCells; simp; omega), List.getElem?_eq_none (by omega)]
theorem row_keepM {w w' : World} {B sz : Nat} {e : TypeId} {v : Value} {n : Nat} {xs : List Value} (hb : Below w.heap.size w w') (h : w.ownsRow B e sz v n xs) : w'.ownsRow B e sz v n xs :=
  h.kept (row := none) ⟨hb.os, hb.tape, hb.output, hb.size, fun k hk _ => hb.block k hk⟩ (by cases hv : v.ownBlock <;> simp)
theorem storeM {w : World} {B g n cap : Nat} {rs : List Mt} (h : w.ownsRow B 78 3 (.slice (some ⟨g, 0, none⟩) n cap) n (flatM rs)) (j : Nat) (r : Mt) :
    (((w.setCell ⟨g, j * 3, none⟩ (.string r.1)).setCell ⟨g, j * 3 + 1, none⟩ (.int .i64 r.2.1)).setCell ⟨g, j * 3 + 2, none⟩ (.int .i64 r.2.2)).ownsRow B 78 3 (.slice (some ⟨g, 0, none⟩) n cap) n (flatM (rs.set j r)) := by
  have h1 := (h.stored (j * 3) (.string r.1)).1
  have h2 := (h1.stored (j * 3 + 1) (.int .i64 r.2.1)).1
  have h3 := (h2.stored (j * 3 + 2) (.int .i64 r.2.2)).1
  rw [flatM_set] at h3
  exact h3
theorem results_cellMs {P : Program} {fn : Func} {p : Tmp} {ty : TypeId} (h : fn.results = #[.cell p ty]) (tmps : Array Value) (w : World) :
    (results fn tmps).run P w = ((asAddr (tmps.getD p undef)).run P w).andThen fun a w1 => (loadVar ty a).run P w1 := by
  simp only [results, h]
  simp [Sem.run_bind, Result.andThen]
set_option maxHeartbeats 1000000 in
theorem toMeasure_any (s : ByteArray) (k f : Int) (w : World) :
    Calls Try.prog 67 #[.agg #[.string s, .int .i64 k, .int .i64 f]] w fun e w' => e = .returned (.agg #[.string s, .int .i64 k, .int .i64 f]) ∧ Below w.heap.size w w' := by
  go_enter Try.func67, Try.ntmps67
  go_wp2
  try simp only [Exit.inBlock, Exit.then]
  refine bodyPost_ret_by (v := .agg #[.string s, .int .i64 k, .int .i64 f]) (by rw [results_cellMs rfl]; go_simp) rfl ?_
  exact ⟨rfl, (((Below.refl _ _).alloc (Nat.le_refl _) _).alloc (by simp) _).alloc (by simp <;> omega) _⟩
set_option maxHeartbeats 2000000 in
set_option maxRecDepth 100000 in
theorem toMeas_some (rs : List Mt) (b off cap : Nat) (w : World) (hl : rs.length ≤ 1048576) (hlt : b < w.heap.size) (hc : ∀ i, i < rs.length → MIn w b (off + i * 3) (rs.getD i zM)) (n : Nat) (hn : Hid (rs.length = n)) :
    Calls Try.prog 36 #[.slice (some ⟨b, off, none⟩) n cap] w fun e w' => ∃ g, e = .returned (.slice (some ⟨g, 0, none⟩) n n) ∧ w.heap.size ≤ g ∧ g < w'.heap.size ∧ w'.ownsRow w.heap.size 78 3 (.slice (some ⟨g, 0, none⟩) n n) n (flatM rs) ∧ Below w.heap.size w w' := by
  obtain ⟨i0, hi, hz0, hz1, hz2⟩ := info_parts infoM
  have hn1 : n ≤ 1048576 := by rw [← hn.out]; exact hl
  have HC := Lib.hid hc
  clear hc hl
  go_enter Try.func36, Try.ntmps36
  go_wp2_with (at_make; refine wpList_make_full _ rfl _ _ 53 rfl w.heap.size 78 i0 (.agg #[.string ByteArray.empty, .int .i64 0, .int .i64 0]) 3 Try.underlying53 hi hz0 hz1 .i64 .i64 _ _ n rfl rfl rfl rfl (by rw [hz2]; omega) (by unfold maxLen; omega) (Nat.le_refl _) ?_; intro w0 hown hgrow)
  have HB0 := Lib.hid ((Below.refl w.heap.size w).grown hgrow (Nat.le_refl _) (fun k hk => by cases hk))
  rw [made_meas] at hown
  have HO0 := Lib.hid (show w0.ownsRow w.heap.size 78 3 (.slice (some ⟨w.heap.size, 0, none⟩) n n) n (flatM (copiedM rs 0)) by
    unfold copiedM; rw [hn.out, Nat.sub_zero, List.take_zero, List.nil_append]; exact hown)
  clear hgrow hown
  go_wp2
  go_loopw [4] (fun i wr => ∃ k : Nat, k ≤ n ∧ i = .int .i64 k ∧ wr.ownsRow w.heap.size 78 3 (.slice (some ⟨w.heap.size, 0, none⟩) n n) n (flatM (copiedM rs k)) ∧ Below w.heap.size w wr) (fun i _ => n - (intOf i).toNat)
  case atStart => exact ⟨0, by omega, rfl, HO0.out, HB0.out⟩
  case round =>
    obtain ⟨k, hk, rfl, hown, hbw⟩ := hrel
    by_cases hlt2 : k < n
    · obtain ⟨c0, c1, c2⟩ := min_kept hbw hlt (HC.out k (by rw [hn.out]; exact hlt2))
      obtain ⟨⟨x, y, z⟩, hxyz⟩ : ∃ r, rs.getD k zM = r := ⟨_, rfl⟩
      rw [hxyz] at c0 c1 c2
      simp only at c0 c1 c2
      have HN := Lib.hid (show (copiedM rs k).set k (x, y, z) = copiedM rs (k + 1) by rw [← hxyz]; exact copiedM_next rs k (by rw [hn.out]; exact hlt2))
      have HL := Lib.hid (show (copiedM rs k).length = n by rw [copiedM_len _ _ (by rw [hn.out]; omega), hn.out])
      have HO := Lib.hid hown
      have HB := Lib.hid hbw
      clear hown hbw hxyz
      generalize copiedM rs k = cs at *
      have hkn : (k : Int) < (n : Int) := by omega
      have hk0 : (0 : Int) ≤ (k : Int) := by omega
      go_wp2_with fail
      refine (toMeasure_any x y z _).mono ?_
      rintro e w2 ⟨rfl, hb2⟩
      have HO2 := Lib.hid (row_keepM hb2 HO.out)
      have HB2 := Lib.hid (below_of HB.out hb2 HB.out.size)
      obtain ⟨d0, d1, d2⟩ := own_inM HL.out HO2.out k hlt2
      generalize cs.getD k zM = old at *
      have f0 := HO2.out.frozenAt (k * 3)
      have f1 := HO2.out.frozenAt (k * 3 + 1)
      have f2 := HO2.out.frozenAt (k * 3 + 2)
      have HS := Lib.hid (storeM HO2.out k (x, y, z))
      clear hb2
      go_wp2
      go_roundw
      case rel => exact ⟨k + 1, by omega, by go_num, by rw [← HN.out]; exact HS.out, ((HB2.out.setCell (Nat.le_refl _) _).setCell (Nat.le_refl _) _).setCell (Nat.le_refl _) _⟩
      case measure => simp [intOf]; omega
    · obtain rfl : k = n := by omega
      have HO := Lib.hid hown
      have HB := Lib.hid hbw
      clear hown hbw
      have hc2 : copiedM rs k = rs := by rw [← hn.out]; exact copiedM_all rs
      rw [hc2] at HO
      clear hc2
      go_wp2
      go_ret
      exact ⟨w.heap.size, rfl, Nat.le_refl _, (HO.out.lt _ rfl).2, HO.out, HB.out⟩
set_option maxRecDepth 100000 in
theorem toMeas_none (a : Option Addr) (c : Nat) (w : World) :
    Calls Try.prog 36 #[.slice a 0 c] w fun e w' => ∃ g, e = .returned (.slice (some ⟨g, 0, none⟩) 0 0) ∧ w.heap.size ≤ g ∧ g < w'.heap.size ∧ w'.ownsRow w.heap.size 78 3 (.slice (some ⟨g, 0, none⟩) 0 0) 0 (flatM []) ∧ Below w.heap.size w w' := by
  obtain ⟨i0, hi, hz0, hz1, hz2⟩ := info_parts infoM
  go_enter Try.func36, Try.ntmps36
  go_wp2_with (at_make; refine wpList_make_full _ rfl _ _ 53 rfl w.heap.size 78 i0 (.agg #[.string ByteArray.empty, .int .i64 0, .int .i64 0]) 3 Try.underlying53 hi hz0 hz1 .i64 .i64 _ _ 0 rfl rfl rfl rfl (by omega) (by unfold maxLen; omega) (Nat.le_refl _) ?_; intro w0 hown hgrow)
  have HB0 := Lib.hid ((Below.refl w.heap.size w).grown hgrow (Nat.le_refl _) (fun k hk => by cases hk))
  rw [made_meas] at hown
  have HO0 := Lib.hid hown
  clear hgrow hown
  go_wp2
  refine wp_loop_rounds 1 ?_
  rw [rounds_succ]
  go_wp2
  go_ret
  exact ⟨w.heap.size, rfl, Nat.le_refl _, (HO0.out.lt _ rfl).2, HO0.out, HB0.out⟩
def CopyMeas (w : World) (rs : List Mt) (e : Ending) (w' : World) : Prop := ∃ v, e = .returned v ∧ OwnMeas w' w.heap.size v rs ∧ Below w.heap.size w w'
theorem toMeas_any (rs : List Mt) (v : Value) (w : World) (h : MeasAt w v rs) : Calls Try.prog 36 #[v] w (CopyMeas w rs) := by
  obtain ⟨hl, ⟨a, c, rfl, rfl⟩ | ⟨b, off, cap, rfl, hlt, hc⟩⟩ := h
  · refine (toMeas_none a c w).mono ?_
    rintro e w' ⟨g, rfl, h1, h2, h3, h4⟩
    exact ⟨_, rfl, ⟨g, _, rfl, h1, h2, h3⟩, h4⟩
  · refine (toMeas_some rs b off cap w hl hlt hc _ (Lib.hid rfl)).mono ?_
    rintro e w' ⟨g, rfl, h1, h2, h3, h4⟩
    exact ⟨_, rfl, ⟨g, _, rfl, h1, h2, h3⟩, h4⟩
set_option maxHeartbeats 1000000 in
theorem eqMeasure_any (s : ByteArray) (k f : Int) (w : World) : Calls Try.prog 71 #[.agg #[.string s, .int .i64 k, .int .i64 f], .agg #[.string s, .int .i64 k, .int .i64 f]] w fun e w' => e = .returned (.bool true) ∧ Below w.heap.size w w' := by
  have hs : (s.toList != s.toList) = false := by simp
  have hx : (k != k) = false := by simp
  have hy : (f != f) = false := by simp
  go_enter Try.func71, Try.ntmps71
  go_wp2
  go_ret
  exact ⟨rfl, ((Below.refl _ _).alloc (Nat.le_refl _) _).alloc (by simp) _⟩
set_option maxHeartbeats 2000000 in
theorem eqMeas_some (rs : List Mt) (b o c b2 o2 c2 : Nat) (w : World) (n : Nat) (hn1 : n ≤ 1048576) (hb : b < w.heap.size) (hb2 : b2 < w.heap.size)
    (h1 : ∀ i, i < n → MIn w b (o + i * 3) (rs.getD i zM)) (h2 : ∀ i, i < n → MIn w b2 (o2 + i * 3) (rs.getD i zM)) :
    Calls Try.prog 38 #[.slice (some ⟨b, o, none⟩) n c, .slice (some ⟨b2, o2, none⟩) n c2] w fun e w' => e = .returned (.bool true) ∧ Below w.heap.size w w' := by
  have H1 := Lib.hid h1
  have H2 := Lib.hid h2
  clear h1 h2
  have hne : ((n : Int) != n) = false := by simp
  go_enter Try.func38, Try.ntmps38
  go_wp2
  go_loopw [5] (fun i wr => ∃ k : Nat, k ≤ n ∧ i = .int .i64 k ∧ Below w.heap.size w wr) (fun i _ => n - (intOf i).toNat)
  case atStart => exact ⟨0, by omega, rfl, Below.refl _ _⟩
  case round =>
    obtain ⟨k, hk, rfl, hbw⟩ := hrel
    have HB := Lib.hid hbw
    clear hbw
    by_cases hlt : k < n
    · obtain ⟨c0, c1, c2⟩ := min_kept HB.out hb (H1.out k hlt)
      obtain ⟨d0, d1, d2⟩ := min_kept HB.out hb2 (H2.out k hlt)
      generalize rs.getD k zM = r at *
      obtain ⟨x, y, z⟩ := r
      simp only at c0 c1 c2 d0 d1 d2
      have hlt1 : (k : Int) < (n : Int) := by omega
      have hk0 : (0 : Int) ≤ (k : Int) := by omega
      go_wp2
      go_region_with (go_at_call 71; refine (eqMeasure_any x y z _).mono ?_; rintro e w2 ⟨rfl, hb5⟩)
      all_goals
        have HB5 := Lib.hid (HB.out.trans ((show Below wr.heap.size wr w2 from ⟨hb5.os, hb5.tape, hb5.output, hb5.size, hb5.block⟩).mono HB.out.size))
        clear hb5
        go_wp2
        go_roundw
        case rel => exact ⟨k + 1, by omega, by go_num, HB5.out⟩
        case measure => simp [intOf]; omega
    · go_wp2
      go_ret
      exact ⟨rfl, HB.out⟩
theorem eqMeas_zero (a a2 : Option Addr) (c c2 : Nat) (w : World) :
    Calls Try.prog 38 #[.slice a 0 c, .slice a2 0 c2] w fun e w' => e = .returned (.bool true) ∧ Below w.heap.size w w' := by
  go_enter Try.func38, Try.ntmps38
  go_wp2
  refine wp_loop_rounds 1 ?_
  rw [rounds_succ]
  go_wp2
  go_ret
  exact ⟨rfl, Below.refl _ _⟩
theorem eqMeas_at (zs : List Mt) (v1 v2 : Value) (w : World) (h1 : MeasAt w v1 zs) (h2 : MeasAt w v2 zs) :
    Calls Try.prog 38 #[v1, v2] w fun e w' => e = .returned (.bool true) ∧ Below w.heap.size w w' := by
  obtain ⟨hl, ⟨a, c, rfl, rfl⟩ | ⟨b, off, cap, rfl, hb, hc⟩⟩ := h1
  · obtain ⟨a2, c2, rfl⟩ := meas_form h2
    exact eqMeas_zero a a2 c c2 w
  · obtain ⟨_, ⟨a, c, rfl, rfl⟩ | ⟨b2, off2, cap2, rfl, hb2, hc2⟩⟩ := h2
    · exact eqMeas_zero _ _ _ _ w
    · exact eqMeas_some zs b off cap b2 off2 cap2 w _ hl hb hb2 hc hc2
/-- How long the strings of the first k elements are together. -/
def lenM (rs : List Mt) : Nat → Nat
  | 0 => 0
  | k + 1 => lenM rs k + (rs.getD k zM).1.size
theorem lenM_mono (rs : List Mt) {j k : Nat} (h : j ≤ k) : lenM rs j ≤ lenM rs k := by
  induction k with
  | zero => obtain rfl : j = 0 := by omega
            exact Nat.le_refl _
  | succ k ih =>
    by_cases e : j = k + 1
    · subst e; exact Nat.le_refl _
    · have := ih (by omega)
      show lenM rs j ≤ lenM rs k + (rs.getD k zM).1.size
      omega
/-- What is left of the laws' bound. -/
def leftS (n q : Nat) : Int := if n + q ≤ 1048576 then (1048576 : Int) - n - q else -1
theorem leftS_yes {n q : Nat} (h : n + q ≤ 1048576) : leftS n q = (1048576 : Int) - n - q := by unfold leftS; rw [if_pos h]
theorem leftS_no {n q : Nat} (h : ¬ n + q ≤ 1048576) : leftS n q = -1 := by unfold leftS; rw [if_neg h]
theorem szMeasure_any (s : ByteArray) (k f left : Int) (w : World) (hs : s.size ≤ 9223372036854775807) (h0 : 0 ≤ left) (h1 : left ≤ 1048576) :
    Calls Try.prog 65 #[.agg #[.string s, .int .i64 k, .int .i64 f], .int .i64 left] w fun e w' => e = .returned (.int .i64 (if left - (s.size : Int) < 0 then -1 else left - s.size)) ∧ Below w.heap.size w w' := by
  by_cases h : left - (s.size : Int) < 0
  · rw [if_pos h]
    go_enter Try.func65, Try.ntmps65
    go_wp2
    go_ret
    exact ⟨rfl, (Below.refl _ _).alloc (Nat.le_refl _) _⟩
  · rw [if_neg h]
    go_enter Try.func65, Try.ntmps65
    go_wp2
    go_ret
    exact ⟨rfl, (Below.refl _ _).alloc (Nat.le_refl _) _⟩
theorem szMeas_big (a : Option Addr) (n c : Nat) (w : World) (hn : n ≤ 9223372036854775807) (hb : 1048576 < n) :
    Calls Try.prog 34 #[.slice a n c, .int .i64 1048576] w fun e w' => e = .returned (.int .i64 (-1)) ∧ Below w.heap.size w w' := by
  have h : (1048576 : Int) - (n : Int) < 0 := by omega
  go_enter Try.func34, Try.ntmps34
  go_wp2
  go_ret
  exact ⟨rfl, Below.refl _ _⟩
theorem szMeas_none (a : Option Addr) (c : Nat) (w : World) :
    Calls Try.prog 34 #[.slice a 0 c, .int .i64 1048576] w fun e w' => e = .returned (.int .i64 1048576) ∧ Below w.heap.size w w' := by
  go_enter Try.func34, Try.ntmps34
  go_wp2
  refine wp_loop_rounds 1 ?_
  rw [rounds_succ]
  go_wp2
  go_ret
  exact ⟨rfl, Below.refl _ _⟩
set_option maxHeartbeats 2000000 in
theorem szMeas_some (rs : List Mt) (b off cap n : Nat) (w : World) (hn : Hid (rs.length = n)) (hn1 : n ≤ 1048576) (hbl : b < w.heap.size) (hc : ∀ i, i < n → MIn w b (off + i * 3) (rs.getD i zM)) (hsz : ∀ i, i < n → (rs.getD i zM).1.size ≤ 9223372036854775807) :
    Calls Try.prog 34 #[.slice (some ⟨b, off, none⟩) n cap, .int .i64 1048576] w fun e w' => e = .returned (.int .i64 (leftS n (lenM rs n))) ∧ Below w.heap.size w w' := by
  have HC := Lib.hid hc
  have HSZ := Lib.hid hsz
  have h : ¬ (1048576 : Int) - (n : Int) < 0 := by omega
  clear hc hsz
  go_enter Try.func34, Try.ntmps34
  go_wp2
  go_loopw [1, 5] (fun l i wr => ∃ k : Nat, k ≤ n ∧ n + lenM rs k ≤ 1048576 ∧ i = .int .i64 k ∧ l = .int .i64 ((1048576 : Int) - n - lenM rs k) ∧ Below w.heap.size w wr) (fun _ i _ => n - (intOf i).toNat)
  case atStart => exact ⟨0, by omega, by simp [lenM]; omega, rfl, by simp [lenM], Below.refl _ _⟩
  case round =>
    obtain ⟨k, hk, hT, rfl, rfl, hbw⟩ := hrel
    have HB := Lib.hid hbw
    by_cases hlt : k < n
    · obtain ⟨c0, c1, c2⟩ := min_kept hbw hbl (HC.out k hlt)
      have hs := HSZ.out k hlt
      have HNX := Lib.hid (show lenM rs (k + 1) = lenM rs k + (rs.getD k zM).1.size from rfl)
      have HMO := Lib.hid (lenM_mono rs (show k + 1 ≤ n by omega))
      obtain ⟨⟨x, y, z⟩, hxyz⟩ : ∃ r, rs.getD k zM = r := ⟨_, rfl⟩
      rw [hxyz] at c0 c1 c2 hs HNX
      simp only at c0 c1 c2 hs HNX
      generalize hq : lenM rs k = q at *
      have hlt1 : (k : Int) < (n : Int) := by omega
      have hk0 : (0 : Int) ≤ (k : Int) := by omega
      clear hbw hxyz
      by_cases hbig : n + q + x.size ≤ 1048576
      · have HI := Lib.hid (show (if (1048576 : Int) - n - q - (x.size : Int) < 0 then (-1 : Int) else (1048576 : Int) - n - q - x.size) = (1048576 : Int) - n - q - x.size by rw [if_neg (by omega)])
        have hp : ¬ (1048576 : Int) - n - q - x.size < 0 := by omega
        go_wp2_with fail
        refine (szMeasure_any x y z ((1048576 : Int) - n - q) _ hs (by omega) (by omega)).mono ?_
        rintro e w2 ⟨rfl, hb⟩
        rw [HI.out]
        have HB2 := Lib.hid (below_of HB.out hb HB.out.size)
        clear hb
        go_wp2
        go_roundw
        case rel => exact ⟨k + 1, by omega, by rw [HNX.out]; omega, by go_num, by rw [HNX.out]; congr 1; omega, HB2.out⟩
        case measure => simp [intOf]; omega
      · have HI := Lib.hid (show (if (1048576 : Int) - n - q - (x.size : Int) < 0 then (-1 : Int) else (1048576 : Int) - n - q - x.size) = -1 by rw [if_pos (by omega)])
        have HE := Lib.hid (show leftS n (lenM rs n) = -1 by
          have := HMO.out
          rw [HNX.out] at this
          exact leftS_no (by omega))
        go_wp2_with fail
        refine (szMeasure_any x y z ((1048576 : Int) - n - q) _ hs (by omega) (by omega)).mono ?_
        rintro e w2 ⟨rfl, hb⟩
        rw [HI.out]
        have HB2 := Lib.hid (below_of HB.out hb HB.out.size)
        clear hb
        go_wp2
        go_ret
        exact ⟨by rw [HE.out]; rfl, HB2.out⟩
    · obtain rfl : k = n := by omega
      have HE := Lib.hid (leftS_yes hT)
      clear hbw
      go_wp2
      go_ret
      exact ⟨by rw [HE.out]; rfl, HB.out⟩
end Go.Proofs.Ytfleececlafjkaa
