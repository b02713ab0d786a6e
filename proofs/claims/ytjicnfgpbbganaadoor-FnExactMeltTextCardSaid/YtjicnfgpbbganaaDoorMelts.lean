/- Lists of melts: an argument opened; measured, copied, compared. -/
import Derived.Test.YtjicnfgpbbganaaDoorMelt
import Derived.Deep.RegionWith
import Derived.BigRegion
set_option linter.unusedVariables false
namespace Go.Proofs.YtjicnfgpbbganaaDoor
open Go.ChangeShapes Go.WideShapes Go.ChangeAt Go.RowKit Go.Deep

abbrev Mt := ByteArray × List ByteArray × Int
def zM : Mt := (ByteArray.empty, [], 0)
/-- Block b holds the melt r from o on. -/
def MAt (w : World) (b o : Nat) (r : Mt) : Prop := ∃ u, w.cell? ⟨b, o, none⟩ = some (.string r.1) ∧ w.cell? ⟨b, o + 1, none⟩ = some u ∧ w.cell? ⟨b, o + 2, none⟩ = some (.int .i64 r.2.2) ∧ StAt w u r.2.1
theorem mat_kept {w w' : World} {b o : Nat} {r : Mt} (hb : Below w.heap.size w w') (hl : b < w.heap.size) (h : MAt w b o r) : MAt w' b o r := by
  obtain ⟨u, h0, h1, h2, h3⟩ := h
  exact ⟨u, (below_cell hb _ _ hl).trans h0, (below_cell hb _ _ hl).trans h1, (below_cell hb _ _ hl).trans h2, st_kept hb h3⟩
/-- The slice v reads as ms. -/
def MeltsAt (w : World) (v : Value) (ms : List Mt) : Prop :=
  ms.length ≤ 1048576 ∧ ((∃ a c, v = .slice a 0 c ∧ ms = []) ∨ ∃ b off cap, v = .slice (some ⟨b, off, none⟩) ms.length cap ∧ b < w.heap.size ∧ ∀ i, i < ms.length → MAt w b (off + i * 3) (ms.getD i zM))
theorem melts_kept {w w' : World} {v : Value} {ms : List Mt} (hb : Below w.heap.size w w') (h : MeltsAt w v ms) : MeltsAt w' v ms := by
  obtain ⟨hl, h | ⟨b, off, cap, rfl, hlt, hc⟩⟩ := h
  · exact ⟨hl, .inl h⟩
  · exact ⟨hl, .inr ⟨b, off, cap, rfl, Nat.lt_of_lt_of_le hlt hb.size, fun i hi => mat_kept hb hlt (hc i hi)⟩⟩
theorem melts_form {w : World} {v : Value} {ms : List Mt} (h : MeltsAt w v ms) : ∃ a c, v = .slice a ms.length c := by
  obtain ⟨_, ⟨a, c, rfl, rfl⟩ | ⟨b, off, cap, rfl, _⟩⟩ := h
  · exact ⟨_, _, rfl⟩
  · exact ⟨_, _, rfl⟩
theorem melts_cells {w : World} {v : Value} {ms : List Mt} (h : MeltsAt w v ms) (h0 : 0 < ms.length) : ∃ b off cap, v = .slice (some ⟨b, off, none⟩) ms.length cap ∧ b < w.heap.size ∧ ∀ i, i < ms.length → MAt w b (off + i * 3) (ms.getD i zM) := by
  obtain ⟨_, ⟨a, c, _, rfl⟩ | h⟩ := h
  · simp at h0
  · exact h
abbrev Ut := ByteArray × Value × Int
def zU : Ut := (ByteArray.empty, .slice none 0 0, 0)
def flatU : List Ut → List Value
  | [] => []
  | r :: rs => .string r.1 :: r.2.1 :: .int .i64 r.2.2 :: flatU rs
theorem flatU_len (rs : List Ut) : (flatU rs).length = rs.length * 3 := by
  induction rs with
  | nil => rfl
  | cons r rs ih => simp [flatU, ih]; omega
theorem flatU_get (rs : List Ut) (j : Nat) (h : j < rs.length) : (flatU rs)[j * 3]? = some (.string (rs.getD j zU).1) ∧ (flatU rs)[j * 3 + 1]? = some (rs.getD j zU).2.1 ∧ (flatU rs)[j * 3 + 2]? = some (.int .i64 (rs.getD j zU).2.2) := by
  induction rs generalizing j with
  | nil => simp at h
  | cons r rs ih =>
    match j with
    | 0 => simp [flatU]
    | j + 1 =>
      have := ih j (by simpa using h)
      have e : (j + 1) * 3 = j * 3 + 3 := by omega
      rw [e]
      simpa [flatU] using this
theorem flatU_set (rs : List Ut) (j : Nat) (r : Ut) : ((((flatU rs).set (j * 3) (.string r.1)).set (j * 3 + 1) r.2.1).set (j * 3 + 2) (.int .i64 r.2.2)) = flatU (rs.set j r) := by
  induction rs generalizing j with
  | nil => rfl
  | cons q rs ih =>
    match j with
    | 0 => simp [flatU]
    | j + 1 =>
      have e : (j + 1) * 3 = j * 3 + 3 := by omega
      have := ih j
      rw [e]
      simpa [flatU] using this
theorem infoM : (Tryd.prog.info? 40).map (fun i => (i.zero, i.size, i.bytes)) = some (some (.agg #[.string ByteArray.empty, .slice none 0 0, .int .i64 0]), 3, 48) := by kernel_rfl
theorem made_melts (n : Nat) : (madeCells (Value.cells (.agg #[.string ByteArray.empty, .slice none 0 0, .int .i64 0])) (n * 3)).toList = flatU (List.replicate n zU) := by
  apply List.ext_getElem?
  intro j
  have hL : (flatU (List.replicate n zU)).length = n * 3 := by rw [flatU_len, List.length_replicate]
  by_cases h : j < n * 3
  · obtain ⟨i, f, rfl, hf⟩ : ∃ i f, j = i * 3 + f ∧ f < 3 := ⟨j / 3, j % 3, by omega, by omega⟩
    have hi : i < n := by omega
    obtain ⟨g0, g1, g2⟩ := flatU_get (List.replicate n zU) i (by rw [List.length_replicate]; exact hi)
    have hz : (List.replicate n zU).getD i zU = zU := by simp [List.getD, hi]
    rw [hz] at g0 g1 g2
    have hm : (i * 3 + f) % 3 = f := by omega
    unfold madeCells
    rcases (by omega : f = 0 ∨ f = 1 ∨ f = 2) with rfl | rfl | rfl
    · rw [Nat.add_zero] at h hm ⊢; rw [g0]; simp [h, Value.cells, hm, zU]
    · rw [g1]; simp [h, Value.cells, hm, zU]
    · rw [g2]; simp [h, Value.cells, hm, zU]
  · rw [List.getElem?_eq_none (by unfold madeCells; simp; omega), List.getElem?_eq_none (by omega)]
/-- Element j is the melt r, its ingots in a block of their own from B on. -/
def UOwn (w : World) (B : Nat) (x : Ut) (r : Mt) : Prop := x.1 = r.1 ∧ x.2.2 = r.2.2 ∧ OwnSt w B x.2.1 r.2.1
/-- A list of melts in blocks of the call's own. -/
def OwnMelts (w : World) (B : Nat) (v : Value) (ms : List Mt) : Prop := ∃ g cap us, v = .slice (some ⟨g, 0, none⟩) ms.length cap ∧ B ≤ g ∧ g < w.heap.size ∧ us.length = ms.length ∧ w.ownsRow B 40 3 v ms.length (flatU us) ∧ ∀ j, j < ms.length → UOwn w (g + 1) (us.getD j zU) (ms.getD j zM)
theorem own_inM {w : World} {B g n cap : Nat} {T : TypeId} {rs : List Ut} (hn : rs.length = n) (h : w.ownsRow B T 3 (.slice (some ⟨g, 0, none⟩) n cap) n (flatU rs)) (i : Nat) (hi : i < n) : w.cell? ⟨g, i * 3, none⟩ = some (.string (rs.getD i zU).1) ∧ w.cell? ⟨g, i * 3 + 1, none⟩ = some (rs.getD i zU).2.1 ∧ w.cell? ⟨g, i * 3 + 2, none⟩ = some (.int .i64 (rs.getD i zU).2.2) := by
  obtain ⟨g0, g1, g2⟩ := flatU_get rs i (by omega)
  exact ⟨(h.cellAt (i * 3) (by omega)).trans g0, (h.cellAt (i * 3 + 1) (by omega)).trans g1, (h.cellAt (i * 3 + 2) (by omega)).trans g2⟩
theorem own_melts {w : World} {B : Nat} {v : Value} {ms : List Mt} (hl : ms.length ≤ 1048576) (hi : ∀ j, j < ms.length → (ms.getD j zM).2.1.length ≤ 1048576) (h : OwnMelts w B v ms) : MeltsAt w v ms := by
  obtain ⟨g, cap, us, rfl, _, hg, hu, hown, he⟩ := h
  refine ⟨hl, .inr ⟨g, 0, cap, rfl, hg, fun i hi2 => ?_⟩⟩
  obtain ⟨c0, c1, c2⟩ := own_inM hu hown i hi2
  obtain ⟨e0, e1, e2⟩ := he i hi2
  rw [Nat.zero_add]
  exact ⟨_, by rw [c0, e0], c1, by rw [c2, e1], own_st (hi i hi2) e2⟩
theorem storeM {w : World} {B g n cap : Nat} {rs : List Ut} (h : w.ownsRow B 40 3 (.slice (some ⟨g, 0, none⟩) n cap) n (flatU rs)) (j : Nat) (r : Ut) :
    (((w.setCell ⟨g, j * 3, none⟩ (.string r.1)).setCell ⟨g, j * 3 + 1, none⟩ r.2.1).setCell ⟨g, j * 3 + 2, none⟩ (.int .i64 r.2.2)).ownsRow B 40 3 (.slice (some ⟨g, 0, none⟩) n cap) n (flatU (rs.set j r)) := by
  have h1 := (h.stored (j * 3) (.string r.1)).1
  have h2 := (h1.stored (j * 3 + 1) r.2.1).1
  have h3 := (h2.stored (j * 3 + 2) (.int .i64 r.2.2)).1
  rw [flatU_set] at h3
  exact h3
/-- The elements so far, and the empty ones behind. -/
def usTo (us : List Ut) (n : Nat) : List Ut := us ++ List.replicate (n - us.length) zU
theorem usTo_len (us : List Ut) (n : Nat) (h : us.length ≤ n) : (usTo us n).length = n := by simp [usTo]; omega
theorem usTo_next (us : List Ut) (n k : Nat) (u : Ut) (hk : us.length = k) (h : k < n) : (usTo us n).set k u = usTo (us ++ [u]) n := by
  unfold usTo
  rw [List.length_append, List.length_singleton, hk, show n - k = n - (k + 1) + 1 from by omega, List.replicate_succ, List.set_append_right _ _ (by omega), hk, Nat.sub_self, List.set_cons_zero]
  simp
theorem usTo_all (us : List Ut) (n : Nat) (hk : us.length = n) : usTo us n = us := by unfold usTo; rw [hk, Nat.sub_self]; simp
theorem uown_kept {w w' : World} {B : Nat} {x : Ut} {r : Mt} (hb : Below w.heap.size w w') (h : UOwn w B x r) : UOwn w' B x r := ⟨h.1, h.2.1, ownSt_kept hb h.2.2⟩
theorem uown_set {w : World} {B : Nat} {x : Ut} {r : Mt} (h : UOwn w B x r) (b o : Nat) (y : Value) (hb : b < B) : UOwn (w.setCell ⟨b, o, none⟩ y) B x r := ⟨h.1, h.2.1, ownSt_set h.2.2 b o y hb⟩
theorem getDU_old (us : List Ut) (u : Ut) (j : Nat) (h : j < us.length) : (us ++ [u]).getD j zU = us.getD j zU := by
  rw [List.getD_eq_getElem?_getD, List.getD_eq_getElem?_getD, List.getElem?_append_left h]
theorem getDU_new (us : List Ut) (u : Ut) (j : Nat) (h : j = us.length) : (us ++ [u]).getD j zU = u := by
  subst h
  rw [List.getD_eq_getElem?_getD, List.getElem?_append_right (Nat.le_refl _)]; simp
def CopyMls (w : World) (ms : List Mt) (e : Ending) (w' : World) : Prop := ∃ v, e = .returned v ∧ OwnMelts w' w.heap.size v ms ∧ Below w.heap.size w w'
set_option maxHeartbeats 4000000 in
set_option maxRecDepth 100000 in
theorem toMelts_some (ms : List Mt) (b off cap : Nat) (w : World) (hl : ms.length ≤ 1048576) (hlt : b < w.heap.size) (hc : ∀ i, i < ms.length → MAt w b (off + i * 3) (ms.getD i zM)) (n : Nat) (hn : Hid (ms.length = n)) :
    Calls Tryd.prog 14 #[.slice (some ⟨b, off, none⟩) n cap] w (CopyMls w ms) := by
  obtain ⟨i0, hi, hz0, hz1, hz2⟩ := info_parts infoM
  have hn1 : n ≤ 1048576 := by rw [← hn.out]; exact hl
  have HC := Lib.hid hc
  clear hc hl
  go_enter Tryd.func14, Tryd.ntmps14
  go_wp2_with (at_make; refine wpList_make_full _ rfl _ _ 29 rfl w.heap.size 40 i0 (.agg #[.string ByteArray.empty, .slice none 0 0, .int .i64 0]) 3 Tryd.underlying29 hi hz0 hz1 .i64 .i64 _ _ n rfl rfl rfl rfl (by rw [hz2]; omega) (by unfold maxLen; omega) (Nat.le_refl _) ?_; intro w0 hown hgrow)
  have HB0 := Lib.hid ((Below.refl w.heap.size w).grown hgrow (Nat.le_refl _) (fun k hk => by cases hk))
  rw [made_melts] at hown
  have HO0 := Lib.hid (show w0.ownsRow w.heap.size 40 3 (.slice (some ⟨w.heap.size, 0, none⟩) n n) n (flatU (usTo [] n)) by unfold usTo; simpa using hown)
  clear hgrow hown
  go_wp2
  go_loopw [4] (fun i wr => ∃ (k : Nat) (us : List Ut), k ≤ n ∧ i = .int .i64 k ∧ Hid (us.length = k) ∧ wr.ownsRow w.heap.size 40 3 (.slice (some ⟨w.heap.size, 0, none⟩) n n) n (flatU (usTo us n)) ∧ Hid (∀ j, j < k → UOwn wr (w.heap.size + 1) (us.getD j zU) (ms.getD j zM)) ∧ Below w.heap.size w wr) (fun i _ => n - (intOf i).toNat)
  case atStart => exact ⟨0, [], by omega, rfl, rfl, HO0.out, Lib.hid (fun j hj => by omega), HB0.out⟩
  case round =>
    obtain ⟨k, us, hk, rfl, HL, hown, HR, hbw⟩ := hrel
    have HO := Lib.hid hown
    have HB := Lib.hid hbw
    by_cases hlt2 : k < n
    · obtain ⟨u, c0, c1, c2, hu⟩ := mat_kept hbw hlt (HC.out k (by rw [hn.out]; exact hlt2))
      obtain ⟨⟨s, ss, z⟩, hr⟩ : ∃ r, ms.getD k zM = r := ⟨_, rfl⟩
      rw [hr] at c0 c2 hu
      have HRK := Lib.hid hr
      have HU := Lib.hid (show StAt wr u ss from hu)
      obtain ⟨ua, uc, rfl⟩ := st_form hu
      have d0 : wr.cell? ⟨b, off + k * 3, none⟩ = some (.string s) := c0
      have d2 : wr.cell? ⟨b, off + k * 3 + 2, none⟩ = some (.int .i64 z) := c2
      have hkn : (k : Int) < (n : Int) := by omega
      have hk0 : (0 : Int) ≤ (k : Int) := by omega
      clear hown hbw hu hr c0 c2
      dsimp only at c1
      go_wp2_with fail
      refine (toMelt_any s _ ss z _ HU.out).mono ?_
      rintro e w2 ⟨v2, rfl, hv2, hb2⟩
      have HO2 := Lib.hid (row_keepT hb2 HO.out)
      have HB2 := Lib.hid (below_of HB.out hb2 HB.out.size)
      have hsz : w.heap.size + 1 ≤ wr.heap.size := (HO.out.lt _ rfl).2
      have HR2 := Lib.hid (fun j (hj : j < k) => uown_kept hb2 (HR.out j hj))
      have HV2 := Lib.hid (ownSt_base (B' := w.heap.size + 1) hv2 hsz)
      obtain ⟨e0, e1, e2⟩ := own_inM (usTo_len us n (by rw [HL.out]; omega)) HO2.out k hlt2
      have f0 := HO2.out.frozenAt (k * 3)
      have f1 := HO2.out.frozenAt (k * 3 + 1)
      have f2 := HO2.out.frozenAt (k * 3 + 2)
      generalize (usTo us n).getD k zU = old at *
      obtain ⟨o0, o1, o2⟩ := old
      obtain ⟨g2, c2, rfl, -⟩ := hv2
      have HS := Lib.hid (storeM HO2.out k (s, .slice (some ⟨g2, 0, none⟩) ss.length c2, z))
      have HN := Lib.hid (usTo_next us n k (s, .slice (some ⟨g2, 0, none⟩) ss.length c2, z) HL.out hlt2)
      clear hb2
      generalize ss.length = sl at *
      go_wp2
      go_roundw
      case rel => exact ⟨k + 1, us ++ [(s, .slice (some ⟨g2, 0, none⟩) sl c2, z)], by omega, by go_num, Lib.hid (by rw [List.length_append, HL.out]; rfl), by rw [← HN.out]; exact HS.out, Lib.hid (fun j hj => by
        refine uown_set (uown_set (uown_set ?_ _ _ _ (Nat.lt_succ_self _)) _ _ _ (Nat.lt_succ_self _)) _ _ _ (Nat.lt_succ_self _)
        by_cases e : j = k
        · subst e
          rw [getDU_new _ _ _ HL.out.symm, HRK.out]
          exact ⟨rfl, rfl, HV2.out⟩
        · rw [getDU_old _ _ _ (by rw [HL.out]; omega)]
          exact HR2.out j (by omega)), ((HB2.out.setCell (Nat.le_refl _) _).setCell (Nat.le_refl _) _).setCell (Nat.le_refl _) _⟩
      case measure => simp [intOf]; omega
    · obtain rfl : k = n := by omega
      clear hown hbw
      rw [usTo_all _ _ HL.out] at HO
      go_wp2
      go_ret
      exact ⟨.slice (some ⟨w.heap.size, 0, none⟩) k k, rfl, ⟨w.heap.size, k, us, by rw [hn.out], Nat.le_refl _, (HO.out.lt _ rfl).2, by rw [HL.out, hn.out], by rw [hn.out]; exact HO.out, fun j hj => HR.out j (by rw [hn.out] at hj; exact hj)⟩, HB.out⟩
set_option maxRecDepth 100000 in
theorem toMelts_none (a : Option Addr) (c : Nat) (w : World) :
    Calls Tryd.prog 14 #[.slice a 0 c] w (CopyMls w []) := by
  obtain ⟨i0, hi, hz0, hz1, hz2⟩ := info_parts infoM
  go_enter Tryd.func14, Tryd.ntmps14
  go_wp2_with (at_make; refine wpList_make_full _ rfl _ _ 29 rfl w.heap.size 40 i0 (.agg #[.string ByteArray.empty, .slice none 0 0, .int .i64 0]) 3 Tryd.underlying29 hi hz0 hz1 .i64 .i64 _ _ 0 rfl rfl rfl rfl (by omega) (by unfold maxLen; omega) (Nat.le_refl _) ?_; intro w0 hown hgrow)
  have HB0 := Lib.hid ((Below.refl w.heap.size w).grown hgrow (Nat.le_refl _) (fun k hk => by cases hk))
  rw [made_melts] at hown
  have HO0 := Lib.hid hown
  clear hgrow hown
  go_wp2
  refine wp_loop_rounds 1 ?_
  rw [rounds_succ]
  go_wp2
  go_ret
  exact ⟨_, rfl, ⟨w.heap.size, 0, [], rfl, Nat.le_refl _, (HO0.out.lt _ rfl).2, rfl, HO0.out, fun j hj => by simp at hj⟩, HB0.out⟩
theorem toMelts_any (ms : List Mt) (v : Value) (w : World) (h : MeltsAt w v ms) : Calls Tryd.prog 14 #[v] w (CopyMls w ms) := by
  obtain ⟨hl, ⟨a, c, rfl, rfl⟩ | ⟨b, off, cap, rfl, hlt, hc⟩⟩ := h
  · exact toMelts_none a c w
  · exact toMelts_some ms b off cap w hl hlt hc _ (Lib.hid rfl)
theorem mat_drew {w : World} {b o : Nat} {r : Mt} (h : MAt w b o r) : MAt w.drew b o r := by
  obtain ⟨u, h0, h1, h2, h3⟩ := h
  exact ⟨u, h0, h1, h2, st_kept (w := w) (w' := w.drew) ⟨rfl, rfl, rfl, Nat.le_refl _, fun _ _ => rfl⟩ h3⟩
theorem st_drew {w : World} {v : Value} {ss : List ByteArray} (h : StAt w v ss) : StAt w.drew v ss := st_kept (w := w) (w' := w.drew) ⟨rfl, rfl, rfl, Nat.le_refl _, fun _ _ => rfl⟩ h
set_option maxHeartbeats 2000000 in
theorem eqMelts_some (ms : List Mt) (b o c b2 o2 c2 : Nat) (w : World) (n : Nat) (hn1 : n ≤ 1048576) (hb : b < w.heap.size) (hb2 : b2 < w.heap.size)
    (h1 : ∀ i, i < n → MAt w b (o + i * 3) (ms.getD i zM)) (h2 : ∀ i, i < n → MAt w b2 (o2 + i * 3) (ms.getD i zM)) :
    Calls Tryd.prog 17 #[.slice (some ⟨b, o, none⟩) n c, .slice (some ⟨b2, o2, none⟩) n c2] w fun e w' => e = .returned (.bool true) ∧ Below w.heap.size w w' := by
  have H1 := Lib.hid h1
  have H2 := Lib.hid h2
  clear h1 h2
  have hne : ((n : Int) != n) = false := by simp
  go_enter Tryd.func17, Tryd.ntmps17
  go_wp2
  go_loopw [5] (fun i wr => ∃ k : Nat, k ≤ n ∧ i = .int .i64 k ∧ Below w.heap.size w wr) (fun i _ => n - (intOf i).toNat)
  case atStart => exact ⟨0, by omega, rfl, Below.refl _ _⟩
  case round =>
    obtain ⟨k, hk, rfl, hbw⟩ := hrel
    have HB := Lib.hid hbw
    clear hbw
    by_cases hlt : k < n
    · obtain ⟨u1, c0, c1, c3, hu1⟩ := mat_kept HB.out hb (H1.out k hlt)
      obtain ⟨u2, d0, d1, d3, hu2⟩ := mat_kept HB.out hb2 (H2.out k hlt)
      have HU1 := Lib.hid (st_drew hu1)
      have HU2 := Lib.hid (st_drew hu2)
      obtain ⟨a1, k1, rfl⟩ := st_form hu1
      obtain ⟨a2, k2, rfl⟩ := st_form hu2
      clear hu1 hu2
      generalize ms.getD k zM = r at *
      obtain ⟨s, ss, z⟩ := r
      simp only at c0 c1 c3 d0 d1 d3 HU1 HU2
      generalize ss.length = sl at *
      have hlt1 : (k : Int) < (n : Int) := by omega
      have hk0 : (0 : Int) ≤ (k : Int) := by omega
      go_wp2
      go_region_with (go_at_call 22; refine (eqMelt_any s _ _ ss z wr.drew HU1.out HU2.out).mono ?_; rintro e w2 ⟨rfl, hb5⟩)
      all_goals
        have HB5 := Lib.hid (HB.out.trans ((show Below wr.heap.size wr w2 from ⟨hb5.os, hb5.tape, hb5.output, hb5.size, hb5.block⟩).mono HB.out.size))
        clear hb5
        go_wp2
        go_roundw
        case rel => exact ⟨k + 1, by omega, by go_num, HB5.out⟩
        case measure => simp [intOf]; omega
    · go_wp2
      go_ret
      exact ⟨rfl, HB.out⟩
theorem eqMelts_zero (a a2 : Option Addr) (c c2 : Nat) (w : World) :
    Calls Tryd.prog 17 #[.slice a 0 c, .slice a2 0 c2] w fun e w' => e = .returned (.bool true) ∧ Below w.heap.size w w' := by
  go_enter Tryd.func17, Tryd.ntmps17
  go_wp2
  refine wp_loop_rounds 1 ?_
  rw [rounds_succ]
  go_wp2
  go_ret
  exact ⟨rfl, Below.refl _ _⟩
theorem eqMelts_at (ms : List Mt) (v1 v2 : Value) (w : World) (h1 : MeltsAt w v1 ms) (h2 : MeltsAt w v2 ms) :
    Calls Tryd.prog 17 #[v1, v2] w fun e w' => e = .returned (.bool true) ∧ Below w.heap.size w w' := by
  obtain ⟨hl, ⟨a, c, rfl, rfl⟩ | ⟨b, off, cap, rfl, hb, hc⟩⟩ := h1
  · obtain ⟨a2, c2, rfl⟩ := melts_form h2
    exact eqMelts_zero a a2 c c2 w
  · obtain ⟨_, ⟨a, c, rfl, rfl⟩ | ⟨b2, off2, cap2, rfl, hb2, hc2⟩⟩ := h2
    · exact eqMelts_zero _ _ _ _ w
    · exact eqMelts_some ms b off cap b2 off2 cap2 w _ hl hb hb2 hc hc2
def sumK (L : Nat → Nat) : Nat → Nat
  | 0 => 0
  | n + 1 => sumK L n + L n
theorem sumK_le (L : Nat → Nat) (n j : Nat) (h : j < n) : L j ≤ sumK L n := by
  induction n with
  | zero => omega
  | succ n ih =>
    unfold sumK
    by_cases e : j = n
    · subst e; omega
    · have := ih (by omega); omega
theorem sumK_mono (L : Nat → Nat) {m n : Nat} (h : m ≤ n) : sumK L m ≤ sumK L n := by
  induction n with
  | zero => obtain rfl : m = 0 := by omega
            exact Nat.le_refl _
  | succ n ih =>
    by_cases e : m = n + 1
    · subst e; exact Nat.le_refl _
    · have := ih (by omega); show sumK L m ≤ sumK L n + L n; omega
def leftK (n : Nat) (left : Int) : Int := if left - n < 0 then -1 else left - n
theorem leftK_no {n : Nat} {left : Int} (h : left - n < 0) : leftK n left = -1 := by unfold leftK; rw [if_pos h]
theorem leftK_yes {n : Nat} {left : Int} (h : ¬ left - n < 0) : leftK n left = left - n := by unfold leftK; rw [if_neg h]
/-- What a melt's text and its ingots u take off a measure. -/
def SzIn (w : World) (s : ByteArray) (u : Value) (m : Nat) : Prop := (∃ ss, StAt w u ss ∧ SzSt ss ∧ m = s.size + ss.length + lenT ss ss.length) ∨ ∃ a n c, u = .slice a n c ∧ n ≤ 9223372036854775807 ∧ 1048576 < n ∧ m = s.size + n
theorem szIn_kept {w w' : World} {s : ByteArray} {u : Value} {m : Nat} (hb : Below w.heap.size w w') (h : SzIn w s u m) : SzIn w' s u m := by
  rcases h with ⟨ss, h1, h2, h3⟩ | h
  · exact .inl ⟨ss, st_kept hb h1, h2, h3⟩
  · exact .inr h
theorem szIn_form {w : World} {s : ByteArray} {u : Value} {m : Nat} (h : SzIn w s u m) : ∃ a n c, u = .slice a n c := by
  rcases h with ⟨ss, h1, h2, h3⟩ | ⟨a, n, c, rfl, _⟩
  · obtain ⟨a, c, rfl⟩ := st_form h1; exact ⟨_, _, _, rfl⟩
  · exact ⟨_, _, _, rfl⟩
theorem szMeltK (s : ByteArray) (u : Value) (m : Nat) (z left : Int) (w : World) (h : SzIn w s u m) (hs : s.size ≤ 9223372036854775807) (h0 : 0 ≤ left) (h1 : left ≤ 1048576) :
    Calls Tryd.prog 18 #[.agg #[.string s, u, .int .i64 z], .int .i64 left] w fun e w' => e = .returned (.int .i64 (leftK m left)) ∧ Below w.heap.size w w' := by
  rcases h with ⟨ss, h1', h2, rfl⟩ | ⟨a, n, c, rfl, h2, h3, rfl⟩
  · refine (szMelt_v s u ss z left w h1' h2 hs h0 h1).mono ?_
    rintro e w' ⟨rfl, hb⟩
    refine ⟨ret_i64 ?_, hb⟩
    by_cases hx : (s.size : Int) + ss.length + lenT ss ss.length ≤ left
    · rw [leftM_yes hx, leftK_yes (by omega)]; omega
    · rw [leftM_no hx, leftK_no (by omega)]
  · rw [leftK_no (by omega)]
    exact szMelt_big s a n c z left w hs h2 h0 h1 (by omega)
def SzElt (w : World) (b o m : Nat) : Prop := ∃ s u z, w.cell? ⟨b, o, none⟩ = some (.string s) ∧ w.cell? ⟨b, o + 1, none⟩ = some u ∧ w.cell? ⟨b, o + 2, none⟩ = some (.int .i64 z) ∧ s.size ≤ 9223372036854775807 ∧ SzIn w s u m
theorem szElt_kept {w w' : World} {b o m : Nat} (hb : Below w.heap.size w w') (hl : b < w.heap.size) (h : SzElt w b o m) : SzElt w' b o m := by
  obtain ⟨s, u, z, h0, h1, h2, h3, h4⟩ := h
  exact ⟨s, u, z, (below_cell hb _ _ hl).trans h0, (below_cell hb _ _ hl).trans h1, (below_cell hb _ _ hl).trans h2, h3, szIn_kept hb h4⟩
/-- What a list of melts takes off a measure: N. -/
def SzMl (w : World) (v : Value) (N : Nat) : Prop := ∃ a n c, v = .slice a n c ∧ n ≤ 9223372036854775807 ∧ ((1048576 < n ∧ N = n) ∨ (n = 0 ∧ N = 0) ∨ ∃ M b off, n ≤ 1048576 ∧ N = n + sumK M n ∧ a = some ⟨b, off, none⟩ ∧ b < w.heap.size ∧ ∀ j, j < n → SzElt w b (off + j * 3) (M j))
theorem szMl_kept {w w' : World} {v : Value} {N : Nat} (hb : Below w.heap.size w w') (h : SzMl w v N) : SzMl w' v N := by
  obtain ⟨a, n, c, rfl, h1, h2 | h2 | ⟨M, b, off, h2, h3, h4, h5, h6⟩⟩ := h
  · exact ⟨a, n, c, rfl, h1, .inl h2⟩
  · exact ⟨a, n, c, rfl, h1, .inr (.inl h2)⟩
  · exact ⟨a, n, c, rfl, h1, .inr (.inr ⟨M, b, off, h2, h3, h4, Nat.lt_of_lt_of_le h5 hb.size, fun j hj => szElt_kept hb h5 (h6 j hj)⟩)⟩
set_option maxHeartbeats 2000000 in
theorem szMelts_any (v : Value) (N : Nat) (left : Int) (w : World) (h : SzMl w v N) (h0 : 0 ≤ left) (h1 : left ≤ 1048576) :
    Calls Tryd.prog 11 #[v, .int .i64 left] w fun e w' => e = .returned (.int .i64 (leftK N left)) ∧ Below w.heap.size w w' := by
  obtain ⟨a, n, c, rfl, hn, h | h | ⟨M, b, off, hn1, hN, rfl, hbl, hc⟩⟩ := h
  · obtain ⟨h2, rfl⟩ := h
    have HR := Lib.hid (show leftK N left = -1 from leftK_no (by omega))
    have hb : left - (N : Int) < 0 := by omega
    go_enter Tryd.func11, Tryd.ntmps11
    go_wp2
    go_ret
    exact ⟨ret_i64 HR.out.symm, Below.refl _ _⟩
  · obtain ⟨rfl, rfl⟩ := h
    have HR := Lib.hid (show leftK 0 left = left by rw [leftK_yes (by simp; omega)]; simp)
    go_enter Tryd.func11, Tryd.ntmps11
    go_wp2
    refine wp_loop_rounds 1 ?_
    rw [rounds_succ]
    go_wp2
    go_ret
    exact ⟨ret_i64 HR.out.symm, Below.refl _ _⟩
  · by_cases hb : left - (n : Int) < 0
    · have HR := Lib.hid (show leftK N left = -1 from leftK_no (by omega))
      clear hc hN
      go_enter Tryd.func11, Tryd.ntmps11
      go_wp2
      go_ret
      exact ⟨ret_i64 HR.out.symm, Below.refl _ _⟩
    · have HC := Lib.hid hc
      have HM := Lib.hid (fun m (hm : m ≤ n) => sumK_mono M hm)
      have HN := Lib.hid (show ∀ k, sumK M (k + 1) = sumK M k + M k from fun _ => rfl)
      have HY := Lib.hid (fun h => leftK_yes (n := n + sumK M n) (left := left) h)
      have HX := Lib.hid (fun h => leftK_no (n := n + sumK M n) (left := left) h)
      have HNN := Lib.hid hN
      rw [HNN.out]
      clear hc hN
      go_enter Tryd.func11, Tryd.ntmps11
      go_wp2
      go_loopw [1, 5] (fun l i wr => ∃ k : Nat, k ≤ n ∧ i = .int .i64 k ∧ l = .int .i64 (left - n - sumK M k) ∧ Hid (0 ≤ left - n - sumK M k) ∧ Below w.heap.size w wr) (fun _ i _ => n - (intOf i).toNat)
      case atStart => exact ⟨0, by omega, rfl, by simp [sumK], Lib.hid (by show (0 : Int) ≤ left - n - ((0 : Nat) : Int); omega), Below.refl _ _⟩
      case round =>
        obtain ⟨k, hk, rfl, rfl, HP, hbw⟩ := hrel
        have HB := Lib.hid hbw
        have hp := HP.out
        by_cases hlt : k < n
        · obtain ⟨s, u, z, c0, c1, c2, hs, hi⟩ := szElt_kept hbw hbl (HC.out k hlt)
          have HI := Lib.hid hi
          obtain ⟨ua, un, uc, rfl⟩ := szIn_form hi
          have HK := Lib.hid (HN.out k)
          have hmono := HM.out (k + 1) (by omega)
          rw [HK.out] at hmono
          have HMO := Lib.hid hmono
          have hlt1 : (k : Int) < (n : Int) := by omega
          have hk0 : (0 : Int) ≤ (k : Int) := by omega
          clear hbw hmono hi
          generalize M k = l at *
          generalize sumK M k = q at *
          have hlo : left - n - q ≤ 1048576 := by omega
          by_cases hneg : left - n - q - l < 0
          · have HNEG := Lib.hid (show leftK l (left - n - q) = -1 from leftK_no hneg)
            have HRR := Lib.hid (HX.out (by have := HMO.out; omega))
            go_wp2_with fail
            refine (szMeltK s _ l z (left - n - q) _ HI.out hs hp hlo).mono ?_
            rintro e w2 ⟨rfl, hb2⟩
            rw [HNEG.out]
            have HB2 := Lib.hid (below_of HB.out hb2 HB.out.size)
            clear hb2
            go_wp2
            go_ret
            exact ⟨ret_i64 HRR.out.symm, HB2.out⟩
          · have HNEG := Lib.hid (show leftK l (left - n - q) = left - n - q - l from leftK_yes hneg)
            have HNG := Lib.hid (show 0 ≤ left - n - q - l by omega)
            have hng := HNG.out
            go_wp2_with fail
            refine (szMeltK s _ l z (left - n - q) _ HI.out hs hp hlo).mono ?_
            rintro e w2 ⟨rfl, hb2⟩
            rw [HNEG.out]
            have HB2 := Lib.hid (below_of HB.out hb2 HB.out.size)
            clear hb2
            go_wp2
            go_roundw
            case rel => exact ⟨k + 1, by omega, by go_num, by rw [HK.out]; congr 1; omega, Lib.hid (by rw [HK.out]; have := HNG.out; omega), HB2.out⟩
            case measure => simp [intOf]; omega
        · obtain rfl : k = n := by omega
          have HRR := Lib.hid (show leftK (k + sumK M k) left = left - k - sumK M k by rw [HY.out (by omega)]; omega)
          clear hbw
          generalize hsv : sumK M k = s at *
          have HSV := Lib.hid hsv
          clear hsv
          go_wp2
          go_ret
          exact ⟨ret_i64 (by rw [HSV.out]; exact HRR.out.symm), HB.out⟩
/-- What is known of an argument of type Melt. -/
def MeltArgX (W : World) (v : Value) : Prop := ∃ (s : ByteArray) (u : Value) (z : Int) (N : Nat), v = .agg #[.string s, u, .int .i64 z] ∧ s.size ≤ 9223372036854775807 ∧ SzIn W s u N ∧ (N ≤ 1048576 → ∃ ss, StAt W u ss ∧ SzSt ss ∧ ss.length ≤ 1048576)
set_option maxRecDepth 20000 in
theorem meltx_arg {H : Type} {enc : TypeId × Value → H} {W : World} {base : Nat} {v : Value} {d : DataW H} {p : List MemPlace} (hval : Value.okWide Tryd.prog W .any base 36 v) (h : DataW.Trod enc Tryd.prog W 0 (fun _ => true) true 36 v d p)
    (hlt : ∀ x ∈ p, x.block < W.heap.size) : MeltArgX W v := by
  obtain ⟨s, a, len, cap, z, rfl, ⟨hs, hl, -⟩, hk⟩ := melt_arg hval h hlt
  by_cases hil : len ≤ 1048576
  · obtain ⟨ss, rfl, q2, q3⟩ := hk hil
    exact ⟨s, _, z, _, rfl, hs, .inl ⟨ss, q2, q3, rfl⟩, fun _ => ⟨ss, q2, q3, hil⟩⟩
  · exact ⟨s, _, z, _, rfl, hs, .inr ⟨_, _, _, rfl, hl, by omega, rfl⟩, fun h => by omega⟩
theorem own_meltsC {w : World} {B : Nat} {v : Value} {ms : List Mt} (hl : ms.length ≤ 1048576 ∧ ∀ j, j < ms.length → (ms.getD j zM).2.1.length ≤ 1048576) (h : OwnMelts w B v ms) : MeltsAt w v ms := own_melts hl.1 hl.2 h
theorem ownMelts_form {w : World} {B : Nat} {v : Value} {ms : List Mt} (h : OwnMelts w B v ms) : ∃ a c, v = .slice a ms.length c := by
  obtain ⟨g, cap, us, rfl, _⟩ := h
  exact ⟨_, _, rfl⟩
/-- What is known of an argument of type []Melt. -/
def MlArg (W : World) (v : Value) : Prop := ∃ N, SzMl W v N ∧ (N ≤ 1048576 → ∃ ms, MeltsAt W v ms ∧ ms.length ≤ 1048576 ∧ (∀ j, j < ms.length → (ms.getD j zM).2.1.length ≤ 1048576 ∧ (ms.getD j zM).1.size ≤ 9223372036854775807 ∧ SzSt (ms.getD j zM).2.1))
section
variable {H : Type} {enc : TypeId × Value → H}
set_option maxRecDepth 20000 in
theorem melts_arg {W : World} {fuel : Nat} {a : Option Addr} {len cap : Nat} {d : DataW H} {p : List MemPlace} (hf : DataW.trod enc Tryd.prog W 0 (fun _ => true) true fuel 23 (Value.slice a len cap).cells.toList = some (d, p))
    (hlt : ∀ x ∈ p, x.block < W.heap.size) : len ≤ 9223372036854775807 ∧ MlArg W (.slice a len cap) := by
  have ce : Tryd.prog.cellsOf 36 = 3 := by kernel_rfl
  rcases open_slice Tryd.underlying23 hf with ⟨hcs, hx⟩ | ⟨a', len', cap', m, n, D, Pl, hcs, hb, hl, hm, hmm, hx, hel⟩
  · simp [Value.cells] at hcs
    obtain ⟨rfl, rfl, rfl⟩ := hcs
    exact ⟨by omega, 0, ⟨_, 0, _, rfl, by omega, .inr (.inl ⟨rfl, rfl⟩)⟩, fun _ => ⟨[], ⟨by simp, .inl ⟨_, _, rfl, rfl⟩⟩, by simp, fun j hj => by simp at hj⟩⟩
  · simp [Value.cells] at hcs
    obtain ⟨rfl, rfl, rfl⟩ := hcs
    simp only [Prod.mk.injEq] at hx
    obtain ⟨rfl, rfl⟩ := hx
    simp only [if_true] at hmm
    subst hmm
    rw [ce] at hel hlt
    unfold maxLen at hm
    refine ⟨by omega, ?_⟩
    have each : ∀ i, i < len → ∃ r : ByteArray × (Option Addr × Nat × Nat) × Int × List ByteArray, W.cell? (a'.add (i * 3)) = some (.string r.1) ∧ W.cell? (a'.add (i * 3 + 1)) = some (.slice r.2.1.1 r.2.1.2.1 r.2.1.2.2) ∧ W.cell? (a'.add (i * 3 + 2)) = some (.int .i64 r.2.2.1) ∧ r.1.size ≤ 9223372036854775807 ∧ r.2.1.2.1 ≤ 9223372036854775807 ∧
        (r.2.1.2.1 ≤ 1048576 → r.2.2.2.length = r.2.1.2.1 ∧ StAt W (.slice r.2.1.1 r.2.1.2.1 r.2.1.2.2) r.2.2.2 ∧ SzSt r.2.2.2) := by
      intro i hi
      obtain ⟨cs', h1, h2⟩ := hel i (by omega)
      obtain ⟨_, hlen, hcell⟩ := World.cells?_some h1
      obtain ⟨y0, y1, y2, k, hy, -, g0, g1, g2⟩ := trod_struct3 Tryd.underlying36 h2
      match cs', hlen with
      | [v0, v1, v2], _ =>
        have c1 : Tryd.prog.cellsOf 2 = 1 := by kernel_rfl
        have c2 : Tryd.prog.cellsOf 9 = 1 := by kernel_rfl
        have c3 : Tryd.prog.cellsOf 34 = 1 := by kernel_rfl
        simp [c1, c2, c3] at g0 g1 g2
        obtain ⟨s, hs, -, hsz⟩ := DataW.trod_string Tryd.underlying9 g0
        obtain ⟨z, hz, -, -⟩ := DataW.trod_int Tryd.underlying2 g2
        obtain rfl : v0 = .string s := by simpa using hs
        obtain rfl : v2 = .int .i64 z := by simpa using hz
        have hv : ∃ a len cap, v1 = .slice a len cap := by
          rcases open_slice Tryd.underlying34 g1 with ⟨hcs, _⟩ | ⟨a', len', cap', m, n, D, Pl, hcs, _⟩
          · exact ⟨_, _, _, by simpa using hcs⟩
          · exact ⟨_, _, _, by simpa using hcs⟩
        obtain ⟨ia, il, ic, rfl⟩ := hv
        have hpl : Pl i = y0.2 ++ (y1.2 ++ y2.2) := by simpa using congrArg Prod.snd hy
        have hk := st_arg (a := ia) (len := il) (cap := ic) (fuel := k) (d := y1.1) (p := y1.2) g1 (fun x hx => hlt x (List.mem_append.2 (.inr (List.mem_flatMap.2 ⟨i, List.mem_range.2 (by omega), by rw [hpl]; simp [hx]⟩))))
        have e0 := hcell 0 (by omega)
        have e1 := hcell 1 (by omega)
        have e2 := hcell 2 (by omega)
        rw [add_add] at e0 e1 e2
        unfold maxLen at hsz
        by_cases hil : il ≤ 1048576
        · obtain ⟨ss, q1, q2, q3⟩ := hk.2 hil
          exact ⟨(s, (ia, il, ic), z, ss), by simpa using e0, by simpa using e1, by simpa using e2, hsz, hk.1, fun _ => ⟨q1, q2, q3⟩⟩
        · exact ⟨(s, (ia, il, ic), z, []), by simpa using e0, by simpa using e1, by simpa using e2, hsz, hk.1, fun h => absurd h hil⟩
    obtain ⟨R, hR⟩ := choose_lt (α := ByteArray × (Option Addr × Nat × Nat) × Int × List ByteArray) each
    by_cases hbig : 1048576 < len
    · exact ⟨len, ⟨_, len, _, rfl, by omega, .inl ⟨hbig, rfl⟩⟩, fun h => by omega⟩
    by_cases hl0 : len = 0
    · subst hl0
      exact ⟨0, ⟨_, 0, _, rfl, by omega, .inr (.inl ⟨rfl, rfl⟩)⟩, fun _ => ⟨[], ⟨by simp, .inl ⟨_, _, rfl, rfl⟩⟩, by simp, fun j hj => by simp at hj⟩⟩
    obtain ⟨b, off, spot⟩ := a'
    have hspot : spot = none := by simpa [Addr.add] using World.cell?_spot (hR 0 (by omega)).1
    subst hspot
    have hbW : b < W.heap.size := hlt (.cell b off) (List.mem_append.2 (.inl (MemPlace.mem_row.2 ⟨0, by omega, by simp⟩)))
    let M : Nat → Nat := fun j => if (R j).2.1.2.1 ≤ 1048576 then (R j).1.size + (R j).2.1.2.1 + lenT (R j).2.2.2 (R j).2.1.2.1 else (R j).1.size + (R j).2.1.2.1
    have hM1 : ∀ j, (R j).2.1.2.1 ≤ M j := fun j => by
      show _ ≤ (if (R j).2.1.2.1 ≤ 1048576 then (R j).1.size + (R j).2.1.2.1 + lenT (R j).2.2.2 (R j).2.1.2.1 else (R j).1.size + (R j).2.1.2.1)
      split <;> omega
    refine ⟨len + sumK M len, ⟨_, len, _, rfl, by omega, .inr (.inr ⟨M, b, off, by omega, rfl, rfl, hbW, fun j hj => ?_⟩)⟩, fun hN => ?_⟩
    · obtain ⟨r0, r1, r2, r3, r4, r5⟩ := hR j hj
      refine ⟨_, _, _, by rw [← add_plain]; exact r0, by rw [Nat.add_assoc, ← add_plain]; exact r1, by rw [Nat.add_assoc, ← add_plain]; exact r2, r3, ?_⟩
      by_cases hil : (R j).2.1.2.1 ≤ 1048576
      · obtain ⟨q1, q2, q3⟩ := r5 hil
        refine .inl ⟨_, q2, q3, ?_⟩
        show (if (R j).2.1.2.1 ≤ 1048576 then (R j).1.size + (R j).2.1.2.1 + lenT (R j).2.2.2 (R j).2.1.2.1 else (R j).1.size + (R j).2.1.2.1) = _
        rw [if_pos hil, q1]
      · refine .inr ⟨_, _, _, rfl, r4, by omega, ?_⟩
        show (if (R j).2.1.2.1 ≤ 1048576 then (R j).1.size + (R j).2.1.2.1 + lenT (R j).2.2.2 (R j).2.1.2.1 else (R j).1.size + (R j).2.1.2.1) = _
        rw [if_neg hil]
    · have hil : ∀ j, j < len → (R j).2.1.2.1 ≤ 1048576 := fun j hj => by have := hM1 j; have := sumK_le M len j hj; omega
      have hg : ∀ i, i < len → ((List.range len).map fun j => ((R j).1, (R j).2.2.2, (R j).2.2.1)).getD i zM = ((R i).1, (R i).2.2.2, (R i).2.2.1) := fun i hi => by simp [List.getD, hi]
      refine ⟨(List.range len).map fun j => ((R j).1, (R j).2.2.2, (R j).2.2.1), ⟨by simp; omega, .inr ⟨b, off, _, by rw [List.length_map, List.length_range], hbW, fun i hi => ?_⟩⟩, by simp; omega, fun i hi => ?_⟩
      · have hi' : i < len := by simpa using hi
        rw [hg i hi']
        obtain ⟨r0, r1, r2, r3, r4, r5⟩ := hR i hi'
        exact ⟨_, by rw [← add_plain]; exact r0, by rw [Nat.add_assoc, ← add_plain]; exact r1, by rw [Nat.add_assoc, ← add_plain]; exact r2, (r5 (hil i hi')).2.1⟩
      · have hi' : i < len := by simpa using hi
        rw [hg i hi']
        obtain ⟨r0, r1, r2, r3, r4, r5⟩ := hR i hi'
        exact ⟨by rw [(r5 (hil i hi')).1]; exact hil i hi', r3, (r5 (hil i hi')).2.2⟩
end
end Go.Proofs.YtjicnfgpbbganaaDoor
