/- A sound read back from its text: the reference model's walk. -/
import Derived.Test.YtblkbjeongmgdaaGreatDoorHzRead
import Derived.Test.YtblkbjeongmgdaaGreatDoorReadSpecE
import Derived.Test.YtblkbjeongmgdaaGreatDoorSndPart
import Derived.Test.YtblkbjeongmgdaaGreatDoorFive
import Derived.Deep.AppendLies
namespace Go.Proofs.YtblkbjeongmgdaaGreatDoor
open Go.ChangeShapes Go.WideShapes Go.ChangeAt Go.RowKit

/-- The text s is that of five frequencies, and of a valid sound. -/
def SndRd (s : ByteArray) (a b c e f : Int) : Prop := ∃ ps : List ByteArray, ps.map (·.data.toList) = splitL 32 s.data.toList ∧ ps.length = 5 ∧ (∀ j, j < 5 → rdV hzTx (ps.getD j ByteArray.empty) = some ([a, b, c, e, f].getD j 0)) ∧ sndB a b c e f = true
theorem texts_same : ∀ {ps qs : List ByteArray}, ps.map (·.data.toList) = qs.map (·.data.toList) → ps = qs
  | [], [], _ => rfl
  | [], _ :: _, h => by simp at h
  | _ :: _, [], h => by simp at h
  | p :: ps, q :: qs, h => by
    simp only [List.map_cons, List.cons.injEq] at h
    rw [bytes_same h.1, texts_same h.2]
theorem rd_one {s : ByteArray} {a b c e f a' b' c' e' f' : Int} (h : SndRd s a b c e f) (g : SndRd s a' b' c' e' f') : a = a' ∧ b = b' ∧ c = c' ∧ e = e' ∧ f = f' := by
  obtain ⟨ps, h1, -, h3, -⟩ := h
  obtain ⟨qs, g1, -, g3, -⟩ := g
  obtain rfl := texts_same (h1.trans g1.symm)
  have k : ∀ j, j < 5 → [a, b, c, e, f].getD j 0 = [a', b', c', e', f'].getD j 0 := fun j hj => Option.some.inj ((h3 j hj).symm.trans (g3 j hj))
  exact ⟨k 0 (by decide), k 1 (by decide), k 2 (by decide), k 3 (by decide), k 4 (by decide)⟩
/-- What ReadSound answers. -/
def RdIs (s : ByteArray) (en : Ending) : Prop :=
  (∃ a b c e f, SndRd s a b c e f ∧ en = .returned (.tuple #[.agg #[.int .i64 a, .int .i64 b, .int .i64 c, .int .i64 e, .int .i64 f], .bool true])) ∨ ((∀ a b c e f, ¬ SndRd s a b c e f) ∧ en = .returned (.tuple #[.agg #[.int .i64 0, .int .i64 0, .int .i64 0, .int .i64 0, .int .i64 0], .bool false]))
theorem rd_form {s : ByteArray} {en : Ending} (h : RdIs s en) : ∃ (a b c e f : Int) (o : Bool), en = .returned (.tuple #[.agg #[.int .i64 a, .int .i64 b, .int .i64 c, .int .i64 e, .int .i64 f], .bool o]) := by
  rcases h with ⟨a, b, c, e, f, _, rfl⟩ | ⟨_, rfl⟩ <;> exact ⟨_, _, _, _, _, _, rfl⟩
theorem rd_same {s : ByteArray} {en en2 : Ending} (h : RdIs s en) (g : RdIs s en2) : en2 = en := by
  rcases h with ⟨a, b, c, e, f, h1, rfl⟩ | ⟨h1, rfl⟩ <;> rcases g with ⟨a', b', c', e', f', g1, rfl⟩ | ⟨g1, rfl⟩
  · obtain ⟨rfl, rfl, rfl, rfl, rfl⟩ := rd_one h1 g1; rfl
  · exact absurd h1 (g1 _ _ _ _ _)
  · exact absurd g1 (h1 _ _ _ _ _)
  · rfl
theorem rd_len {s : ByteArray} {ps : List ByteArray} (h : ps.map (·.data.toList) = splitL 32 s.data.toList) (hn : ps.length ≠ 5) : ∀ a b c e f, ¬ SndRd s a b c e f := by
  rintro a b c e f ⟨qs, g1, g2, -, -⟩
  have := texts_same (h.trans g1.symm)
  subst this
  exact hn g2
theorem rd_part {s : ByteArray} {ps : List ByteArray} (h : ps.map (·.data.toList) = splitL 32 s.data.toList) {j : Nat} (hj : j < 5) (hn : rdV hzTx (ps.getD j ByteArray.empty) = none) : ∀ a b c e f, ¬ SndRd s a b c e f := by
  rintro a b c e f ⟨qs, g1, -, g3, -⟩
  have := texts_same (h.trans g1.symm)
  subst this
  have := g3 j hj
  rw [hn] at this; cases this
theorem rd_bad {s : ByteArray} {ps : List ByteArray} {a b c e f : Int} (h : ps.map (·.data.toList) = splitL 32 s.data.toList) (hv : ∀ j, j < 5 → rdV hzTx (ps.getD j ByteArray.empty) = some ([a, b, c, e, f].getD j 0)) (hs : sndB a b c e f = false) : ∀ a b c e f, ¬ SndRd s a b c e f := by
  rintro a' b' c' e' f' ⟨qs, g1, -, g3, g4⟩
  have := texts_same (h.trans g1.symm)
  subst this
  have k : ∀ j, j < 5 → [a, b, c, e, f].getD j 0 = [a', b', c', e', f'].getD j 0 := fun j hj => Option.some.inj ((hv j hj).symm.trans (g3 j hj))
  have k0 : a = a' := k 0 (by decide)
  have k1 : b = b' := k 1 (by decide)
  have k2 : c = c' := k 2 (by decide)
  have k3 : e = e' := k 3 (by decide)
  have k4 : f = f' := k 4 (by decide)
  subst k0 k1 k2 k3 k4
  rw [hs] at g4; cases g4
theorem list_five {zs : List Int} (h : zs.length = 5) : ∃ a b c e f, zs = [a, b, c, e, f] := by
  match zs, h with
  | [a, b, c, e, f], _ => exact ⟨_, _, _, _, _, rfl⟩
/-- Block g holds nothing yet, and may be written. -/
def Clean (w : World) (g : Nat) : Prop := Five w g 0 0 0 0 0 ∧ w.frozen? ⟨g, 0, none⟩ = false ∧ w.frozen? ⟨g, 1, none⟩ = false ∧ w.frozen? ⟨g, 2, none⟩ = false ∧ w.frozen? ⟨g, 3, none⟩ = false ∧ w.frozen? ⟨g, 4, none⟩ = false
theorem clean_kept {w w' : World} {B g : Nat} (hb : Below B w w') (hg : g < B) (h : Clean w g) : Clean w' g :=
  ⟨⟨by rw [hb.cell (p := ⟨g, 0, none⟩) hg]; exact h.1.1, by rw [hb.cell (p := ⟨g, 1, none⟩) hg]; exact h.1.2.1, by rw [hb.cell (p := ⟨g, 2, none⟩) hg]; exact h.1.2.2.1, by rw [hb.cell (p := ⟨g, 3, none⟩) hg]; exact h.1.2.2.2.1, by rw [hb.cell (p := ⟨g, 4, none⟩) hg]; exact h.1.2.2.2.2⟩,
    by rw [hb.frozen (p := ⟨g, 0, none⟩) hg]; exact h.2.1, by rw [hb.frozen (p := ⟨g, 1, none⟩) hg]; exact h.2.2.1, by rw [hb.frozen (p := ⟨g, 2, none⟩) hg]; exact h.2.2.2.1, by rw [hb.frozen (p := ⟨g, 3, none⟩) hg]; exact h.2.2.2.2.1, by rw [hb.frozen (p := ⟨g, 4, none⟩) hg]; exact h.2.2.2.2.2⟩
theorem clean_alloc (w : World) (T : TypeId) : Clean (w.alloc (.cells #[.int .i64 0, .int .i64 0, .int .i64 0, .int .i64 0, .int .i64 0] T)) w.heap.size :=
  ⟨five_alloc w 0 0 0 0 0 T, by go_simp, by go_simp, by go_simp, by go_simp, by go_simp⟩
theorem clean_lt {w : World} {g : Nat} (h : Clean w g) : g < w.heap.size := five_lt h.1

set_option maxHeartbeats 400000 in
theorem l04Sound_cap (g cap : Nat) (a b c e f : Int) (w : World) (hg : g < w.heap.size) (h0 : w.cell? ⟨g, 0, none⟩ = some (.int .i64 a)) (h1 : w.cell? ⟨g, 1, none⟩ = some (.int .i64 b)) (h2 : w.cell? ⟨g, 2, none⟩ = some (.int .i64 c)) (h3 : w.cell? ⟨g, 3, none⟩ = some (.int .i64 e)) (h4 : w.cell? ⟨g, 4, none⟩ = some (.int .i64 f)) :
    Calls Tryz.prog 18 #[.slice (some ⟨g, 0, none⟩) 5 cap] w fun en w' => en = .returned (.agg #[.int .i64 a, .int .i64 b, .int .i64 c, .int .i64 e, .int .i64 f]) ∧ Below w.heap.size w w' := by
  go_enter Tryz.func18, Tryz.ntmps18
  go_wp2
  have k0 := (below_cell (w1 := w.alloc (.cells #[.int .i64 0, .int .i64 0, .int .i64 0, .int .i64 0, .int .i64 0] 23)) ((Below.refl _ _).alloc (Nat.le_refl _) _) g 0 hg).trans h0
  have k1 := (below_cell (w1 := w.alloc (.cells #[.int .i64 0, .int .i64 0, .int .i64 0, .int .i64 0, .int .i64 0] 23)) ((Below.refl _ _).alloc (Nat.le_refl _) _) g 1 hg).trans h1
  have k2 := (below_cell (w1 := w.alloc (.cells #[.int .i64 0, .int .i64 0, .int .i64 0, .int .i64 0, .int .i64 0] 23)) ((Below.refl _ _).alloc (Nat.le_refl _) _) g 2 hg).trans h2
  have k3 := (below_cell (w1 := w.alloc (.cells #[.int .i64 0, .int .i64 0, .int .i64 0, .int .i64 0, .int .i64 0] 23)) ((Below.refl _ _).alloc (Nat.le_refl _) _) g 3 hg).trans h3
  have k4 := (below_cell (w1 := w.alloc (.cells #[.int .i64 0, .int .i64 0, .int .i64 0, .int .i64 0, .int .i64 0] 23)) ((Below.refl _ _).alloc (Nat.le_refl _) _) g 4 hg).trans h4
  go_region
  go_wp2
  refine bodyPost_ret (v := .agg #[.int .i64 a, .int .i64 b, .int .i64 c, .int .i64 e, .int .i64 f]) (by simp [results, Tryz.results18, go_sem]) rfl ⟨rfl, ?_⟩
  exact below_dr ((Below.refl _ _).alloc (Nat.le_refl _) _)
set_option maxRecDepth 100000 in
set_option maxHeartbeats 4000000 in
theorem l04Read_any (s : ByteArray) (w : World) (hs : s.size ≤ 1048576) :
    Calls Tryz.prog 8 #[.string s] w fun en w' => RdIs s en ∧ Below w.heap.size w w' := by
  obtain ⟨i0, hi, hz0, hz1, hz2⟩ := info_parts infoI64
  go_enter Tryz.func8, Tryz.ntmps8
  go_wp2_with fail
  have hc0 := clean_alloc w 23
  have HBA := Lib.hid ((Below.refl w.heap.size w).alloc (Nat.le_refl _) (.cells #[.int .i64 0, .int .i64 0, .int .i64 0, .int .i64 0, .int .i64 0] 23))
  generalize w.alloc (.cells #[.int .i64 0, .int .i64 0, .int .i64 0, .int .i64 0, .int .i64 0] 23) = wA at *
  have hcl := clean_lt hc0
  refine (split_any s 32 _ hs).mono ?_
  rintro en w1 ⟨v, ps, rfl, hps, ⟨g1, c1, rfl, hB1, hlt1, hown1⟩, hb1⟩
  obtain ⟨n, hn⟩ : ∃ n, ps.length = n := ⟨_, rfl⟩
  rw [hn] at hown1 ⊢
  have HN := Lib.hid hn
  have HPS := Lib.hid hps
  have HO1 := Lib.hid hown1
  have HC1 := Lib.hid (clean_kept hb1 hcl hc0)
  have HB1 := Lib.hid (below_of HBA.out hb1 HBA.out.size)
  have hcl1 : w.heap.size < w1.heap.size := Nat.lt_of_lt_of_le hcl hb1.size
  clear hps hown1 hb1 hn hc0
  by_cases h5 : n = 5
  · subst h5
    go_wp2
    go_loopw [5, 6] (fun v i wr => ∃ (k : Nat) (zs : List Int), k ≤ 5 ∧ i = .int .i64 k ∧ Hid (zs.length = k) ∧ Hid (∀ j, j < k → rdV hzTx (ps.getD j ByteArray.empty) = some (zs.getD j 0)) ∧ wr.ownsRow w1.heap.size 2 1 v k (i64s zs) ∧ Below w1.heap.size w1 wr) (fun _ i _ => 5 - (intOf i).toNat)
    case atStart => exact ⟨0, [], by omega, rfl, rfl, fun j hj => by omega, by simpa [i64s] using World.ownsRow_made w1 #[] 0 (Nat.le_refl _) (by simp) (by simp), (Below.refl _ _).alloc (Nat.le_refl _) _⟩
    case round =>
      obtain ⟨k, zs, hk, rfl, HL, HA, hown, hbw⟩ := hrel
      have HO := Lib.hid hown
      have HB := Lib.hid hbw
      have hsz := hbw.size
      by_cases hlt : k < 5
      · have hcell : wr.cell? ⟨g1, k, none⟩ = some (.string (ps.getD k ByteArray.empty)) := by rw [hbw.cell (p := ⟨g1, k, none⟩) hlt1]; exact strs_cell HN.out HO1.out k hlt
        have hq := part_size HPS.out k (by rw [HN.out]; exact hlt)
        have HPQ := Lib.hid (fun (h : rdV hzTx (ps.getD k ByteArray.empty) = none) => rd_part HPS.out hlt h)
        have HKEEP := Lib.hid (show ∀ z, rdV hzTx (ps.getD k ByteArray.empty) = some z → ∀ j, j < k + 1 → rdV hzTx (ps.getD j ByteArray.empty) = some ((zs ++ [z]).getD j 0) from fun z hz j hj => by
          by_cases e : j = k
          · subst e
            have := snoc_last zs z
            rw [HL.out] at this
            rw [hz, this]
          · rw [snoc_get zs z j (by rw [HL.out]; omega)]; exact HA.out j (by omega))
        have hk2 : (k : Int) < 5 := by omega
        have hk3 : (0 : Int) ≤ (k : Int) := by omega
        clear hown hbw
        generalize ps.getD k ByteArray.empty = q at *
        obtain ⟨r, hr⟩ : ∃ r, rdV hzTx q = r := ⟨_, rfl⟩
        rw [hr] at HPQ HKEEP
        have HR := Lib.hid hr
        clear hr
        go_wp2_with fail
        refine (specReadHertz_any q _ (by omega)).mono ?_
        rintro en w3 ⟨he, hb3⟩
        unfold PairIs at he
        rw [HR.out] at he
        subst he
        have HO3 := Lib.hid (row_keep5 hb3 HO.out)
        have HB3 := Lib.hid (HB.out.trans (hb3.mono hsz))
        have hsz3 : w1.heap.size ≤ w3.heap.size := HB3.out.size
        clear hb3 hcell HO HB
        cases r with
        | none =>
          obtain ⟨⟨z0, z1, z2, z3, z4⟩, f0, f1, f2, f3, f4⟩ := clean_kept HB3.out hcl1 HC1.out
          have HF := Lib.hid (below_of HB1.out HB3.out HB1.out.size)
          go_wp2
          try simp only [Exit.inBlock, Exit.then]
          refine bodyPost_ret_by (v := .tuple #[.agg #[.int .i64 0, .int .i64 0, .int .i64 0, .int .i64 0, .int .i64 0], .bool false]) (by rw [results_cell_tmp rfl]; go_simp) rfl ?_
          exact ⟨.inr ⟨HPQ.out (by simp), rfl⟩, ((((HF.out.setCell (Nat.le_refl _) _).setCell (Nat.le_refl _) _).setCell (Nat.le_refl _) _).setCell (Nat.le_refl _) _).setCell (Nat.le_refl _) _⟩
        | some z =>
          go_wp2_with (at_builtin; refine wpList_append_own _ rfl _ _ 42 rfl w1.heap.size 2 i0 (.int .i64 0) 1 8 Tryz.underlying42 hi hz0 hz1 hz2 rfl (by decide) _ _ _ rfl (HO3.out.alloc _) ⟨_, 0, none⟩ 1 1 [.int .i64 z] rfl rfl (cell_one _ _ _) ?c2 ?c3 ?c4 ?c5 ?_)
          case c2 => first | rfl | (intro u hu; simp at hu; subst hu; rfl)
          case c3 => unfold maxLen; omega
          case c4 => omega
          case c5 => first | omega | (simp; omega)
          intro v4 w4 hown4 hgrow4 _
          have HO4 := Lib.hid (show w4.ownsRow w1.heap.size 2 1 v4 (k + 1) (i64s (zs ++ [z])) by rw [ints_snoc]; exact hown4)
          have HB4 := Lib.hid ((HB3.out.alloc (by omega) _).grown hgrow4 (by simp; omega) (fun k hk => (HO3.out.lt k hk).1))
          clear hown4 hgrow4
          go_wp2
          go_roundw
          case rel => exact ⟨k + 1, zs ++ [z], by omega, by go_num, (show (zs ++ [z]).length = k + 1 by rw [List.length_append, HL.out]; rfl), HKEEP.out z rfl, HO4.out, HB4.out⟩
          case measure => simp [intOf]; omega
      · obtain rfl : k = 5 := by omega
        obtain ⟨a, b, c, e, f, rfl⟩ := list_five HL.out
        obtain ⟨g5, cap5, rfl, -, -⟩ := hown.form (by decide)
        have hl5 := (hown.lt _ rfl).2
        have r := row_cells (zs := [a, b, c, e, f]) (n := 5) rfl hown
        have r0 := r 0 (by decide)
        have r1 := r 1 (by decide)
        have r2 := r 2 (by decide)
        have r3 := r 3 (by decide)
        have r4 := r 4 (by decide)
        have HC2 := Lib.hid (clean_kept hbw hcl1 HC1.out)
        have HB2 := Lib.hid (below_of HB1.out hbw HB1.out.size)
        have hcl2 : w.heap.size < wr.heap.size := Nat.lt_of_lt_of_le hcl1 hbw.size
        clear hown hbw r HO HB
        go_wp2_with fail
        refine (l04Sound_cap g5 cap5 a b c e f _ hl5 r0 r1 r2 r3 r4).mono ?_
        rintro en w4 ⟨rfl, hb⟩
        have HC4 := Lib.hid (clean_kept hb hcl2 HC2.out)
        have HB4 := Lib.hid (below_of HB2.out hb HB2.out.size)
        have hcl4 : w.heap.size < w4.heap.size := Nat.lt_of_lt_of_le hcl2 hb.size
        clear hb r0 r1 r2 r3 r4
        go_wp2_with fail
        refine (l04Ok_any w4.heap.size a b c e f _ (by go_simp) (by go_simp) (by go_simp) (by go_simp) (by go_simp)).mono ?_
        rintro en w5 ⟨rfl, hb⟩
        have hb4 := below_of ((Below.refl w4.heap.size w4).alloc (Nat.le_refl _) _) hb (by simp)
        obtain ⟨⟨z0, z1, z2, z3, z4⟩, f0, f1, f2, f3, f4⟩ := clean_kept hb4 hcl4 HC4.out
        obtain ⟨d0, d1, d2, d3, d4⟩ := five_below hb (five_alloc w4 a b c e f 23)
        have HB5 := Lib.hid (below_of HB4.out hb4 HB4.out.size)
        clear hb hb4
        rcases Bool.eq_false_or_eq_true (sndB a b c e f) with h2 | h2
        · have H2 := Lib.hid h2
          rw [h2]
          go_wp2
          try simp only [Exit.inBlock, Exit.then]
          refine bodyPost_ret_by (v := .tuple #[.agg #[.int .i64 a, .int .i64 b, .int .i64 c, .int .i64 e, .int .i64 f], .bool true]) (by rw [results_cell_tmp rfl]; go_simp) rfl ?_
          exact ⟨.inl ⟨a, b, c, e, f, ⟨ps, HPS.out, HN.out, HA.out, H2.out⟩, rfl⟩, ((((HB5.out.setCell (Nat.le_refl _) _).setCell (Nat.le_refl _) _).setCell (Nat.le_refl _) _).setCell (Nat.le_refl _) _).setCell (Nat.le_refl _) _⟩
        · have H2 := Lib.hid h2
          rw [h2]
          go_wp2
          try simp only [Exit.inBlock, Exit.then]
          refine bodyPost_ret_by (v := .tuple #[.agg #[.int .i64 0, .int .i64 0, .int .i64 0, .int .i64 0, .int .i64 0], .bool false]) (by rw [results_cell_tmp rfl]; go_simp) rfl ?_
          exact ⟨.inr ⟨rd_bad HPS.out HA.out H2.out, rfl⟩, ((((HB5.out.setCell (Nat.le_refl _) _).setCell (Nat.le_refl _) _).setCell (Nat.le_refl _) _).setCell (Nat.le_refl _) _).setCell (Nat.le_refl _) _⟩
  · have HV := Lib.hid (rd_len HPS.out (by rw [HN.out]; exact h5))
    have hne : ((n : Int) != 5) = true := by simp; omega
    obtain ⟨⟨z0, z1, z2, z3, z4⟩, f0, f1, f2, f3, f4⟩ := HC1.out
    clear h5
    go_wp2
    try simp only [Exit.inBlock, Exit.then]
    refine bodyPost_ret_by (v := .tuple #[.agg #[.int .i64 0, .int .i64 0, .int .i64 0, .int .i64 0, .int .i64 0], .bool false]) (by rw [results_cell_tmp rfl]; go_simp) rfl ?_
    exact ⟨.inr ⟨HV.out, rfl⟩, ((((HB1.out.setCell (Nat.le_refl _) _).setCell (Nat.le_refl _) _).setCell (Nat.le_refl _) _).setCell (Nat.le_refl _) _).setCell (Nat.le_refl _) _⟩
end Go.Proofs.YtblkbjeongmgdaaGreatDoor
