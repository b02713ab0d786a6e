/- Sums of steps in a map: the program's stepsOf. -/
import Derived.Test.YtjdnjlakafcglaaSrtMath
import Derived.Test.YtjdnjlakafcglaaCutImpl
import Derived.Maps.Own
import Derived.Maps.OwnOps
import Derived.Maps.OwnSet
import Derived.Maps.RangeWalk
set_option linter.unusedVariables false
namespace Go.Proofs.Ytjdnjlakafcglaa
open Go.ChangeShapes Go.WideShapes Go.ChangeAt Go.RowKit Go.Maps

theorem lawZ : Keyed Try.prog 2 := int_keyed Try.underlying2
theorem zeroZ (w : World) : (zeroValue 2).run Try.prog w = .ok (.int .i64 0) w := by kernel_rfl
/-- The map's datum holds f z at z, and nothing where f is 0. -/
structure SumsMap (D : DataW Unit) (f : Int → Int) : Prop where
  map : IsMap D
  at' : ∀ z : Int, D.atKey (.int .i64 z) (.lit (.int .i64 0)) = .lit (.int .i64 (f z))
  key : ∀ kl, has D kl = true → ∃ z : Int, kl = .int .i64 z ∧ 0 ≤ z ∧ z ≤ 7 ∧ 0 < f z
  has' : ∀ z : Int, 0 < f z → has D (.int .i64 z) = true
theorem sumsMap_empty : SumsMap (.map []) fun _ => 0 :=
  ⟨isMap_empty, fun z => rfl, fun kl h => by simp [has] at h, fun z h => by omega⟩
theorem sumsMap_put {D : DataW Unit} {f g : Int → Int} (h : SumsMap D f) (x y : Int) (hx : 0 ≤ x ∧ x ≤ 7) (hy : 0 < f x + y) (hg : ∀ z, g z = f z + if x = z then y else 0) :
    SumsMap (D.put (.int .i64 x) (.lit (.int .i64 (f x + y)))) g := by
  have ne : ∀ z, x ≠ z → (Lit.int .i64 z) ≠ (Lit.int .i64 x) := fun z hz e => by simp at e; exact hz e.symm
  refine ⟨h.map.put _ _, fun z => ?_, fun kl hk => ?_, fun z hz => ?_⟩
  · by_cases e : x = z
    · subst e; rw [atKey_put_same h.map (show WideAt.IsKeyLit (.int .i64 x) from trivial), hg, if_pos rfl]
    · rw [atKey_put_other (ne z e), h.at', hg, if_neg e, Int.add_zero]
  · by_cases e : kl = .int .i64 x
    · exact ⟨x, e, hx.1, hx.2, by rw [hg, if_pos rfl]; exact hy⟩
    · rw [has_put_other e] at hk
      obtain ⟨z, rfl, h1, h2, h3⟩ := h.key kl hk
      refine ⟨z, rfl, h1, h2, ?_⟩
      rw [hg, if_neg (fun e2 => e (by rw [e2]))]; omega
  · by_cases e : x = z
    · subst e; exact has_put_same h.map (show WideAt.IsKeyLit (.int .i64 x) from trivial) _
    · rw [has_put_other (ne z e)]
      refine h.has' z ?_
      rw [hg, if_neg e] at hz; omega
/-- Block b is a map that holds f. -/
def MapF (w : World) (b n : Nat) (f : Int → Int) : Prop := ∃ D : DataW Unit, w.ownsMap Try.prog 2 (plainElem Try.prog 2) b n D ∧ SumsMap D f
theorem mapF_kept {w w' : World} {b n : Nat} {f : Int → Int} (hb : Below w.heap.size w w') (h : MapF w b n f) : MapF w' b n f := by
  obtain ⟨D, h1, h2⟩ := h
  exact ⟨D, h1.kept (row := none) ⟨hb.os, hb.tape, hb.output, hb.size, fun k hk _ => hb.block k hk⟩ (by simp), h2⟩
theorem mapF_lt {w : World} {b n : Nat} {f : Int → Int} (h : MapF w b n f) : b < w.heap.size := by
  obtain ⟨D, h1, -⟩ := h
  exact h1.lt
theorem mapF_mono {w : World} {b n m : Nat} {f : Int → Int} (h : MapF w b n f) (hm : n ≤ m) : MapF w b m f := by
  obtain ⟨D, h1, h2⟩ := h
  exact ⟨D, h1.mono hm, h2⟩
theorem mapF_start (w : World) : MapF (w.alloc (.map #[] 0)) w.heap.size 0 (fun _ => 0) := ⟨.map [], World.ownsMap_made _ _ _ _, sumsMap_empty⟩
theorem mapF_ext {w : World} {b n : Nat} {f g : Int → Int} (h : MapF w b n f) (e : ∀ z, g z = f z) : MapF w b n g := by
  obtain rfl : g = f := funext e
  exact h
theorem gb_cellC {w w' : World} {row : Option Nat} (hg : w.grownBy w' row) (b o : Nat) (hb : b < w.heap.size) (hne : some b ≠ row) : w'.cell? ⟨b, o, none⟩ = w.cell? ⟨b, o, none⟩ := World.cell?_of_block (hg.block b hb hne)
theorem lit_of_some {a b : Int} (h : (DataW.lit (.int .i64 a) : DataW Unit) = .lit (.int .i64 b)) : a = b := by simpa using h
/-- What stepsOf answers. -/
def StepsPost (cs : List Ct) (w : World) (e : Ending) (w' : World) : Prop :=
  ((fitsC cs = true ∧ ∃ b, e = .returned (.tuple #[.map (some b), .int .i64 0]) ∧ MapF w' b 64 (fun z => sumAt z cs) ∧ w.heap.size ≤ b) ∨ (fitsC cs = false ∧ e = .returned (.tuple #[.map none, .int .i64 5]))) ∧ Below w.heap.size w w'
set_option maxRecDepth 20000 in
set_option maxHeartbeats 4000000 in
theorem stepsOf_any (cs : List Ct) (v : Value) (w : World) (h : CutsAt w v cs) (h1 : cutsB cs = true) :
    Calls Try.prog 78 #[v] w (StepsPost cs w) := by
  obtain ⟨h64, hall⟩ := cutsB_iff.1 h1
  obtain ⟨A, b, off, cap, hv, hA, hc⟩ : ∃ A b off cap, v = .slice A cs.length cap ∧ (0 < cs.length → A = some ⟨b, off, none⟩) ∧ ∀ W, Below w.heap.size w W → ∀ i, i < cs.length → CIn W b (off + i * 2) (cs.getD i zC) := by
    by_cases h0 : cs.length = 0
    · obtain ⟨a, c, rfl⟩ := cuts_form h
      exact ⟨a, 0, 0, c, rfl, fun h => by omega, fun W _ i hi => by omega⟩
    · obtain ⟨b, off, cap, rfl, hb, hc⟩ := cuts_cells h (by omega)
      exact ⟨_, b, off, cap, rfl, fun _ => rfl, fun W hW i hi => cuts_keep hW hb (hc i hi)⟩
  subst hv
  have HA := Lib.hid hA
  have HC := Lib.hid hc
  have HV := Lib.hid (fun i (hi : i < cs.length) => cut_iff.1 (allC_at hall i hi))
  have HNX := Lib.hid (fun z k (hk : k < cs.length) => sumAt_next z cs k hk)
  have HLE := Lib.hid (fun z k => sumAt_take_le z hall k)
  have HNN := Lib.hid (fun z k => sumAt_nonneg z (allC_take hall k))
  have HTT := Lib.hid (show cs.take cs.length = cs from List.take_length)
  have HFY := Lib.hid (fun (h : ∀ z : Nat, z < 8 → sumAt (z : Int) cs ≤ 20) => fitsC_iff.2 h)
  have HFN := Lib.hid (fun (z : Nat) (hz : z < 8) (h : 20 < sumAt (z : Int) cs) => fitsC_no hz h)
  have hmm := @run_makeMap Try.prog
  clear h h1 hall hA hc
  obtain ⟨n, hn⟩ : ∃ n, cs.length = n := ⟨_, rfl⟩
  rw [hn] at HA HC HV HNX HTT h64 ⊢
  clear hn
  have hba := below_al w (.map #[] 0)
  have HM0 := Lib.hid (mapF_ext (g := fun z => sumAt z (cs.take 0)) (mapF_start w) (fun z => rfl))
  have HBA := Lib.hid hba
  have hsz : w.heap.size < (w.alloc (.map #[] 0)).heap.size := alloc_lt2 _ _
  clear hba
  go_enter Try.func78, Try.ntmps78
  go_wp2
  clear hmm
  go_loopw [10] (fun i wr => ∃ k : Nat, k ≤ n ∧ i = .int .i64 k ∧ Hid (MapF wr w.heap.size k (fun z => sumAt z (cs.take k))) ∧ Hid (∀ z : Nat, z < 8 → sumAt (z : Int) (cs.take k) ≤ 20) ∧ Hid (Below w.heap.size w wr)) (fun i _ => n - (intOf i).toNat)
  case atStart => exact ⟨0, by omega, rfl, HM0, Lib.hid (fun z _ => by simp [sumAt]), HBA⟩
  case round =>
    obtain ⟨k, hk, rfl, HM, HL, HB⟩ := hrel
    by_cases hlt : k < n
    · have hAe := HA.out (by omega)
      subst hAe
      obtain ⟨⟨x, y⟩, hxy⟩ : ∃ r, cs.getD k zC = r := ⟨_, rfl⟩
      have hr := HC.out wr HB.out k hlt
      have hv := HV.out k hlt
      have HSN := Lib.hid (fun z => HNX.out z k hlt)
      rw [hxy] at hr hv HSN
      simp only at hv
      have hx0 := hv.1.1
      have hx7 := hv.1.2
      have hy1 := hv.2.1
      have hy20 := hv.2.2
      obtain ⟨q, hq⟩ : ∃ q : Nat, x = (q : Int) := ⟨x.toNat, by omega⟩
      have d0 : wr.cell? ⟨b, off + k * 2, none⟩ = some (.int .i64 x) := hr.c0
      have d1 : wr.cell? ⟨b, off + k * 2 + 1, none⟩ = some (.int .i64 y) := hr.c1
      obtain ⟨D, hown, hsm⟩ := HM.out
      have HSM := Lib.hid hsm
      have hown0 := hown.alloc (.cells #[.int .i64 x, .int .i64 y] 95)
      have hnn := HNN.out x k
      have hl20 : sumAt x (cs.take k) ≤ 20 := by rw [hq]; exact HL.out q (by omega)
      have hwx : (Lit.int .i64 x).wf = true := WalkArith.wf_i64 (by omega)
      have hlt1 : (k : Int) < (n : Int) := by omega
      have hk0 : (0 : Int) ≤ (k : Int) := by omega
      have HQ := Lib.hid hq
      have hsb : w.heap.size ≤ wr.heap.size := HB.out.size
      have HBa := Lib.hid (HB.out.alloc hsb (.cells #[.int .i64 x, .int .i64 y] 95))
      have hk64 : k < 64 := by omega
      clear hr hv hxy hsm hown hq
      have hml := mapF_lt HM.out
      have hal : wr.heap.size < (wr.alloc (.cells #[.int .i64 x, .int .i64 y] 95)).heap.size := alloc_lt2 _ _
      have hcx : (wr.alloc (.cells #[.int .i64 x, .int .i64 y] 95)).cell? ⟨wr.heap.size, 0, none⟩ = some (.int .i64 x) := by go_simp
      have hne : some wr.heap.size ≠ some w.heap.size := by simp; omega
      obtain ⟨t, ht⟩ : ∃ t, sumAt x (cs.take k) = t := ⟨_, rfl⟩
      have HAT := Lib.hid (fun (c : Int) hat => show c = t from ((lit_of_some ((HSM.out.at' x).symm.trans hat)).symm.trans ht))
      have HSM1 := Lib.hid (show SumsMap (D.put (.int .i64 x) (.lit (.int .i64 (t + y)))) (fun z => sumAt z (cs.take (k + 1))) by rw [← ht]; exact sumsMap_put HSM.out x y ⟨hx0, hx7⟩ (by omega) (fun z => HSN.out z))
      have HT := Lib.hid (show sumAt x (cs.take (k + 1)) = t + y by rw [HSN.out x, if_pos rfl, ht])
      have HAT2 := Lib.hid (fun (c : Int) hat => show c = t + y from ((lit_of_some ((HSM1.out.at' x).symm.trans hat)).symm.trans HT.out))
      rw [ht] at hnn hl20
      by_cases hbig : 20 < t + y
      · have HF := Lib.hid (show fitsC cs = false from HFN.out q (by have := HQ.out; omega) (by
          have h1 := HLE.out x (k + 1)
          have h2 := HT.out
          have h3 := HQ.out
          rw [← h3]; omega))
        clear ht
        have tok1 : True := trivial
        go_wp2_with (first
          | (at_lookup; have _t := tok1; refine wpList_lookup_own_int _ rfl _ _ 105 rfl 2 2 .i64 lawZ Try.underlying105 Try.underlying2 (zeroZ _) w.heap.size k _ rfl hown0 _ _ rfl (keyOf_int_mk Try.underlying2 hwx) ?_; intro c hat hwc; have hc : t = c := (HAT.out c hat).symm; subst hc; clear hat hwc tok1)
          | (at_mapUpdate; refine wpList_mapUpdate_own _ rfl _ _ _ 105 rfl 2 2 lawZ Try.underlying105 _ w.heap.size k _ rfl hown0 (by unfold maxLen; omega) _ _ _ rfl rfl (keyOf_int_mk Try.underlying2 hwx) (.lit (.int .i64 (t + y))) [] (plainElem_int Try.underlying2 (WalkArith.wf_i64 (by omega))) ?_; intro w1 hown1 hgrow1; have hbx : w1.cell? ⟨wr.heap.size, 0, none⟩ = some (.int .i64 x) := (gb_cellC hgrow1 _ _ hal hne).trans hcx; obtain ⟨c2, hrun2, hat2, -⟩ := hown1.lookup_int lawZ Try.underlying105 Try.underlying2 (zeroZ _) (keyOf_int_mk Try.underlying2 hwx); have hc2 : c2 = t + y := HAT2.out c2 hat2; subst hc2; clear hat2))
        have HB1 := Lib.hid (HBa.out.grown hgrow1 HBa.out.size (fun j hj => by cases hj; exact Nat.le_refl _))
        go_ret2
        exact ⟨.inr ⟨HF.out, rfl⟩, HB1.out⟩
      · have HL2 := Lib.hid (show ∀ z : Nat, z < 8 → sumAt (z : Int) (cs.take (k + 1)) ≤ 20 from fun z hz => by
          have h1 := HSN.out (z : Int)
          have h2 := HL.out z hz
          by_cases e : x = (z : Int)
          · rw [if_pos e] at h1; rw [h1, ← e, ht]; omega
          · rw [if_neg e] at h1; omega)
        have hbig2 : t + y ≤ 20 := by omega
        clear ht hbig
        have tok1 : True := trivial
        go_wp2_with (first
          | (at_lookup; have _t := tok1; refine wpList_lookup_own_int _ rfl _ _ 105 rfl 2 2 .i64 lawZ Try.underlying105 Try.underlying2 (zeroZ _) w.heap.size k _ rfl hown0 _ _ rfl (keyOf_int_mk Try.underlying2 hwx) ?_; intro c hat hwc; have hc : t = c := (HAT.out c hat).symm; subst hc; clear hat hwc tok1)
          | (at_mapUpdate; refine wpList_mapUpdate_own _ rfl _ _ _ 105 rfl 2 2 lawZ Try.underlying105 _ w.heap.size k _ rfl hown0 (by unfold maxLen; omega) _ _ _ rfl rfl (keyOf_int_mk Try.underlying2 hwx) (.lit (.int .i64 (t + y))) [] (plainElem_int Try.underlying2 (WalkArith.wf_i64 (by omega))) ?_; intro w1 hown1 hgrow1; have hbx : w1.cell? ⟨wr.heap.size, 0, none⟩ = some (.int .i64 x) := (gb_cellC hgrow1 _ _ hal hne).trans hcx; obtain ⟨c2, hrun2, hat2, -⟩ := hown1.lookup_int lawZ Try.underlying105 Try.underlying2 (zeroZ _) (keyOf_int_mk Try.underlying2 hwx); have hc2 : c2 = t + y := HAT2.out c2 hat2; subst hc2; clear hat2))
        have HB1 := Lib.hid (HBa.out.grown hgrow1 HBa.out.size (fun j hj => by cases hj; exact Nat.le_refl _))
        go_roundw
        case rel => exact ⟨k + 1, by omega, by go_num, Lib.hid ⟨_, hown1, HSM1.out⟩, HL2, HB1⟩
        case measure => simp [intOf]; omega
    · obtain rfl : k = n := by omega
      have HF := Lib.hid (HFY.out (fun z hz => by have := HL.out z hz; rwa [HTT.out] at this))
      have HMF := Lib.hid (show MapF wr w.heap.size 64 (fun z => sumAt z cs) by
        have := HM.out
        rw [HTT.out] at this
        exact mapF_mono this h64)
      go_wp2
      go_ret2
      exact ⟨.inl ⟨HF.out, _, rfl, HMF.out, Nat.le_refl _⟩, HB.out⟩
end Go.Proofs.Ytjdnjlakafcglaa
