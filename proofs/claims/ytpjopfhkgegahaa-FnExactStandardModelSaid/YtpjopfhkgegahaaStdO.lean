/- StandardModel: lists of the call's own, the program's and the reference model's. -/
import Derived.Test.YtpjopfhkgegahaaStdM
import Derived.Laws.CopyOwn
set_option linter.unusedVariables false
namespace Go.Proofs.Ytpjopfhkgegahaa
open Go.ChangeShapes Go.WideShapes Go.ChangeAt Go.RowKit

theorem one_i64q (zs : List Int) : ∀ v ∈ i64s zs, v.oneCell' = true := by
  intro v hv
  obtain ⟨z, -, rfl⟩ := List.mem_map.1 hv
  rfl
theorem addr_addQ (b o j : Nat) : (⟨b, o, none⟩ : Addr).add j = ⟨b, o + j, none⟩ := by simp [Addr.add]
theorem src_of {w : World} {b off n : Nat} {zs : List Int} (hn : zs.length = n) (hc : ∀ j, j < n → w.cell? ⟨b, off + j, none⟩ = some (.int .i64 (zs.getD j 0))) : ∀ j u, (i64s zs)[j]? = some u → w.cell? ((⟨b, off, none⟩ : Addr).add j) = some u := by
  intro j u hj
  have hjl : j < n := by
    have := (List.getElem?_eq_some_iff.1 hj).1
    simpa [i64s, hn] using this
  rw [i64s_get _ j (by omega)] at hj
  rw [addr_addQ, hc j hjl]
  exact hj
theorem row_boxQ (w : World) (cs : Array Value) (T : TypeId) (n : Nat) (xs : List Value) (hx : cs.toList = xs) (hn : cs.size = n) (hm : n ≤ maxLen) : (w.alloc (.cells cs T)).ownsRow w.heap.size T 1 (.slice (some ⟨w.heap.size, 0, none⟩) n n) n xs := by
  subst hx; subst hn
  exact ⟨by simp, .inr ⟨w.heap.size, cs.size, cs, rfl, Nat.le_refl _, heap_alloc_new w _, Nat.le_refl _, hm, by simp, by rw [Nat.mul_one]; exact List.take_of_length_le (by simp)⟩⟩
theorem ints_lie {w : World} {v : Value} {zs : List Int} (h : IntsAt w v zs) (hp : 1 ≤ zs.length) : ∃ b off cap, v = .slice (some ⟨b, off, none⟩) zs.length cap ∧ b < w.heap.size ∧ ∀ j, j < zs.length → w.cell? ⟨b, off + j, none⟩ = some (.int .i64 (zs.getD j 0)) := by
  obtain ⟨_, ⟨a, c, _, rfl⟩ | h⟩ := h
  · simp at hp
  · exact h
set_option maxHeartbeats 1000000 in
theorem l00Own_any (zs : List Int) (v : Value) (w : World) (h : IntsAt w v zs) (h1 : 1 ≤ zs.length) (h8 : zs.length ≤ 8) :
    Calls Try.prog 46 #[v] w (CopyPost w zs) := by
  obtain ⟨i0, hi, hz0, hz1, hz2⟩ := info_parts infoI64
  obtain ⟨b, off, cap, rfl, hb, hc⟩ := ints_lie h h1
  obtain ⟨n, hn⟩ : ∃ n, zs.length = n := ⟨_, rfl⟩
  rw [hn] at hc h1 h8 ⊢
  have HSR := Lib.hid (src_of hn (fun j hj => (below_cell (below_al w (.cells #[] 2)) b (off + j) hb).trans (hc j hj)))
  have HR0 := Lib.hid (row_boxQ w #[] 2 0 [] rfl rfl (by unfold maxLen; omega))
  have HB0 := Lib.hid (below_al w (.cells #[] 2))
  have hl : (i64s zs).length = n * 1 := by simp [i64s, hn]
  have HL := Lib.hid hl
  clear hc h hl
  go_enter Try.func46, Try.ntmps46
  go_wp2_with (at_builtin; refine wpList_append_own_at _ rfl _ _ 22 rfl w.heap.size 2 i0 _ 1 8 Try.underlying22 hi hz0 hz1 hz2 rfl (by omega) (.slice (some ⟨w.heap.size, 0, none⟩) 0 0) 0 [] rfl HR0.out ⟨b, off, none⟩ n cap (i64s zs) rfl HL.out HSR.out (one_i64q _) (by unfold maxLen; omega) (by omega) (by simp) ?_; intro v1 w1 hown hgrow hnil hat)
  have HB1 := Lib.hid (HB0.out.grown hgrow HB0.out.size (fun j hj => by simp [Value.ownBlock] at hj; omega))
  have hne : ¬ v1 = .slice none 0 0 := fun e => by have := (hnil.1 e).1; cases this
  rw [Nat.zero_add, List.nil_append] at hown
  have HO := Lib.hid hown
  have HE := Lib.hid (show ∃ g cap', v1 = .slice (some ⟨g, 0, none⟩) n cap' ∧ w.heap.size ≤ g ∧ g < w1.heap.size from by
    rcases hown.2 with ⟨e, _⟩ | ⟨g, cap', cur, e, hb, hg, _⟩
    · exact absurd e hne
    · exact ⟨g, cap', e, hb, (Array.getElem?_eq_some_iff.1 hg).1⟩)
  clear hown hgrow hnil hat hne
  obtain ⟨g, c', rfl, hg1, hg2⟩ := HE.out
  go_wp2
  go_ret
  exact ⟨.slice (some ⟨g, 0, none⟩) n c', rfl, ⟨g, c', by rw [hn], hg1, hg2, by rw [hn]; exact HO.out⟩, HB1.out⟩
set_option maxHeartbeats 1000000 in
set_option maxRecDepth 100000 in
theorem listCopy_any (zs : List Int) (v : Value) (w : World) (h : IntsAt w v zs) (h1 : 1 ≤ zs.length) (h8 : zs.length ≤ 8) :
    Calls Try.prog 23 #[v] w (CopyPost w zs) := by
  obtain ⟨i0, hi, hz0, hz1, hz2⟩ := info_parts infoI64
  obtain ⟨b, off, cap, rfl, hb, hc⟩ := ints_lie h h1
  obtain ⟨n, hn⟩ : ∃ n, zs.length = n := ⟨_, rfl⟩
  rw [hn] at hc h1 h8 ⊢
  have HC := Lib.hid hc
  have HL := Lib.hid (show (i64s zs).length = n by simp [i64s, hn])
  clear hc h
  go_enter Try.func23, Try.ntmps23
  go_wp2_with (at_make; refine wpList_make_full _ rfl _ _ 22 rfl w.heap.size 2 i0 (.int .i64 0) 1 Try.underlying22 hi hz0 hz1 .i64 .i64 _ _ n rfl rfl rfl rfl (by rw [hz2]; omega) (by unfold maxLen; omega) (Nat.le_refl _) ?_; intro w0 hown hgrow)
  have hB0 := (Below.refl w.heap.size w).grown hgrow (Nat.le_refl _) (fun k hk => by cases hk)
  rw [made_ints] at hown
  have hsrc := src_of hn (fun j hj => (below_cell hB0 b (off + j) hb).trans (HC.out j hj))
  obtain ⟨cur, hcur, hcs⟩ : ∃ cur : Array Value, w0.heap[w.heap.size]? = some (.cells cur 2 (0, 0)) ∧ cur.size = n := by
    rcases hown.2 with ⟨e, _⟩ | ⟨g, cap', cur, e, hb2, hg, h3, h4, h5, h6⟩
    · cases e
    · simp only [Value.slice.injEq, Option.some.injEq, Addr.mk.injEq] at e
      obtain ⟨⟨e1, -⟩, -, e3⟩ := e
      subst e1; subst e3
      exact ⟨cur, hg, by omega⟩
  have HB := Lib.hid (below_setRow hB0 (Nat.le_refl w.heap.size) (i64s zs).toArray)
  have HO := Lib.hid (show (w0.setRow w.heap.size (i64s zs).toArray).ownsRow w.heap.size 2 1 (.slice (some ⟨w.heap.size, 0, none⟩) n n) n (i64s zs) from
    ⟨by rw [HL.out]; omega, .inr ⟨w.heap.size, n, (i64s zs).toArray, rfl, Nat.le_refl _, setRow_heap _ _ _ _ _ _ hcur, Nat.le_refl _, by unfold maxLen; omega, by simp [HL.out], by rw [Nat.mul_one]; simp; rw [← HL.out]; exact List.take_length⟩⟩)
  have hz1' : (Try.prog.info? 2).map (·.size) = some 1 := by rw [hi]; simp [hz1]
  have HSET := Lib.hid (show (cur.toList.take 0 ++ ((i64s zs) ++ cur.toList.drop (0 + (i64s zs).length))).toArray = (i64s zs).toArray by
    rw [HL.out, List.drop_of_length_le (by simp; omega)]; simp)
  have HSR := Lib.hid hsrc
  have HCU := Lib.hid hcur
  have HCS := Lib.hid hcs
  have hr := run_copy_row (P := Try.prog) w0 22 22 3 2 w.heap.size 0 n n ⟨b, off, none⟩ n cap cur 2 (i64s zs) Try.underlying22 hz1' hcur (by rw [HL.out]; simp) hsrc (by rw [HL.out, hcs]; omega) (one_i64q _)
  rw [List.append_assoc, HSET.out, HL.out] at hr
  clear hown hgrow hB0 hsrc hcur hcs
  rw [hr]
  go_simp
  go_wp2
  go_ret
  exact ⟨.slice (some ⟨w.heap.size, 0, none⟩) n n, rfl, ⟨w.heap.size, n, by rw [hn], Nat.le_refl _, (HO.out.lt _ rfl).2, by rw [hn]; exact HO.out⟩, HB.out⟩
end Go.Proofs.Ytpjopfhkgegahaa
