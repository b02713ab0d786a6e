/- A profile with rings of its own: the reference model's. -/
import Derived.Test.YtjdnjlakafcglaaAppOwn
import Derived.Test.YtjdnjlakafcglaaSumLie
set_option linter.unusedVariables false
namespace Go.Proofs.Ytjdnjlakafcglaa
open Go.ChangeShapes Go.WideShapes Go.ChangeAt Go.RowKit

theorem addr_addO (g o j : Nat) : (⟨g, o, none⟩ : Addr).add j = ⟨g, o + j, none⟩ := by unfold Addr.add; split <;> simp_all
theorem k2o {W W2 : World} {p : Nat} {u v : Value} (hS : W.cell? ⟨p, 0, none⟩ = some u ∧ W.cell? ⟨p, 1, none⟩ = some v) (hz : p < W.heap.size) (hb : Below W.heap.size W W2) : W2.cell? ⟨p, 0, none⟩ = some u ∧ W2.cell? ⟨p, 1, none⟩ = some v :=
  ⟨(below_cell hb _ _ hz).trans hS.1, (below_cell hb _ _ hz).trans hS.2⟩
theorem results_cell1o {P : Program} {fn : Func} {p : Tmp} {ty : TypeId} (h : fn.results = #[.cell p ty]) (tmps : Array Value) (w : World) :
    (results fn tmps).run P w = ((asAddr (tmps.getD p undef)).run P w).andThen fun a w1 => (loadVar ty a).run P w1 := results_cellR h tmps w
set_option maxRecDepth 100000 in
set_option maxHeartbeats 2000000 in
theorem l05Own_any (p b off n c : Nat) (s : ByteArray) (rs : List Rg) (w : World) (hn : rs.length = n) (h1 : 1 ≤ n) (h32 : n ≤ 32) (hpl : p < w.heap.size) (hbl : b < w.heap.size) (hp : ProfIn w p s (.slice (some ⟨b, off, none⟩) n c)) (hsrc : ∀ j, j < n * 3 → w.cell? ⟨b, off + j, none⟩ = some (.int .i64 ((flat rs).getD j 0))) :
    Calls Try.prog 127 #[.pointer (some ⟨p, 0, none⟩)] w fun e w' => ∃ g cap, e = .returned (.agg #[.string s, .slice (some ⟨g, 0, none⟩) n cap]) ∧ w.heap.size ≤ g ∧ w'.ownsRow w.heap.size 121 3 (.slice (some ⟨g, 0, none⟩) n cap) n (i64s (flat rs)) ∧ Below w.heap.size w w' := by
  obtain ⟨i0, hi, hz0, hz1, hz2⟩ := info_parts infoRing
  obtain ⟨p0, p1⟩ := hp
  have HFL := Lib.hid (show (i64s (flat rs)).length = n * 3 by rw [i64s_length, flat_len, hn])
  have hBA := below_al w (.cells #[.string ⟨#[]⟩, .slice none 0 0] 30)
  have q0 := (below_cell hBA _ _ hpl).trans p0
  have q1 := (below_cell hBA _ _ hpl).trans p1
  have HSR := Lib.hid (show ∀ j u, (i64s (flat rs))[j]? = some u → ((w.alloc (.cells #[.string ⟨#[]⟩, .slice none 0 0] 30)).alloc (.cells #[] 121)).drew.cell? ((⟨b, off, none⟩ : Addr).add j) = some u from fun j u hj => by
    have hjl : j < n * 3 := by rw [← HFL.out]; exact (List.getElem?_eq_some_iff.1 hj).1
    have h2 := below_cell (show Below (w.alloc (.cells #[.string ⟨#[]⟩, .slice none 0 0] 30)).heap.size (w.alloc (.cells #[.string ⟨#[]⟩, .slice none 0 0] 30)) ((w.alloc (.cells #[.string ⟨#[]⟩, .slice none 0 0] 30)).alloc (.cells #[] 121)).drew from (below_al (w.alloc (.cells #[.string ⟨#[]⟩, .slice none 0 0] 30)) (.cells #[] 121)).trans ⟨rfl, rfl, rfl, Nat.le_refl _, fun _ _ => rfl⟩) b (off + j) (Nat.lt_of_lt_of_le hbl hBA.size)
    rw [addr_addO, h2]
    refine ((below_cell hBA _ _ hbl).trans (hsrc j hjl)).trans ?_
    rw [i64s_get _ j (by rw [flat_len, hn]; exact hjl)] at hj
    exact hj)
  have HR0 := Lib.hid (show ((w.alloc (.cells #[.string ⟨#[]⟩, .slice none 0 0] 30)).alloc (.cells #[] 121)).drew.ownsRow (w.heap.size + 1) 121 3 (.slice (some ⟨w.heap.size + 1, 0, none⟩) 0 0) 0 [] from by
    have h := World.ownsRow.drew (World.ownsRow_made (base := w.heap.size + 1) (e := 121) (size := 3) (w.alloc (.cells #[.string ⟨#[]⟩, .slice none 0 0] 30)) #[] 0 (by simp) (by unfold maxLen; omega) rfl)
    have hsz : (w.alloc (.cells #[.string ⟨#[]⟩, .slice none 0 0] 30)).heap.size = w.heap.size + 1 := by simp
    rwa [hsz] at h)
  have HBK := Lib.hid (blankP_alloc w 30)
  have hl := alloc_lt2 w (.cells #[.string ⟨#[]⟩, .slice none 0 0] 30)
  have hpA := Nat.lt_of_lt_of_le hpl hBA.size
  have hsA : (w.alloc (.cells #[.string ⟨#[]⟩, .slice none 0 0] 30)).heap.size = w.heap.size + 1 := by simp
  have HBA := Lib.hid hBA
  clear p0 p1 hsrc hBA
  go_enter Try.func127, Try.ntmps127
  go_wp2
  generalize w.alloc (.cells #[.string ⟨#[]⟩, .slice none 0 0] 30) = wA at *
  have hba : Below wA.heap.size wA (wA.alloc (.cells #[] 121)).drew := (below_al wA (.cells #[] 121)).trans ⟨rfl, rfl, rfl, Nat.le_refl _, fun _ _ => rfl⟩
  have hBa := below_of HBA.out hba HBA.out.size
  have hlw : w.heap.size < (wA.alloc (.cells #[] 121)).drew.heap.size := Nat.lt_of_lt_of_le hl hba.size
  have HBKa := Lib.hid (blankP_kept hba hl HBK.out)
  have hbase : w.heap.size + 1 ≤ (wA.alloc (.cells #[] 121)).drew.heap.size := hlw
  have hpw : p ≠ w.heap.size := by omega
  go_region_held3 (fun w' => w'.cell? ⟨p, 0, none⟩ = some (.string s) ∧ w'.cell? ⟨p, 1, none⟩ = some (.slice (some ⟨b, off, none⟩) n c))
    (first | exact ⟨q0, q1⟩ | assumption | exact k2o (W := wA) ⟨q0, q1⟩ hpA hba | exact HM.out | exact ⟨(World.cell?_setCell_far _ _ _ _ hpw.symm).trans ((World.cell?_setCell_far _ _ _ _ hpw.symm).trans HM.out.1), (World.cell?_setCell_far _ _ _ _ hpw.symm).trans ((World.cell?_setCell_far _ _ _ _ hpw.symm).trans HM.out.2)⟩)
    ((refine step_append_own rfl _ _ 28 rfl (w.heap.size + 1) 121 i0 _ 3 24 Try.underlying28 hi hz0 hz1 hz2 rfl (by omega) (.slice (some ⟨w.heap.size + 1, 0, none⟩) 0 0) 0 [] (by first | rfl | simp [Act.eval]) HR0.out ⟨b, off, none⟩ n c (i64s (flat rs)) (by first | rfl | simp [Act.eval]) HFL.out HSR.out (one_i64s _) (by unfold maxLen; omega) (by omega) hbase ?_; intro v5 w5 hown5 hgrow5 hnil5 hat5; obtain ⟨g5, c5, rfl, hg5, hg5l⟩ := own_slice hown5 (fun e => by have := (hnil5.1 e).1; cases this); have hneW : some w.heap.size ≠ (Value.slice (some ⟨w.heap.size + 1, 0, none⟩) 0 0).ownBlock := (by simp [Value.ownBlock]); have hneP : some p ≠ (Value.slice (some ⟨w.heap.size + 1, 0, none⟩) 0 0).ownBlock := (by simp [Value.ownBlock]; omega); have hkk := k2o (W := wA) ⟨q0, q1⟩ hpA hba; have m0 := (gb_cell hgrow5 p 0 (Nat.lt_of_lt_of_le hpA hba.size) hneP).trans hkk.1; have m1 := (gb_cell hgrow5 p 1 (Nat.lt_of_lt_of_le hpA hba.size) hneP).trans hkk.2; have HBK5 := Lib.hid (blankP_gb hgrow5 hlw hneW HBKa.out); obtain ⟨⟨x0, x1⟩, x2, x3⟩ := HBK5.out; have HB5 := Lib.hid (hBa.grown hgrow5 (Nat.le_of_lt hlw) (fun q hq => by simp only [Value.ownBlock, Option.some.injEq] at hq; omega)); have HO5 := Lib.hid hown5; have HM := Lib.hid (show w5.cell? ⟨p, 0, none⟩ = some (.string s) ∧ w5.cell? ⟨p, 1, none⟩ = some (.slice (some ⟨b, off, none⟩) n c) from ⟨m0, m1⟩); clear hown5 hnil5 hat5 hgrow5 m0 m1 hkk))
  all_goals
    go_wp2
    try simp only [Exit.inBlock, Exit.then]
    refine bodyPost_ret_by (v := .agg #[.string s, .slice (some ⟨g5, 0, none⟩) n c5]) (by rw [results_cell1o rfl]; go_simp) rfl ?_
    refine ⟨g5, c5, rfl, by omega, ?_, (HB5.out.setCell (by show _ ≤ w.heap.size; omega) _).setCell (by show _ ≤ w.heap.size; omega) _⟩
    have ho := HO5.out
    rw [List.nil_append, Nat.zero_add] at ho
    exact row_baseR ((ho.kept (gb_set _ _ (gb_refl w5 (some w.heap.size))) (.inr (by simp [Value.ownBlock]; omega))).kept (gb_set _ _ (gb_refl _ (some w.heap.size))) (.inr (by simp [Value.ownBlock]; omega))) (by omega)
end Go.Proofs.Ytjdnjlakafcglaa
