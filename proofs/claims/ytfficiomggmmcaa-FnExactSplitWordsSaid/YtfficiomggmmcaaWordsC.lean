/- SplitWords: the reference model's walk and the program's. -/
import Derived.Test.YtfficiomggmmcaaSplitSpecP
import Derived.Test.YtfficiomggmmcaaFieldsMath
import Derived.Test.YtfficiomggmmcaaShelfW
namespace Go.Proofs.Ytfficiomggmmcaa
open Go.ChangeShapes Go.WideShapes Go.ChangeAt Go.RowKit

/-- What SplitWords answers. -/
def WordsPost (s : ByteArray) (w : World) (e : Ending) (w' : World) : Prop := ∃ (v : Value) (ws : List ByteArray), e = .returned v ∧ ws.map (·.data.toList) = wordsL s.data.toList ∧ OwnStrs w' w.heap.size v ws ∧ Below w.heap.size w w'
theorem maps_same : ∀ (l m : List ByteArray), l.map (·.data.toList) = m.map (·.data.toList) → l = m
  | [], [], _ => rfl
  | [], b :: m, h => by simp at h
  | a :: l, [], h => by simp at h
  | a :: l, b :: m, h => by
    simp only [List.map_cons, List.cons.injEq] at h
    rw [maps_same l m h.2]
    congr 1
    cases a; cases b
    simp only at h
    congr 1
    exact Array.toList_inj.1 h.1
theorem own_strs_of {w : World} {B g cap n : Nat} {ss : List ByteArray} (hn : ss.length = n) (h : w.ownsRow B 9 1 (.slice (some ⟨g, 0, none⟩) n cap) n (strVs ss)) : OwnStrs w B (.slice (some ⟨g, 0, none⟩) n cap) ss := by
  subst hn
  have hlt := h.lt g rfl
  exact ⟨g, cap, rfl, hlt.1, hlt.2, h⟩
theorem row_base {w : World} {B B' : Nat} {e : TypeId} {v : Value} {n : Nat} {xs : List Value} (h : w.ownsRow B e 1 v n xs) (hB : B' ≤ B) : w.ownsRow B' e 1 v n xs := by
  obtain ⟨h1, h2 | ⟨g, cap, cur, h3, h4, h5⟩⟩ := h
  · exact ⟨h1, .inl h2⟩
  · exact ⟨h1, .inr ⟨g, cap, cur, h3, Nat.le_trans hB h4, h5⟩⟩
theorem words_len (l : List UInt8) : (wordsL l).length ≤ l.length + 1 := by
  unfold wordsL
  exact Nat.le_trans (List.length_filter_le _ _) (splitL_len 32 l)

theorem blank_closure (w : World) : PredAt Try.prog 30 #[] encR (fun r => decide (r = 32)) w := fun W r _ => by
  unfold FnGives
  have hr : ((r : Int) == 32) = decide (r = 32) := by
    rw [Bool.eq_iff_iff]
    simp
    omega
  go_enter Try.func30, Try.ntmps30
  go_wp2
  go_ret
  exact ⟨by first | rfl | rw [hr] | (congr 1), 0, rfl⟩
theorem implWords_any (s : ByteArray) (w : World) (hs : s.size ≤ 1048576) :
    Calls Try.prog 12 #[.string s] w (WordsPost s w) := by
  have HC := Lib.hid (Try.strings_FieldsFunc 30 #[] (enters_of Try.func30 (by kernel_rfl) rfl) (fun r => decide (r = 32)) s w (by omega) (blank_closure w))
  go_enter Try.func12, Try.ntmps12
  go_wp2_with fail
  refine HC.out.mono ?_
  rintro e w1 ⟨g, rfl, hg, hown, hb⟩
  have HF := Lib.hid (fields_words (fun r => decide (r = 32)) (fun _ => rfl) s)
  generalize Lib.goFieldsP (fun r => decide (r = 32)) s = ws at *
  have HO := Lib.hid (own_strs_of (ss := ws) rfl hown)
  have HB := Lib.hid hb
  clear hown hb HC
  go_wp2
  go_ret
  exact ⟨_, ws, rfl, HF.out, HO.out, HB.out⟩

/-- What has been gathered after k parts. -/
def gather (ps : List ByteArray) (k : Nat) : List ByteArray := (ps.take k).filter (fun p => p.size != 0)
theorem gather_next (ps : List ByteArray) (k : Nat) (h : k < ps.length) : gather ps (k + 1) = if (ps.getD k ByteArray.empty).size = 0 then gather ps k else gather ps k ++ [ps.getD k ByteArray.empty] := by
  have e : ps.getD k ByteArray.empty = ps[k] := by rw [List.getD_eq_getElem?_getD, List.getElem?_eq_getElem h]; rfl
  unfold gather
  rw [List.take_succ_eq_append_getElem h, List.filter_append, e]
  by_cases h0 : ps[k].size = 0
  · rw [if_pos h0, List.filter_cons_of_neg (by simp [h0])]; simp
  · rw [if_neg h0, List.filter_cons_of_pos (by simpa using h0)]; rfl
theorem gather_all (ps : List ByteArray) : (gather ps ps.length).map (·.data.toList) = (ps.map (·.data.toList)).filter (fun x => !x.isEmpty) := by
  unfold gather
  rw [List.take_length, List.filter_map]
  congr 1
  apply List.filter_congr
  intro p _
  simp only [Function.comp]
  have : p.size = p.data.toList.length := by simp
  rw [this]
  cases p.data.toList <;> simp
theorem gather_len (ps : List ByteArray) (k : Nat) : (gather ps k).length ≤ k := by
  unfold gather
  exact Nat.le_trans (List.length_filter_le _ _) (List.length_take_le _ _)
theorem strs_get {w : World} {B g cap n : Nat} {ss : List ByteArray} (hn : ss.length = n) (hown : w.ownsRow B 9 1 (.slice (some ⟨g, 0, none⟩) n cap) n (strVs ss)) (j : Nat) (hj : j < n) : w.cell? ⟨g, j, none⟩ = some (.string (ss.getD j ByteArray.empty)) := by
  rw [hown.cellAt j (by omega)]
  simp [strVs, List.getD, show j < ss.length by omega]

set_option maxHeartbeats 1000000 in
theorem specWords_any (s : ByteArray) (w : World) (hs : s.size ≤ 1048576) :
    Calls Try.prog 11 #[.string s] w (WordsPost s w) := by
  obtain ⟨i0, hi, hz0, hz1, hz2⟩ := info_parts infoStr
  go_enter Try.func11, Try.ntmps11
  go_wp2_with fail
  refine (split_any s 32 _ hs).mono ?_
  rintro e w1 ⟨v1, ps, rfl, hps, ⟨g1, c1, rfl, hB1, hlt1, hown1⟩, hb1⟩
  obtain ⟨n, hn⟩ : ∃ n, ps.length = n := ⟨_, rfl⟩
  rw [hn] at hown1 ⊢
  have hnl : n ≤ 1048577 := by
    have := splitL_len 32 s.data.toList
    rw [← hps, List.length_map, hn] at this
    simp at this
    omega
  have HN := Lib.hid hn
  have HPS := Lib.hid hps
  have HO1 := Lib.hid hown1
  have HB1 := Lib.hid hb1
  have hsz1 := hb1.size
  clear hn hps hown1 hb1
  go_wp2
  go_loopw [4, 5] (fun v i wr => ∃ k : Nat, k ≤ n ∧ i = .int .i64 k ∧ OwnStrs wr w1.heap.size v (gather ps k) ∧ Below w1.heap.size w1 wr) (fun _ i _ => n - (intOf i).toNat)
  case atStart => exact ⟨0, by omega, rfl, own_strs_of rfl (by simpa [strVs, gather] using World.ownsRow_made w1 #[] 0 (Nat.le_refl _) (by simp) (by simp)), (Below.refl _ _).alloc (Nat.le_refl _) _⟩
  case round =>
    obtain ⟨k, hk, rfl, ⟨g, cap, rfl, hg1, hg2, hown⟩, hbw⟩ := hrel
    have HO := Lib.hid hown
    have HB := Lib.hid hbw
    have hsz := hbw.size
    have hgl := gather_len ps k
    have HGN := Lib.hid (gather_next ps k)
    by_cases hlt : k < n
    · have hcell : wr.cell? ⟨g1, k, none⟩ = some (.string (ps.getD k ByteArray.empty)) := by rw [hbw.cell (p := ⟨g1, k, none⟩) hlt1]; exact strs_get HN.out HO1.out k hlt
      have HGX := Lib.hid (HGN.out (by rw [HN.out]; exact hlt))
      clear hown hbw
      generalize ps.getD k ByteArray.empty = q at *
      by_cases hq : q.size = 0
      · have hqe : q = ByteArray.empty := by
          cases q with
          | mk d => have : d = #[] := Array.eq_empty_of_size_eq_zero hq
                    subst this; rfl
        subst hqe
        have HG := Lib.hid (show gather ps (k + 1) = gather ps k by rw [HGX.out, if_pos hq])
        go_wp2
        go_roundw
        case rel => exact ⟨k + 1, by omega, by go_num, by rw [HG.out]; exact own_strs_of rfl HO.out, HB.out⟩
        case measure => simp [intOf]; omega
      · have HG := Lib.hid (show gather ps (k + 1) = gather ps k ++ [q] by rw [HGX.out, if_neg hq])
        have hne : q.toList.isEmpty = false := by
          rw [ByteArray.toList_eq]
          cases h : q.data.toList with
          | nil => exact absurd (by have := congrArg List.length h; simpa using this) hq
          | cons a l => rfl
        clear hq
        go_wp2_with (at_builtin; refine wpList_append_own _ rfl _ _ 23 rfl w1.heap.size 9 i0 (.string ByteArray.empty) 1 16 Try.underlying23 hi hz0 hz1 hz2 rfl (by decide) _ _ _ rfl (HO.out.alloc _) ⟨_, 0, none⟩ 1 1 [.string q] rfl rfl (cell_one _ _ _) ?c2 ?c3 ?c4 ?c5 ?_)
        case c2 => first | rfl | (intro u hu; simp at hu; subst hu; rfl)
        case c3 => unfold maxLen; omega
        case c4 => omega
        case c5 => first | omega | (simp; omega)
        intro v2 w2 hown2 hgrow2 _
        have HO2 := Lib.hid (show OwnStrs w2 w1.heap.size v2 (gather ps (k + 1)) by
          rw [HG.out]
          exact strs_own (n := (gather ps k).length + 1) (by rw [List.length_append]; rfl) (by omega) (by rw [strVs_snoc]; exact hown2))
        have HB2 := Lib.hid ((HB.out.alloc (by omega) _).grown hgrow2 (by simp; omega) (fun k hk => (HO.out.lt k hk).1))
        clear hown2 hgrow2
        go_wp2
        go_roundw
        case rel => exact ⟨k + 1, by omega, by go_num, HO2.out, HB2.out⟩
        case measure => simp [intOf]; omega
    · obtain rfl : k = n := by omega
      have HE := Lib.hid (show (gather ps k).map (·.data.toList) = wordsL s.data.toList by rw [← HN.out, gather_all, HPS.out]; rfl)
      clear hown hbw
      go_wp2
      go_ret
      exact ⟨_, gather ps k, rfl, HE.out, own_strs_of rfl (row_base HO.out hsz1), HB1.out.trans (HB.out.mono hsz1)⟩
end Go.Proofs.Ytfficiomggmmcaa
