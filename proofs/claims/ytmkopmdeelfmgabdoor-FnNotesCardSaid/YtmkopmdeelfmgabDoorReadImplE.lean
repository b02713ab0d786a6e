/- ReadList: the program's walk. -/
import Derived.Test.YtmkopmdeelfmgabDoorReadSpecE
import Derived.Test.YtmkopmdeelfmgabDoorShelfD
import Derived.Test.YtmkopmdeelfmgabDoorHzBack
namespace Go.Proofs.YtmkopmdeelfmgabDoor
open Go.ChangeShapes Go.WideShapes Go.ChangeAt Go.RowKit

/-- The variables that the program's reading of a list looks into. -/
structure ListOk (w : World) : Prop where
  rd : ReadOk w
  mx : MaxOk w
theorem max_kept {W W' : World} (hb : Below W.heap.size W W') (h : MaxOk W) : MaxOk W' := by
  obtain ⟨m, hm⟩ := h
  exact ⟨m, by rw [hb.cell (p := ⟨_, 0, none⟩) (Lib.lt_of_cell hm)]; exact hm⟩
theorem list_kept {W W' : World} (hb : Below W.heap.size W W') (h : ListOk W) : ListOk W' := ⟨read_kept hb h.rd, max_kept hb h.mx⟩
theorem max_of {W : World} (h : W.ShapedOpen Tryd.prog) : MaxOk W := Tryd.laysM147.s1_3 W h

theorem splitN_any (s : ByteArray) (w : World) (hm : MaxOk w) (hs : s.size ≤ 1048576) :
    Calls Tryd.prog 37 #[.string s, .string ⟨#[44]⟩, .int .i64 65] w fun e w' => ∃ (g cap : Nat) (qs : List ByteArray), e = .returned (.slice (some ⟨g, 0, none⟩) qs.length cap) ∧ qs.map (·.data.toList) = Lib.splitK [44] 0 (min 65 (s.data.toList.length + 1) - 1) s.data.toList ∧
      g < w'.heap.size ∧ (∀ j, j < qs.length → w'.cell? ⟨g, j, none⟩ = some (.string (qs.getD j ByteArray.empty))) ∧ Below w.heap.size w w' := by
  obtain ⟨m, hm⟩ := hm
  refine (Tryd.strings_SplitN s ⟨#[44]⟩ 65 m w (by omega) hm (by decide) (by decide) (by decide)).mono ?_
  rintro e w' ⟨rfl, rfl⟩
  refine ⟨w.heap.size, _, Lib.splitB ⟨#[44]⟩ 0 (min 65 (s.size + 1) - 1) s, rfl, ?_, by simp, fun j hj => ?_, (Below.refl _ _).alloc (Nat.le_refl _) _⟩
  · rw [Lib.splitB_data, size_list]
  · rw [World.cell?_alloc_new]
    unfold Lib.cellsOf
    rw [List.getElem?_toArray, List.getElem?_append_left (by simpa using hj), List.getElem?_map, List.getD_eq_getElem?_getD, List.getElem?_eq_getElem hj]
    rfl

def filled (zs : List Int) (n : Nat) : List Int := zs ++ List.replicate (n - zs.length) 0
theorem filled_next (zs : List Int) (n k : Nat) (z : Int) (hk : zs.length = k) (h : k < n) : (i64s (filled zs n)).set k (.int .i64 z) = i64s (filled (zs ++ [z]) n) := by
  unfold filled i64s
  rw [List.length_append, List.length_singleton, hk, show n - k = n - (k + 1) + 1 from by omega, List.replicate_succ, List.map_append, List.map_cons, List.set_append_right _ _ (by simp [hk]), List.length_map, hk, Nat.sub_self, List.set_cons_zero]
  simp
theorem filled_get (zs : List Int) (n k : Nat) (hk : zs.length = k) (h : k < n) : ∃ old, (i64s (filled zs n))[k]? = some (.int .i64 old) := by
  refine ⟨(filled zs n).getD k 0, i64s_get _ k ?_⟩
  unfold filled
  rw [List.length_append, List.length_replicate]; omega
theorem readV_many {s : ByteArray} (h1 : s.data.toList ≠ [45]) {qs : List ByteArray} (hq : qs.map (·.data.toList) = Lib.splitK [44] 0 (min 65 (s.data.toList.length + 1) - 1) s.data.toList) (h : 64 < qs.length) : readV s.data.toList = none := by
  unfold readV
  rw [if_neg h1, if_pos]
  by_cases hc : 64 < (splitL 44 s.data.toList).length
  · exact hc
  · have e := (split65 44 s.data.toList).2 (by omega)
    rw [← hq] at e
    have := congrArg List.length e
    rw [List.length_map] at this
    omega
theorem readV_few {s : ByteArray} (h1 : s.data.toList ≠ [45]) {qs : List ByteArray} (hq : qs.map (·.data.toList) = Lib.splitK [44] 0 (min 65 (s.data.toList.length + 1) - 1) s.data.toList) (h : ¬ 64 < qs.length) :
    readV s.data.toList = numsOf (qs.map (·.data.toList)) ∧ qs.map (·.data.toList) = splitL 44 s.data.toList := by
  have hc : ¬ 64 < (splitL 44 s.data.toList).length := by
    intro hc
    have := (split65 44 s.data.toList).1 hc
    rw [← hq, List.length_map] at this
    exact h this
  have e := (split65 44 s.data.toList).2 (by omega)
  rw [← hq] at e
  refine ⟨?_, e⟩
  unfold readV
  rw [if_neg h1, if_neg hc, e]
theorem cells_one (w : World) (x : Int) (T : TypeId) (n : Nat) (hn : n = w.heap.size) : ∀ j, j < 1 → (w.alloc (.cells #[.int .i64 x] T)).cell? ⟨n, 0 + j, none⟩ = some (.int .i64 ([x].getD j 0)) := by
  subst hn
  intro j hj
  match j, hj with
  | 0, _ => go_simp
theorem in_one (lo hi c : Int) : allIn lo hi [c] = inB c lo hi := by simp [allIn]

set_option maxHeartbeats 1600000 in
set_option maxRecDepth 100000 in
theorem implReadList_any (s : ByteArray) (w : World) (hs : s.size ≤ 1048576) (hp : Hid (ListOk w)) :
    Calls Tryd.prog 53 #[.string s] w (ReadPost s w) := by
  obtain ⟨i0, hi, hz0, hz1, hz2⟩ := info_parts infoI64
  by_cases hm : s = ⟨#[45]⟩
  · have HV := Lib.hid (show readV s.data.toList = some [] by unfold readV; rw [if_pos (minus_list hm)])
    subst hm
    go_enter Tryd.func53, Tryd.ntmps53
    go_wp2
    go_ret2
    exact ⟨(Below.refl _ _).alloc (Nat.le_refl _) _, .inr ⟨[], _, HV.out, by simp, rfl, own_of_row rfl (by simpa [i64s] using World.ownsRow_made w #[] 0 (Nat.le_refl _) (by simp) (by simp))⟩⟩
  · have hml : s.data.toList ≠ [45] := fun h => hm (bytes_same h)
    have hcmp : (s.toList == [45]) = false := beq_eq_false_iff_ne.2 (by rw [ByteArray.toList_eq]; exact hml)
    have HML := Lib.hid hml
    clear hm hml
    go_enter Tryd.func53, Tryd.ntmps53
    go_wp2_with fail
    refine (splitN_any s _ hp.out.mx hs).mono ?_
    rintro e w1 ⟨g1, c1, qs, rfl, hqs, hlt1, hcells, hb1⟩
    obtain ⟨n, hn⟩ : ∃ n, qs.length = n := ⟨_, rfl⟩
    rw [hn] at hcells ⊢
    have HN := Lib.hid hn
    have HQS := Lib.hid hqs
    have HCE := Lib.hid hcells
    have HB1 := Lib.hid hb1
    have hsz1 := hb1.size
    clear hqs hcells hb1 hn
    by_cases h64 : 64 < n
    · have HV := Lib.hid (readV_many HML.out HQS.out (by rw [HN.out]; exact h64))
      go_wp2
      go_ret2
      exact ⟨HB1.out, .inl ⟨HV.out, rfl⟩⟩
    · have HV := Lib.hid (readV_few HML.out HQS.out (by rw [HN.out]; exact h64))
      have hk1 : 1 ≤ n := by
        have h0 := splitL_ne 44 s.data.toList
        rw [← HV.out.2] at h0
        cases hq : qs with
        | nil => rw [hq] at h0; exact absurd rfl h0
        | cons a l => have := HN.out; rw [hq] at this; simp at this; omega
      go_wp2_with (at_make; refine wpList_make_full _ rfl _ _ 36 rfl w1.heap.size 2 i0 (.int .i64 0) 1 Tryd.underlying36 hi hz0 hz1 .i64 .i64 _ _ n rfl rfl rfl rfl (by rw [hz2]; omega) (by unfold maxLen; omega) (Nat.le_refl _) ?_; intro w0 hown hgrow)
      have HB0 := Lib.hid ((Below.refl w1.heap.size w1).grown hgrow (Nat.le_refl _) (fun k hk => by cases hk))
      rw [made_ints] at hown
      have HO0 := Lib.hid (show w0.ownsRow w1.heap.size 2 1 (.slice (some ⟨w1.heap.size, 0, none⟩) n n) n (i64s (filled [] n)) by unfold filled; rw [List.length_nil, Nat.sub_zero, List.nil_append]; exact hown)
      clear hgrow hown
      go_wp2
      go_loopw [23] (fun i wr => ∃ (k : Nat) (zs : List Int), k ≤ n ∧ i = .int .i64 k ∧ Hid (zs.length = k) ∧ Hid (∀ j, j < k → numIn ((qs.map (·.data.toList)).getD j []) = some (zs.getD j 0)) ∧ wr.ownsRow w1.heap.size 2 1 (.slice (some ⟨w1.heap.size, 0, none⟩) n n) n (i64s (filled zs n)) ∧ Below w1.heap.size w1 wr) (fun i _ => n - (intOf i).toNat)
      case atStart => exact ⟨0, [], by omega, rfl, rfl, fun j hj => by omega, HO0.out, HB0.out⟩
      case round =>
        obtain ⟨k, zs, hk, rfl, HL, HA, hown, hbw⟩ := hrel
        have HO := Lib.hid hown
        have HB := Lib.hid hbw
        have hsz := hbw.size
        by_cases hlt : k < n
        · have hcell : wr.cell? ⟨g1, k, none⟩ = some (.string (qs.getD k ByteArray.empty)) := by rw [hbw.cell (p := ⟨g1, k, none⟩) hlt1]; exact HCE.out k hlt
          have hq := part_size HV.out.2 k (by rw [HN.out]; exact hlt)
          have HG := Lib.hid (map_getD qs k (by rw [HN.out]; exact hlt))
          have HP := Lib.hid (read_kept (HB1.out.trans (hbw.mono hsz1)) hp.out.rd)
          clear hown hbw
          generalize qs.getD k ByteArray.empty = q at *
          by_cases ho : numOk q = true
          · by_cases hin : inB (numV q) (-1000000000000) 1000000000000 = true
            · have HY := Lib.hid (numIn_yes hin ho)
              go_wp2_with fail
              refine (implReadDecimal_any q _ (by omega) HP).mono ?_
              rintro e w3 ⟨hr, hb3⟩
              unfold NumRet at hr
              subst hr
              have HO3 := Lib.hid (row_below hb3 HO.out)
              have HB3 := Lib.hid (below_of HB.out hb3 HB.out.size)
              have hs3 := hb3.size
              clear hb3
              generalize numV q = z at *
              go_wp2_with fail
              refine (within_i64 _ _ [z] _ 0 1 1 _ rfl (by omega) (cells_one _ _ _ _ rfl)).mono ?_
              rintro e w5 ⟨rfl, rfl⟩
              rw [in_one]
              have hw3 : w1.heap.size < w3.heap.size := (HO3.out.lt _ rfl).2
              have hf := HO3.out.frozenAt k
              have hat : w3.cell? ⟨w1.heap.size, k, none⟩ = (i64s (filled zs n))[k]? := HO3.out.cellAt k (by omega)
              obtain ⟨old, hold⟩ := filled_get zs n k HL.out hlt
              rw [hold] at hat
              have HS := Lib.hid (HO3.out.stored k (.int .i64 z))
              have HBS := Lib.hid (HB3.out.setCell (p := ⟨w1.heap.size, k, none⟩) (Nat.le_refl _) (.int .i64 z))
              have HFN := Lib.hid (filled_next zs n k z HL.out hlt)
              clear hold
              go_wp2
              go_roundw
              case rel => exact ⟨k + 1, zs ++ [z], by omega, by go_num, (show (zs ++ [z]).length = k + 1 by rw [List.length_append, HL.out]; rfl), (show ∀ j, j < k + 1 → _ from fun j hj => by
                by_cases e : j = k
                · subst e
                  rw [HG.out, HY.out]
                  have := snoc_last zs z
                  rw [HL.out] at this
                  rw [this]
                · rw [snoc_get zs z j (by rw [HL.out]; omega)]; exact HA.out j (by omega)), by rw [← HFN.out]; exact HS.out.1.alloc _, HBS.out.alloc HBS.out.size _⟩
              case measure => simp [intOf]; omega
            · have hin' : inB (numV q) (-1000000000000) 1000000000000 = false := by simpa using hin
              have HR := Lib.hid (nums_none (qs.map (·.data.toList)) k (by rw [List.length_map, HN.out]; exact hlt) (by rw [HG.out]; exact numIn_out hin'))
              clear hin
              go_wp2_with fail
              refine (implReadDecimal_any q _ (by omega) HP).mono ?_
              rintro e w3 ⟨hr, hb3⟩
              unfold NumRet at hr
              subst hr
              have HB3 := Lib.hid (below_of HB.out hb3 HB.out.size)
              have hs3 := hb3.size
              clear hb3
              generalize numV q = z at *
              go_wp2_with fail
              refine (within_i64 _ _ [z] _ 0 1 1 _ rfl (by omega) (cells_one _ _ _ _ rfl)).mono ?_
              rintro e w5 ⟨rfl, rfl⟩
              rw [in_one]
              go_wp2
              go_ret2
              exact ⟨HB1.out.trans ((HB3.out.alloc (by omega) _).mono hsz1), .inl ⟨by rw [HV.out.1]; exact HR.out, rfl⟩⟩
          · have ho' : numOk q = false := by simpa using ho
            have HR := Lib.hid (nums_none (qs.map (·.data.toList)) k (by rw [List.length_map, HN.out]; exact hlt) (by rw [HG.out]; exact numIn_no ho'))
            clear ho
            go_wp2_with fail
            refine (implReadDecimal_any q _ (by omega) HP).mono ?_
            rintro e w3 ⟨hr, hb3⟩
            unfold NumRet at hr
            subst hr
            have HB3 := Lib.hid (below_of HB.out hb3 HB.out.size)
            clear hb3
            generalize numV q = z at *
            go_wp2
            go_ret2
            exact ⟨HB1.out.trans (HB3.out.mono hsz1), .inl ⟨by rw [HV.out.1]; exact HR.out, rfl⟩⟩
        · obtain rfl : k = n := by omega
          have HR := Lib.hid (nums_some (qs.map (·.data.toList)) zs (by rw [List.length_map, HN.out, HL.out]) (fun j hj => HA.out j (by rw [List.length_map, HN.out] at hj; exact hj)))
          clear hown hbw
          have hfl : filled zs k = zs := by unfold filled; rw [HL.out, Nat.sub_self]; simp
          rw [hfl] at HO
          clear hfl
          go_wp2
          go_ret2
          exact ⟨HB1.out.trans (HB.out.mono hsz1), .inr ⟨zs, _, by rw [HV.out.1]; exact HR.out, by rw [HL.out]; omega, rfl, own_of_row HL.out (row_base HO.out hsz1)⟩⟩
end Go.Proofs.YtmkopmdeelfmgabDoor
