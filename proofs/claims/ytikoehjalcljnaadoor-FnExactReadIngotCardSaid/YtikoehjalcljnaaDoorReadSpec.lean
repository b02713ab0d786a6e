/- ReadList: what is read; the reference model's walk. -/
import Derived.Test.YtikoehjalcljnaaDoorSplitSpec
import Derived.Test.YtikoehjalcljnaaDoorNumImpl
namespace Go.Proofs.YtikoehjalcljnaaDoor
open Go.ChangeShapes Go.WideShapes Go.ChangeAt Go.RowKit

def numIn (p : List UInt8) : Option Int := (specNum p).bind fun v => if inB v (-1000000000000) 1000000000000 = true then some v else none
def numsOf : List (List UInt8) → Option (List Int)
  | [] => some []
  | p :: r => (numIn p).bind fun v => (numsOf r).map (v :: ·)
def readV (l : List UInt8) : Option (List Int) := if l = [45] then some [] else if 64 < (splitL 44 l).length then none else numsOf (splitL 44 l)

theorem nums_some : ∀ (ps : List (List UInt8)) (zs : List Int), zs.length = ps.length → (∀ j, j < ps.length → numIn (ps.getD j []) = some (zs.getD j 0)) → numsOf ps = some zs
  | [], zs, h, _ => by
    have : zs = [] := List.eq_nil_of_length_eq_zero h
    subst this; rfl
  | p :: r, [], h, _ => by simp at h
  | p :: r, z :: zs, h, ha => by
    have h0 := ha 0 (by simp)
    have ih := nums_some r zs (by simpa using h) (fun j hj => by have := ha (j + 1) (by simp; omega); simpa using this)
    simp only [List.getD_cons_zero] at h0
    rw [numsOf, h0, ih]; rfl
theorem nums_none : ∀ (ps : List (List UInt8)) (k : Nat), k < ps.length → numIn (ps.getD k []) = none → numsOf ps = none
  | [], k, h, _ => by simp at h
  | p :: r, 0, _, h0 => by simp only [List.getD_cons_zero] at h0; rw [numsOf, h0]; rfl
  | p :: r, k + 1, h, h0 => by
    rw [numsOf, nums_none r k (by simpa using h) (by simpa using h0)]
    cases numIn p <;> rfl
theorem numIn_no {q : ByteArray} (h : numOk q = false) : numIn q.data.toList = none := by
  unfold numOk at h; unfold numIn
  cases hs : specNum q.data.toList with
  | none => rfl
  | some v => rw [hs] at h; cases h
theorem numIn_out {q : ByteArray} (h : inB (numV q) (-1000000000000) 1000000000000 = false) : numIn q.data.toList = none := by
  unfold numV at h; unfold numIn
  cases hs : specNum q.data.toList with
  | none => rfl
  | some v => rw [hs] at h; simp only [Option.getD_some] at h; simp [h]
theorem numIn_yes {q : ByteArray} (h : inB (numV q) (-1000000000000) 1000000000000 = true) (ho : numOk q = true) : numIn q.data.toList = some (numV q) := by
  unfold numOk at ho; unfold numV at h ⊢; unfold numIn
  cases hs : specNum q.data.toList with
  | none => rw [hs] at ho; cases ho
  | some v => rw [hs] at h; simp only [Option.getD_some] at h ⊢; simp [h]
theorem map_getD (ps : List ByteArray) (k : Nat) (h : k < ps.length) : (ps.map (·.data.toList)).getD k [] = (ps.getD k ByteArray.empty).data.toList := by
  simp [List.getD, h]
theorem part_size {s : ByteArray} {c : UInt8} {ps : List ByteArray} (h : ps.map (·.data.toList) = splitL c s.data.toList) (k : Nat) (hk : k < ps.length) : (ps.getD k ByteArray.empty).size ≤ s.size := by
  have hm : (ps.getD k ByteArray.empty).data.toList ∈ splitL c s.data.toList := by
    rw [← h, ← map_getD ps k hk, List.getD_eq_getElem?_getD, List.getElem?_eq_getElem (by simpa using hk)]
    exact List.getElem_mem _
  have := splitL_part c _ _ hm
  rw [size_list, size_list] at this
  exact this
theorem strs_cell {w : World} {B g cap n : Nat} {ss : List ByteArray} (hn : ss.length = n) (hown : w.ownsRow B 9 1 (.slice (some ⟨g, 0, none⟩) n cap) n (strVs ss)) (j : Nat) (hj : j < n) : w.cell? ⟨g, j, none⟩ = some (.string (ss.getD j ByteArray.empty)) := by
  rw [hown.cellAt j (by omega)]
  simp [strVs, List.getD, show j < ss.length by omega]
theorem ints_snoc (zs : List Int) (z : Int) : i64s (zs ++ [z]) = i64s zs ++ [.int .i64 z] := by simp [i64s]
theorem snoc_get (zs : List Int) (z : Int) (j : Nat) (h : j < zs.length) : (zs ++ [z]).getD j 0 = zs.getD j 0 := by
  rw [List.getD_eq_getElem?_getD, List.getD_eq_getElem?_getD, List.getElem?_append_left h]
theorem snoc_last (zs : List Int) (z : Int) : (zs ++ [z]).getD zs.length 0 = z := by
  rw [List.getD_eq_getElem?_getD, List.getElem?_append_right (Nat.le_refl _)]; simp

/-- What a reading of a list answers. -/
def ReadPost (s : ByteArray) (w : World) (e : Ending) (w' : World) : Prop := Below w.heap.size w w' ∧
  ((readV s.data.toList = none ∧ e = .returned (.tuple #[.slice none 0 0, .bool false])) ∨ ∃ zs v, readV s.data.toList = some zs ∧ zs.length ≤ 64 ∧ e = .returned (.tuple #[v, .bool true]) ∧ OwnInts w' w.heap.size v zs)
theorem row_base {w : World} {B B' : Nat} {e : TypeId} {v : Value} {n : Nat} {xs : List Value} (h : w.ownsRow B e 1 v n xs) (hB : B' ≤ B) : w.ownsRow B' e 1 v n xs := by
  obtain ⟨h1, h2 | ⟨g, cap, cur, h3, h4, h5⟩⟩ := h
  · exact ⟨h1, .inl h2⟩
  · exact ⟨h1, .inr ⟨g, cap, cur, h3, Nat.le_trans hB h4, h5⟩⟩
theorem own_of_row {w : World} {B g cap n : Nat} {zs : List Int} (hn : zs.length = n) (h : w.ownsRow B 2 1 (.slice (some ⟨g, 0, none⟩) n cap) n (i64s zs)) : OwnInts w B (.slice (some ⟨g, 0, none⟩) n cap) zs := by
  subst hn
  have hlt := h.lt g rfl
  exact ⟨g, cap, rfl, hlt.1, hlt.2, h⟩
theorem minus_list {s : ByteArray} (h : s = ⟨#[45]⟩) : s.data.toList = [45] := by subst h; rfl

set_option maxHeartbeats 1000000 in
set_option maxRecDepth 100000 in
theorem specReadList_any (s : ByteArray) (w : World) (hs : s.size ≤ 1048576) :
    Calls Tryd.prog 46 #[.string s] w (ReadPost s w) := by
  obtain ⟨i0, hi, hz0, hz1, hz2⟩ := info_parts infoI64
  by_cases hm : s = ⟨#[45]⟩
  · have HV := Lib.hid (show readV s.data.toList = some [] by unfold readV; rw [if_pos (minus_list hm)])
    subst hm
    go_enter Tryd.func46, Tryd.ntmps46
    go_wp2
    go_ret2
    exact ⟨(Below.refl _ _).alloc (Nat.le_refl _) _, .inr ⟨[], _, HV.out, by simp, rfl, own_of_row rfl (by simpa [i64s] using World.ownsRow_made w #[] 0 (Nat.le_refl _) (by simp) (by simp))⟩⟩
  · have hml : s.data.toList ≠ [45] := fun h => hm (bytes_same h)
    have hcmp : (s.toList == [45]) = false := beq_eq_false_iff_ne.2 (by rw [ByteArray.toList_eq]; exact hml)
    have HML := Lib.hid hml
    clear hm hml
    go_enter Tryd.func46, Tryd.ntmps46
    go_wp2_with fail
    refine (split_any s 44 _ hs).mono ?_
    rintro e w1 ⟨v1, ps, rfl, hps, ⟨g1, c1, rfl, hB1, hlt1, hown1⟩, hb1⟩
    obtain ⟨n, hn⟩ : ∃ n, ps.length = n := ⟨_, rfl⟩
    rw [hn] at hown1 ⊢
    have HN := Lib.hid hn
    have HPS := Lib.hid hps
    have HO1 := Lib.hid hown1
    have HB1 := Lib.hid hb1
    have hsz1 := hb1.size
    clear hps hown1 hb1 hn
    by_cases h64 : 64 < n
    · have HV := Lib.hid (show readV s.data.toList = none by unfold readV; rw [if_neg HML.out, if_pos]; rw [← HPS.out, List.length_map, HN.out]; exact h64)
      go_wp2
      go_ret2
      exact ⟨HB1.out, .inl ⟨HV.out, rfl⟩⟩
    · have HV := Lib.hid (show readV s.data.toList = numsOf (ps.map (·.data.toList)) by unfold readV; rw [if_neg HML.out, if_neg, HPS.out]; rw [← HPS.out, List.length_map, HN.out]; exact h64)
      go_wp2
      go_loopw [5, 6] (fun v i wr => ∃ (k : Nat) (zs : List Int), k ≤ n ∧ i = .int .i64 k ∧ Hid (zs.length = k) ∧ Hid (∀ j, j < k → numIn ((ps.map (·.data.toList)).getD j []) = some (zs.getD j 0)) ∧ wr.ownsRow w1.heap.size 2 1 v k (i64s zs) ∧ Below w1.heap.size w1 wr) (fun _ i _ => n - (intOf i).toNat)
      case atStart => exact ⟨0, [], by omega, rfl, rfl, fun j hj => by omega, by simpa [i64s] using World.ownsRow_made w1 #[] 0 (Nat.le_refl _) (by simp) (by simp), (Below.refl _ _).alloc (Nat.le_refl _) _⟩
      case round =>
        obtain ⟨k, zs, hk, rfl, HL, HA, hown, hbw⟩ := hrel
        have HO := Lib.hid hown
        have HB := Lib.hid hbw
        have hsz := hbw.size
        by_cases hlt : k < n
        · have hcell : wr.cell? ⟨g1, k, none⟩ = some (.string (ps.getD k ByteArray.empty)) := by rw [hbw.cell (p := ⟨g1, k, none⟩) hlt1]; exact strs_cell HN.out HO1.out k hlt
          have hq := part_size HPS.out k (by rw [HN.out]; exact hlt)
          have HG := Lib.hid (map_getD ps k (by rw [HN.out]; exact hlt))
          clear hown hbw
          generalize ps.getD k ByteArray.empty = q at *
          by_cases ho : numOk q = true
          · by_cases hin : inB (numV q) (-1000000000000) 1000000000000 = true
            · have HY := Lib.hid (numIn_yes hin ho)
              go_wp2_with fail
              refine (specNumber_any q _ (by omega)).mono ?_
              rintro e w3 ⟨hr, rfl⟩
              unfold NumRet at hr
              subst hr
              generalize numV q = z at *
              go_wp2_with fail
              refine (l00In_any _ _ _ _).mono ?_
              rintro e w3 ⟨rfl, rfl⟩
              go_wp2_with (at_builtin; refine wpList_append_own _ rfl _ _ 58 rfl w1.heap.size 2 i0 (.int .i64 0) 1 8 Tryd.underlying58 hi hz0 hz1 hz2 rfl (by decide) _ _ _ rfl (HO.out.alloc _) ⟨_, 0, none⟩ 1 1 [.int .i64 z] rfl rfl (cell_one _ _ _) ?c2 ?c3 ?c4 ?c5 ?_)
              case c2 => first | rfl | (intro u hu; simp at hu; subst hu; rfl)
              case c3 => unfold maxLen; omega
              case c4 => omega
              case c5 => first | omega | (simp; omega)
              intro v4 w4 hown4 hgrow4 _
              have HO4 := Lib.hid (show w4.ownsRow w1.heap.size 2 1 v4 (k + 1) (i64s (zs ++ [z])) by rw [ints_snoc]; exact hown4)
              have HB4 := Lib.hid ((HB.out.alloc (by omega) _).grown hgrow4 (by simp; omega) (fun k hk => (HO.out.lt k hk).1))
              clear hown4 hgrow4
              go_wp2
              go_roundw
              case rel => exact ⟨k + 1, zs ++ [z], by omega, by go_num, (show (zs ++ [z]).length = k + 1 by rw [List.length_append, HL.out]; rfl), (show ∀ j, j < k + 1 → _ from fun j hj => by
                by_cases e : j = k
                · subst e
                  rw [HG.out, HY.out]
                  have := snoc_last zs z
                  rw [HL.out] at this
                  rw [this]
                · rw [snoc_get zs z j (by rw [HL.out]; omega)]; exact HA.out j (by omega)), HO4.out, HB4.out⟩
              case measure => simp [intOf]; omega
            · have hin' : inB (numV q) (-1000000000000) 1000000000000 = false := by simpa using hin
              have HR := Lib.hid (nums_none (ps.map (·.data.toList)) k (by rw [List.length_map, HN.out]; exact hlt) (by rw [HG.out]; exact numIn_out hin'))
              clear hin
              go_wp2_with fail
              refine (specNumber_any q _ (by omega)).mono ?_
              rintro e w3 ⟨hr, rfl⟩
              unfold NumRet at hr
              subst hr
              generalize numV q = z at *
              go_wp2_with fail
              refine (l00In_any _ _ _ _).mono ?_
              rintro e w3 ⟨rfl, rfl⟩
              go_wp2
              go_ret2
              exact ⟨HB1.out.trans (HB.out.mono hsz1), .inl ⟨by rw [HV.out]; exact HR.out, rfl⟩⟩
          · have ho' : numOk q = false := by simpa using ho
            have HR := Lib.hid (nums_none (ps.map (·.data.toList)) k (by rw [List.length_map, HN.out]; exact hlt) (by rw [HG.out]; exact numIn_no ho'))
            clear ho
            go_wp2_with fail
            refine (specNumber_any q _ (by omega)).mono ?_
            rintro e w3 ⟨hr, rfl⟩
            unfold NumRet at hr
            subst hr
            generalize numV q = z at *
            go_wp2
            go_ret2
            exact ⟨HB1.out.trans (HB.out.mono hsz1), .inl ⟨by rw [HV.out]; exact HR.out, rfl⟩⟩
        · obtain rfl : k = n := by omega
          have HR := Lib.hid (nums_some (ps.map (·.data.toList)) zs (by rw [List.length_map, HN.out, HL.out]) (fun j hj => HA.out j (by rw [List.length_map, HN.out] at hj; exact hj)))
          clear hown hbw
          have hk1 : 1 ≤ k := by
            have h0 := splitL_ne 44 s.data.toList
            rw [← HPS.out] at h0
            cases hps : ps with
            | nil => rw [hps] at h0; exact absurd rfl h0
            | cons a l => have := HN.out; rw [hps] at this; simp at this; omega
          obtain ⟨g, cap, hv, _, _, _⟩ := own_some HO.out hk1
          subst hv
          go_wp2
          go_ret2
          exact ⟨HB1.out.trans (HB.out.mono hsz1), .inr ⟨zs, _, by rw [HV.out]; exact HR.out, by rw [HL.out]; omega, rfl, own_of_row HL.out (row_base HO.out hsz1)⟩⟩
end Go.Proofs.YtikoehjalcljnaaDoor
