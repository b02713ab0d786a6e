/- The reference model divides a text at a byte (for the seat that holds no list's text). -/
import Derived.Test.YtjicnfgpbbganabDoorWithin
import Derived.Test.YtjicnfgpbbganabDoorSplitMath
import Derived.Laws.AppendOwn
import Derived.OwnWalk
import Derived.Deep.QuietTactic
import Derived.BigQuiet
import Derived.ChangeSlices
import Derived.Carry
import Derived.Laws.IdiomAt
namespace Go.Proofs.YtjicnfgpbbganabDoor
open Go.ChangeShapes Go.WideShapes Go.ChangeAt Go.RowKit

theorem infoStr : (Tryd.prog.info? 9).map (fun i => (i.zero, i.size, i.bytes)) = some (some (.string ByteArray.empty), 1, 16) := by kernel_rfl
def strVs (ss : List ByteArray) : List Value := ss.map Value.string
theorem row_below {w w' : World} {B : Nat} {e : TypeId} {v : Value} {n : Nat} {xs : List Value} (hb : Below w.heap.size w w') (h : w.ownsRow B e 1 v n xs) : w'.ownsRow B e 1 v n xs :=
  h.kept (row := none) ⟨hb.os, hb.tape, hb.output, hb.size, fun k hk _ => hb.block k hk⟩ (by cases hv : v.ownBlock <;> simp)

/-- The stretch from a to b. -/
def seg (s : ByteArray) (a b : Nat) : List UInt8 := (s.data.toList.drop a).take (b - a)
theorem seg_extract (s : ByteArray) (a b : Nat) : (s.extract a b).data.toList = seg s a b := by
  unfold seg
  rw [Lib.extract_data]
structure SplitInv (c : UInt8) (s : ByteArray) (done : List ByteArray) (a k : Nat) : Prop where
  ak : a ≤ k
  kn : k ≤ s.size
  no : ∀ x ∈ seg s a k, x ≠ c
  all : done.map (·.data.toList) ++ splitL c (s.data.toList.drop a) = splitL c s.data.toList
  len : done.length ≤ a
theorem size_list (s : ByteArray) : s.data.toList.length = s.size := by simp
theorem seg_next (s : ByteArray) (a k : Nat) (hak : a ≤ k) (hk : k < s.size) : seg s a (k + 1) = seg s a k ++ [s[k]] := by
  unfold seg
  have hl := size_list s
  have hlt : k - a < (s.data.toList.drop a).length := by rw [List.length_drop]; omega
  rw [show k + 1 - a = k - a + 1 from by omega, List.take_succ_eq_append_getElem hlt]
  congr 2
  rw [List.getElem_drop]
  have : a + (k - a) = k := by omega
  simp only [this]
  rfl
theorem split_start (c : UInt8) (s : ByteArray) : SplitInv c s [] 0 0 := ⟨Nat.le_refl _, Nat.zero_le _, by simp [seg], by simp, Nat.le_refl _⟩
theorem split_skip {c : UInt8} {s : ByteArray} {done : List ByteArray} {a k : Nat} (h : SplitInv c s done a k) (hk : k < s.size) (hc : s[k] ≠ c) : SplitInv c s done a (k + 1) :=
  ⟨by have := h.ak; omega, hk, by
    rw [seg_next s a k h.ak hk]
    intro x hx
    rcases List.mem_append.1 hx with hx | hx
    · exact h.no x hx
    · have : x = s[k] := by simpa using hx
      rw [this]; exact hc, h.all, h.len⟩
theorem drop_split (s : ByteArray) (a k : Nat) (hak : a ≤ k) (hk : k < s.size) : s.data.toList.drop a = seg s a k ++ s[k] :: s.data.toList.drop (k + 1) := by
  have hl := size_list s
  have e : s.data.toList.drop k = s[k] :: s.data.toList.drop (k + 1) := List.drop_eq_getElem_cons (by omega)
  have h1 := (List.take_append_drop (k - a) (s.data.toList.drop a)).symm
  rw [List.drop_drop, show a + (k - a) = k from by omega, e] at h1
  exact h1
theorem split_cut {c : UInt8} {s : ByteArray} {done : List ByteArray} {a k : Nat} (h : SplitInv c s done a k) (hk : k < s.size) (hc : s[k] = c) : SplitInv c s (done ++ [s.extract a k]) (k + 1) (k + 1) :=
  ⟨Nat.le_refl _, hk, by simp [seg], by
    have h1 := h.all
    rw [drop_split s a k h.ak hk, hc, splitL_hit c _ _ h.no] at h1
    rw [List.map_append, List.map_cons, List.map_nil, seg_extract, List.append_assoc]
    exact h1, by have := h.len; have := h.ak; rw [List.length_append, List.length_singleton]; omega⟩
theorem split_end {c : UInt8} {s : ByteArray} {done : List ByteArray} {a : Nat} (h : SplitInv c s done a s.size) : (done ++ [s.extract a s.size]).map (·.data.toList) = splitL c s.data.toList := by
  rw [List.map_append, List.map_cons, List.map_nil, seg_extract, ← h.all]
  congr 1
  have : seg s a s.size = s.data.toList.drop a := by
    unfold seg
    exact List.take_of_length_le (by rw [List.length_drop, size_list]; omega)
  have hn := h.no
  rw [this] at hn ⊢
  exact (splitL_none c _ hn).symm
theorem strVs_snoc (l : List ByteArray) (b : ByteArray) : strVs (l ++ [b]) = strVs l ++ [.string b] := by simp [strVs]
def OwnStrs (w : World) (B : Nat) (v : Value) (ss : List ByteArray) : Prop := ∃ g cap, v = .slice (some ⟨g, 0, none⟩) ss.length cap ∧ B ≤ g ∧ g < w.heap.size ∧ w.ownsRow B 9 1 v ss.length (strVs ss)
def SplitPost (c : UInt8) (s : ByteArray) (w : World) (e : Ending) (w' : World) : Prop := ∃ (v : Value) (ps : List ByteArray), e = .returned v ∧ ps.map (·.data.toList) = splitL c s.data.toList ∧ OwnStrs w' w.heap.size v ps ∧ Below w.heap.size w w'
theorem strs_own {w : World} {B n : Nat} {v : Value} {ss : List ByteArray} (hn : ss.length = n) (h0 : 1 ≤ n) (h : w.ownsRow B 9 1 v n (strVs ss)) : OwnStrs w B v ss := by
  have hk := h
  obtain ⟨_, h3⟩ := h
  rcases h3 with ⟨_, h4⟩ | ⟨g, cap, cur, rfl, hb, hh, hn', _⟩
  · omega
  · have hlt := hk.lt g rfl
    subst hn
    exact ⟨g, cap, rfl, hlt.1, hlt.2, hk⟩
theorem cell_one (w : World) (x : Value) (T : TypeId) : ∀ (j : Nat) (u : Value), ([x] : List Value)[j]? = some u → (w.alloc (.cells #[x] T)).cell? ((⟨w.heap.size, 0, none⟩ : Addr).add j) = some u := by
  intro j u hj
  match j, hj with
  | 0, hj => simp at hj; subst hj; simp [Addr.add]
  | j + 1, hj => simp at hj

set_option maxHeartbeats 1000000 in
set_option maxRecDepth 100000 in
theorem split_any (s : ByteArray) (c : UInt8) (w : World) (hs : s.size ≤ 1048576) :
    Calls Tryd.prog 16 #[.string s, .int .u8 (c.toNat : Int)] w (SplitPost c s w) := by
  obtain ⟨i0, hi, hz0, hz1, hz2⟩ := info_parts infoStr
  go_enter Tryd.func16, Tryd.ntmps16
  go_wp2
  go_loopw [5, 6, 7] (fun v f i wr => ∃ (a k : Nat) (done : List ByteArray), Hid (SplitInv c s done a k) ∧ f = .int .i64 a ∧ i = .int .i64 k ∧ wr.ownsRow w.heap.size 9 1 v done.length (strVs done) ∧ Below w.heap.size w wr) (fun _ _ i _ => s.size - (intOf i).toNat)
  case atStart => exact ⟨0, 0, [], split_start c s, rfl, rfl, by simpa [strVs] using World.ownsRow_made w #[] 0 (Nat.le_refl _) (by simp) (by simp), (Below.refl _ _).alloc (Nat.le_refl _) _⟩
  case round =>
    obtain ⟨a, k, done, HI, rfl, rfl, hown, hbw⟩ := hrel
    have HO := Lib.hid hown
    have HB := Lib.hid hbw
    have hsz := hbw.size
    have hak := HI.out.ak
    have hkn := HI.out.kn
    have hdl := HI.out.len
    clear hown hbw
    by_cases hlt : k < s.size
    · by_cases hc : s[k] = c
      · have HN := Lib.hid (split_cut HI.out hlt hc)
        have he : ((s[k].toNat : Int) == (c.toNat : Int)) = true := beq_iff_eq.2 (by rw [hc])
        clear hc
        go_wp2_with (at_builtin; refine wpList_append_own _ rfl _ _ 22 rfl w.heap.size 9 i0 (.string ByteArray.empty) 1 16 Tryd.underlying22 hi hz0 hz1 hz2 rfl (by decide) _ _ _ rfl (HO.out.alloc _) ⟨_, 0, none⟩ 1 1 [.string (s.extract a k)] rfl rfl (cell_one _ _ _) ?c2 ?c3 ?c4 ?c5 ?_)
        case c2 => first | rfl | (intro u hu; simp at hu; subst hu; rfl)
        case c3 => unfold maxLen; omega
        case c4 => omega
        case c5 => first | omega | (simp; omega)
        intro v2 w2 hown2 hgrow2 _
        have HO2 := Lib.hid (show w2.ownsRow w.heap.size 9 1 v2 (done ++ [s.extract a k]).length (strVs (done ++ [s.extract a k])) by
          rw [strVs_snoc, List.length_append]; exact hown2)
        have HB2 := Lib.hid ((HB.out.alloc (by omega) _).grown hgrow2 (by simp; omega) (fun k hk => (HO.out.lt k hk).1))
        clear hown2 hgrow2
        go_wp2
        go_roundw
        case rel => exact ⟨k + 1, k + 1, _, HN.out, by go_num, by go_num, HO2.out, HB2.out⟩
        case measure => simp [intOf]; omega
      · have HN := Lib.hid (split_skip HI.out hlt hc)
        have he : ((s[k].toNat : Int) == (c.toNat : Int)) = false := beq_eq_false_iff_ne.2 (fun e => hc (UInt8.toNat_inj.1 (by omega)))
        clear hc
        go_wp2
        go_roundw
        case rel => exact ⟨a, k + 1, done, HN.out, rfl, by go_num, HO.out, HB.out⟩
        case measure => simp [intOf]; omega
    · obtain rfl : k = s.size := by omega
      have HE := Lib.hid (split_end HI.out)
      go_wp2_with (at_builtin; refine wpList_append_own _ rfl _ _ 22 rfl w.heap.size 9 i0 (.string ByteArray.empty) 1 16 Tryd.underlying22 hi hz0 hz1 hz2 rfl (by decide) _ _ _ rfl (HO.out.alloc _) ⟨_, 0, none⟩ 1 1 [.string (s.extract a s.size)] rfl rfl (cell_one _ _ _) ?c2 ?c3 ?c4 ?c5 ?_)
      case c2 => first | rfl | (intro u hu; simp at hu; subst hu; rfl)
      case c3 => unfold maxLen; omega
      case c4 => omega
      case c5 => first | omega | (simp; omega)
      intro v2 w2 hown2 hgrow2 _
      have HO2 := Lib.hid (show w2.ownsRow w.heap.size 9 1 v2 (done ++ [s.extract a s.size]).length (strVs (done ++ [s.extract a s.size])) by
        rw [strVs_snoc, List.length_append]; exact hown2)
      have HB2 := Lib.hid ((HB.out.alloc (by omega) _).grown hgrow2 (by simp; omega) (fun k hk => (HO.out.lt k hk).1))
      clear hown2 hgrow2
      go_wp2
      go_ret
      exact ⟨v2, _, rfl, HE.out, strs_own rfl (by rw [List.length_append, List.length_singleton]; omega) HO2.out, HB2.out⟩
end Go.Proofs.YtjicnfgpbbganabDoor
