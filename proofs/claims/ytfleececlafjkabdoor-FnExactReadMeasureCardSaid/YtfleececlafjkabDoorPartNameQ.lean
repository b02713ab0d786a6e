/- PartialName: the program's answer and the reference model's. -/
import Derived.Test.YtfleececlafjkabDoorFreq
import Derived.Test.YtfleececlafjkabDoorStrTab
import Derived.Test.YtfleececlafjkabDoorLaid
namespace Go.Proofs.YtfleececlafjkabDoor
open Go.ChangeShapes Go.WideShapes Go.ChangeAt Go.RowKit

theorem l04Partial_any (k : Int) (w : World) :
    Calls Tryd.prog 35 #[.int .i64 k] w fun en w' => en = .returned (.bool (inB k 1 5)) ∧ w = w' := by
  go_enter Tryd.func35, Tryd.ntmps35
  go_wp2_with fail
  refine (l00In_any _ _ _ _).mono ?_
  rintro e w' ⟨rfl, rfl⟩
  go_wp2
  go_ret
  exact ⟨rfl, rfl⟩
def partNms : List ByteArray := [⟨#[104, 117, 109]⟩, ⟨#[112, 114, 105, 109, 101]⟩, ⟨#[116, 105, 101, 114, 99, 101]⟩, ⟨#[113, 117, 105, 110, 116]⟩, ⟨#[110, 111, 109, 105, 110, 97, 108]⟩]
theorem gPart : Tryd.prog.globalNamed "loop.example/g00952/impl.partialNames" = some 0 := by kernel_rfl
theorem gPartType : (Tryd.prog.globals[0]?).map (·.type) = some 68 := by kernel_rfl
theorem cellsPart : Tryd.prog.cellsOf 68 = 5 := by kernel_rfl
theorem cellsStrP : Tryd.prog.cellsOf 9 = 1 := by kernel_rfl
theorem partListed {H : Type} : (Rows.laid_loop_example_g00952_impl_partialNames : DataW H) = .agg (partNms.map fun s => .lit (.string s.data.toList)) := rfl
/-- The table of names stands as the program's text lays it. -/
def PartOk (W : World) : Prop := W.var? Tryd.prog "loop.example/g00952/impl.partialNames" = some (partNms.map Value.string).toArray
theorem part_of {rest : List (String × DataW Unit)} {W : World} (h : laidMet Tryd.prog (("loop.example/g00952/impl.partialNames", Rows.laid_loop_example_g00952_impl_partialNames) :: rest) W) : PartOk W := by
  obtain ⟨ps, ⟨g, t, cs, fuel, p, q, hg, ht, hv, hd, _, _⟩, _⟩ := h
  obtain rfl := Option.some.inj (gPart.symm.trans hg)
  obtain rfl := Option.some.inj (gPartType.symm.trans ht)
  rw [partListed] at hd
  have := cells_of_strs Tryd.underlying68 Tryd.underlying9 cellsStrP cellsPart hd
  unfold PartOk
  rw [hv, ← this]
theorem part_cell {W : World} (h : PartOk W) (j : Nat) (hj : j < 5) : W.cell? ⟨0, j, none⟩ = some (.string (partNms.getD j ByteArray.empty)) := by
  have hl : partNms.length = 5 := rfl
  have := World.var?_cell gPart h j
  rw [this, List.getD_eq_getElem?_getD, List.getElem?_eq_getElem (by omega)]
  simp [hl, hj]
theorem part_size {W : World} (h : PartOk W) : 0 < W.heap.size := var_size gPart h
theorem part_kept {W W' : World} (hb : Below W.heap.size W W') (h : PartOk W) : PartOk W' := var?_below hb gPart (part_size h) h

def pnT (k : Int) : ByteArray := if inB k 1 5 = true then partNms.getD (k - 1).toNat ByteArray.empty else ByteArray.empty
theorem ret_str {a b : ByteArray} (h : a = b) : Ending.returned (.string a) = .returned (.string b) := by rw [h]
set_option maxRecDepth 20000 in
set_option maxHeartbeats 1000000 in
theorem specPartName_any (k : Int) (w : World) :
    Calls Tryd.prog 37 #[.int .i64 k] w fun e w' => e = .returned (.string (pnT k)) ∧ Below w.heap.size w w' := by
  rcases Bool.eq_false_or_eq_true (inB k 1 5) with h1 | h1
  · obtain ⟨k0, k1⟩ := inB_iff.1 h1
    rcases (by omega : k = 1 ∨ k = 2 ∨ k = 3 ∨ k = 4 ∨ k = 5) with rfl | rfl | rfl | rfl | rfl
    all_goals
      go_enter Tryd.func37, Tryd.ntmps37
      go_wp2_with fail
      refine (l04Partial_any _ _).mono ?_
      rintro e w' ⟨rfl, rfl⟩
      rw [h1]
      go_wp2
      go_ret
      exact ⟨ret_str rfl, (Below.refl _ _).alloc (Nat.le_refl _) _⟩
  · have H := Lib.hid (show pnT k = ByteArray.empty by unfold pnT; rw [if_neg (by rw [h1]; decide)])
    go_enter Tryd.func37, Tryd.ntmps37
    go_wp2_with fail
    refine (l04Partial_any _ _).mono ?_
    rintro e w' ⟨rfl, rfl⟩
    rw [h1]
    go_wp2
    go_ret
    exact ⟨ret_str H.out.symm, Below.refl _ _⟩
theorem isPartial_any (k : Int) (w : World) :
    Calls Tryd.prog 40 #[.int .i64 k] w fun en w' => en = .returned (.bool (inB k 1 5)) ∧ Below w.heap.size w w' := by
  go_enter Tryd.func40, Tryd.ntmps40
  go_wp2_with fail
  refine (within_i64 1 5 [k] w.heap.size 0 1 1 _ rfl (by omega) (cellF1 _ _ _)).mono ?_
  rintro en w1 ⟨rfl, rfl⟩
  go_wp2
  go_ret
  exact ⟨ret_bool (by simp [allIn]), (Below.refl _ _).alloc (Nat.le_refl _) _⟩
set_option maxRecDepth 20000 in
set_option maxHeartbeats 1000000 in
theorem implPartName_any (k : Int) (w : World) (hp : Hid (PartOk w)) :
    Calls Tryd.prog 22 #[.int .i64 k] w fun e w' => e = .returned (.string (pnT k)) ∧ Below w.heap.size w w' := by
  rcases Bool.eq_false_or_eq_true (inB k 1 5) with h1 | h1
  · obtain ⟨k0, k1⟩ := inB_iff.1 h1
    rcases (by omega : k = 1 ∨ k = 2 ∨ k = 3 ∨ k = 4 ∨ k = 5) with rfl | rfl | rfl | rfl | rfl
    all_goals
      go_enter Tryd.func22, Tryd.ntmps22
      go_wp2_with fail
      refine (isPartial_any _ _).mono ?_
      rintro e w' ⟨rfl, hb⟩
      rw [h1]
      have hP := part_kept hb hp.out
      have c0 := part_cell hP 0 (by omega)
      have c1 := part_cell hP 1 (by omega)
      have c2 := part_cell hP 2 (by omega)
      have c3 := part_cell hP 3 (by omega)
      have c4 := part_cell hP 4 (by omega)
      have HB := Lib.hid hb
      clear hb hP
      go_wp2
      go_ret
      exact ⟨ret_str rfl, HB.out⟩
  · have H := Lib.hid (show pnT k = ByteArray.empty by unfold pnT; rw [if_neg (by rw [h1]; decide)])
    go_enter Tryd.func22, Tryd.ntmps22
    go_wp2_with fail
    refine (isPartial_any _ _).mono ?_
    rintro e w' ⟨rfl, hb⟩
    rw [h1]
    have HB := Lib.hid hb
    clear hb
    go_wp2
    go_ret
    exact ⟨ret_str H.out.symm, HB.out⟩
end Go.Proofs.YtfleececlafjkabDoor
