/- NoteName: the program's text of a note and the reference model's. -/
import Derived.Test.YtmkopmdeelfmgabDoorPtMath
import Derived.Test.YtmkopmdeelfmgabDoorFreq
import Derived.Test.YtmkopmdeelfmgabDoorStrTab
import Derived.Deep.RegionHeld3
namespace Go.Proofs.YtmkopmdeelfmgabDoor
open Go.ChangeShapes Go.WideShapes Go.ChangeAt Go.RowKit

def noteNms : List ByteArray := [⟨#[99]⟩, ⟨#[99, 115]⟩, ⟨#[100]⟩, ⟨#[100, 115]⟩, ⟨#[101]⟩, ⟨#[102]⟩, ⟨#[102, 115]⟩, ⟨#[103]⟩, ⟨#[103, 115]⟩, ⟨#[97]⟩, ⟨#[97, 115]⟩, ⟨#[98]⟩]
theorem gNote : Tryd.prog.globalNamed "loop.example/g00952/impl.noteNames" = some 1 := by kernel_rfl
theorem gNoteType : (Tryd.prog.globals[1]?).map (·.type) = some 68 := by kernel_rfl
theorem cellsNote : Tryd.prog.cellsOf 68 = 12 := by kernel_rfl
theorem cellsStr1 : Tryd.prog.cellsOf 9 = 1 := by kernel_rfl
theorem noteListed {H : Type} : (Rows.laid_loop_example_g00952_impl_noteNames : DataW H) = .agg (noteNms.map fun s => .lit (.string s.data.toList)) := rfl
/-- The table of names stands as the program's text lays it. -/
def NoteOk (W : World) : Prop := W.var? Tryd.prog "loop.example/g00952/impl.noteNames" = some (noteNms.map Value.string).toArray
theorem note_of {rest : List (String × DataW Unit)} {W : World} (h : laidMet Tryd.prog (("loop.example/g00952/impl.noteNames", Rows.laid_loop_example_g00952_impl_noteNames) :: rest) W) : NoteOk W := by
  obtain ⟨ps, ⟨g, t, cs, fuel, p, q, hg, ht, hv, hd, _, _⟩, _⟩ := h
  obtain rfl := Option.some.inj (gNote.symm.trans hg)
  obtain rfl := Option.some.inj (gNoteType.symm.trans ht)
  rw [noteListed] at hd
  have := cells_of_strs Tryd.underlying68 Tryd.underlying9 cellsStr1 cellsNote hd
  unfold NoteOk
  rw [hv, ← this]
theorem note_cell {W : World} (h : NoteOk W) (j : Nat) (hj : j < 12) : W.cell? ⟨1, j, none⟩ = some (.string (noteNms.getD j ByteArray.empty)) := by
  have hl : noteNms.length = 12 := rfl
  have := World.var?_cell gNote h j
  rw [this, List.getD_eq_getElem?_getD, List.getElem?_eq_getElem (by omega)]
  simp [hl, hj]
theorem note_size {W : World} (h : NoteOk W) : 1 < W.heap.size := var_size gNote h
theorem note_kept {W W' : World} (hb : Below W.heap.size W W') (h : NoteOk W) : NoteOk W' := var?_below hb gNote (note_size h) h

theorem held_keep1 {w wr w2 : World} {g k : Nat} {x : Option Value} (hB : Below w.heap.size w wr) (hg : g < wr.heap.size) (hc : wr.cell? ⟨g, k, none⟩ = x) (hb : Below wr.drew.heap.size wr.drew w2) : w2.cell? ⟨g, k, none⟩ = x ∧ Below w.heap.size w w2 := by
  have hb2 : Below wr.heap.size wr w2 := ⟨hb.os, hb.tape, hb.output, hb.size, hb.block⟩
  have hs := hB.size
  exact ⟨by rw [hb2.cell (p := ⟨g, k, none⟩) hg]; exact hc, hB.trans (hb2.mono hs)⟩

/-- A note's text. -/
def ntT (n : Nat) : ByteArray := noteNms.getD (n % 12) ByteArray.empty ++ decText ((n / 12 : Nat) - 1 : Int)
theorem nm_size (m : Nat) : (noteNms.getD m ByteArray.empty).size ≤ 2 := by
  by_cases h : m < 12
  · have : m = 0 ∨ m = 1 ∨ m = 2 ∨ m = 3 ∨ m = 4 ∨ m = 5 ∨ m = 6 ∨ m = 7 ∨ m = 8 ∨ m = 9 ∨ m = 10 ∨ m = 11 := by omega
    rcases this with rfl | rfl | rfl | rfl | rfl | rfl | rfl | rfl | rfl | rfl | rfl | rfl <;> decide
  · have : noteNms.length ≤ m := by show 12 ≤ m; omega
    rw [List.getD_eq_getElem?_getD, List.getElem?_eq_none this]; decide

theorem areNotes_one (n : Int) (b cap : Nat) (w : World) (hc : ∀ j, j < 1 → w.cell? ⟨b, 0 + j, none⟩ = some (.int .i64 ([n].getD j 0))) :
    Calls Tryd.prog 43 #[.slice (some ⟨b, 0, none⟩) 1 cap] w fun e w' => e = .returned (.bool (inB n 0 127)) ∧ w = w' := by
  have HA := Lib.hid (show allIn 0 127 [n] = inB n 0 127 from all1 _ _ _)
  go_enter Tryd.func43, Tryd.ntmps43
  go_wp2_with fail
  refine (within_i64 _ _ [n] _ 0 1 _ _ rfl (by omega) hc).mono ?_
  rintro e w' ⟨rfl, rfl⟩
  rw [HA.out]
  go_wp2
  go_ret
  exact ⟨rfl, rfl⟩


set_option maxHeartbeats 1000000 in
theorem implNoteName_any (n : Int) (w : World) (hp : Hid (PowOk w)) (ht : Hid (NoteOk w)) :
    Calls Tryd.prog 20 #[.int .i64 n] w fun e w' => e = .returned (.string (if inB n 0 127 = true then ntT n.toNat else ByteArray.empty)) ∧ Below w.heap.size w w' := by
  by_cases h : inB n 0 127 = true
  · obtain ⟨h0, h1⟩ := inB_iff.1 h
    obtain ⟨k, rfl⟩ := Int.eq_ofNat_of_zero_le h0
    rw [if_pos h]
    have hnm := nm_size (k % 12)
    have hds := Lib.itoa_length_le ((k / 12 : Nat) - 1 : Int) (by omega) (by omega)
    have hds' : (decText ((k / 12 : Nat) - 1 : Int)).size ≤ 21 := hds
    have HT := Lib.hid (show noteNms.getD (k % 12) ByteArray.empty ++ decText ((k / 12 : Nat) - 1 : Int) = ntT (k : Int).toNat from rfl)
    have hN : ∀ wx, NoteOk wx → wx.cell? ⟨1, k % 12, none⟩ = some (.string (noteNms.getD (k % 12) ByteArray.empty)) := fun wx hx => note_cell hx _ (by omega)
    have HN := Lib.hid hN
    have HC : ∀ wx, PowOk wx → Calls Tryd.prog 44 #[.int .i64 ((k / 12 : Nat) - 1 : Int)] wx fun e w' => e = .returned (.string (decText ((k / 12 : Nat) - 1 : Int))) ∧ Below wx.heap.size wx w' := fun wx hx => implDecimal_any _ wx (by omega) (by omega) (Lib.hid hx)
    have HD := Lib.hid HC
    generalize decText ((k / 12 : Nat) - 1 : Int) = z at *
    generalize noteNms.getD (k % 12) ByteArray.empty = nm at *
    have hM : (k : Int).tmod 12 = ((k % 12 : Nat) : Int) := rfl
    have hQ : (k : Int).tdiv 12 = ((k / 12 : Nat) : Int) := rfl
    have hm : k % 12 < 12 := by omega
    have hq : k / 12 ≤ 10 := by omega
    generalize k % 12 = m at *
    generalize k / 12 = q at *
    have hmi : (m : Int) < 12 := by omega
    have hw2 : IntKind.i64.wrap (q : Int) = (q : Int) := IntWalk.i64_in _ (by omega)
    have hw3 : IntKind.i64.wrap ((q : Int) - 1) = (q : Int) - 1 := IntWalk.i64_in _ (by omega)
    have hk1 : k ≤ 127 := by omega
    have hsum : ¬ 9223372036854775807 < nm.size + z.size := by omega
    clear hN HC hds
    go_enter Tryd.func20, Tryd.ntmps20
    go_wp2_with fail
    refine (areNotes_one _ _ _ _ (cellF1 _ _ _)).mono ?_
    rintro e w' ⟨rfl, rfl⟩
    have HB := Lib.hid ((Below.refl w.heap.size w).alloc (Nat.le_refl _) (.cells #[.int .i64 (k : Int)] 2))
    have HP := Lib.hid (pow_kept HB.out hp.out)
    have HNO := Lib.hid (note_kept HB.out ht.out)
    generalize hwA : w.alloc (.cells #[.int .i64 (k : Int)] 2) = wA at *
    clear hwA
    have hcell := HN.out wA HNO.out
    have hgs := note_size HNO.out
    have HPd := Lib.hid (show PowOk wA.drew from pow_kept (show Below wA.heap.size wA wA.drew from ⟨rfl, rfl, rfl, Nat.le_refl _, fun _ _ => rfl⟩) HP.out)
    go_wp2
    go_region_held3 (fun w' => w'.cell? ⟨1, m, none⟩ = some (.string nm) ∧ Below w.heap.size w w') (first | exact ⟨hcell, ⟨HB.out.os, HB.out.tape, HB.out.output, HB.out.size, HB.out.block⟩⟩ | exact held_keep1 HB.out hgs hcell hb2 | assumption)
      (first | (go_at_call 44; refine (HD.out _ HPd.out).mono ?_; rintro e w2 ⟨rfl, hb2⟩))
    clear hb2
    rename_i hHeld
    have HE := Lib.hid hHeld.2
    clear hHeld
    go_wp2
    go_ret
    exact ⟨ret_string HT.out, HE.out⟩
  · have h' : inB n 0 127 = false := by simpa using h
    rw [if_neg h]
    clear h
    go_enter Tryd.func20, Tryd.ntmps20
    go_wp2_with fail
    refine (areNotes_one _ _ _ _ (cellF1 _ _ _)).mono ?_
    rintro e w' ⟨rfl, rfl⟩
    go_wp2
    go_ret
    exact ⟨rfl, (Below.refl _ _).alloc (Nat.le_refl _) _⟩

theorem alloc_gt (w : World) (o : Obj) : w.heap.size < (w.alloc o).heap.size := by show _ < (w.heap.push o).size; rw [Array.size_push]; omega
theorem cell_names (w : World) (T : TypeId) (m : Nat) (hm : m < 12) :
    (w.alloc (.cells #[.string ⟨#[99]⟩, .string ⟨#[99, 115]⟩, .string ⟨#[100]⟩, .string ⟨#[100, 115]⟩, .string ⟨#[101]⟩, .string ⟨#[102]⟩, .string ⟨#[102, 115]⟩, .string ⟨#[103]⟩, .string ⟨#[103, 115]⟩, .string ⟨#[97]⟩, .string ⟨#[97, 115]⟩, .string ⟨#[98]⟩] T)).cell? ⟨w.heap.size, m, none⟩ = some (.string (noteNms.getD m ByteArray.empty)) := by
  have : m = 0 ∨ m = 1 ∨ m = 2 ∨ m = 3 ∨ m = 4 ∨ m = 5 ∨ m = 6 ∨ m = 7 ∨ m = 8 ∨ m = 9 ∨ m = 10 ∨ m = 11 := by omega
  rcases this with rfl | rfl | rfl | rfl | rfl | rfl | rfl | rfl | rfl | rfl | rfl | rfl <;> go_simp <;> rfl


end Go.Proofs.YtmkopmdeelfmgabDoor
