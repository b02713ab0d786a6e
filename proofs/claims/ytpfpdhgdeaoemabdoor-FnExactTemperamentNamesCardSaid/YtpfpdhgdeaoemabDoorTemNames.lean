/- TemperamentNames: the program's list and the reference model's. -/
import Derived.Test.YtpfpdhgdeaoemabDoorMarkStrsE
import Derived.Test.YtpfpdhgdeaoemabDoorStrTab
import Derived.Test.YtpfpdhgdeaoemabDoorLaid
import Derived.Laws.OwnMore
namespace Go.Proofs.YtpfpdhgdeaoemabDoor
open Go.ChangeShapes Go.WideShapes Go.ChangeAt Go.RowKit

def temNms : List ByteArray := [⟨#[101, 113, 117, 97, 108]⟩, ⟨#[106, 117, 115, 116]⟩, ⟨#[109, 101, 97, 110, 116, 111, 110, 101]⟩, ⟨#[112, 121, 116, 104, 97, 103, 111, 114, 97, 115]⟩]
theorem gTem : Tryd.prog.globalNamed "loop.example/g00952/impl.temperamentNames" = some 0 := by kernel_rfl
theorem gTemType : (Tryd.prog.globals[0]?).map (·.type) = some 38 := by kernel_rfl
theorem cellsTem : Tryd.prog.cellsOf 38 = 4 := by kernel_rfl
theorem cellsStr4 : Tryd.prog.cellsOf 9 = 1 := by kernel_rfl
theorem temListed {H : Type} : (Rows.laid_loop_example_g00952_impl_temperamentNames : DataW H) = .agg (temNms.map fun s => .lit (.string s.data.toList)) := rfl
/-- The table of names stands as the program's text lays it. -/
def TemOk (W : World) : Prop := W.var? Tryd.prog "loop.example/g00952/impl.temperamentNames" = some (temNms.map Value.string).toArray
theorem tem_of {rest : List (String × DataW Unit)} {W : World} (h : laidMet Tryd.prog (("loop.example/g00952/impl.temperamentNames", Rows.laid_loop_example_g00952_impl_temperamentNames) :: rest) W) : TemOk W := by
  obtain ⟨ps, ⟨g, t, cs, fuel, p, q, hg, ht, hv, hd, _, _⟩, _⟩ := h
  obtain rfl := Option.some.inj (gTem.symm.trans hg)
  obtain rfl := Option.some.inj (gTemType.symm.trans ht)
  rw [temListed] at hd
  have := cells_of_strs Tryd.underlying38 Tryd.underlying9 cellsStr4 cellsTem hd
  unfold TemOk
  rw [hv, ← this]
theorem tem_cell {W : World} (h : TemOk W) (j : Nat) (hj : j < 4) : W.cell? ⟨0, j, none⟩ = some (.string (temNms.getD j ByteArray.empty)) := by
  have hl : temNms.length = 4 := rfl
  have := World.var?_cell gTem h j
  rw [this, List.getD_eq_getElem?_getD, List.getElem?_eq_getElem (by omega)]
  simp [hl, hj]
theorem tem_size {W : World} (h : TemOk W) : 0 < W.heap.size := var_size gTem h
theorem tem_kept {W W' : World} (hb : Below W.heap.size W W') (h : TemOk W) : TemOk W' := var?_below hb gTem (tem_size h) h

def TemPost (E : TypeId) (w : World) (e : Ending) (w' : World) : Prop := ∃ g, e = .returned (.slice (some ⟨g, 0, none⟩) 4 4) ∧ w.heap.size ≤ g ∧ w'.ownsRow w.heap.size E 1 (.slice (some ⟨g, 0, none⟩) 4 4) 4 (strVs temNms) ∧ Below w.heap.size w w'

theorem specTem_any (w : World) : Calls Tryd.prog 18 #[] w (TemPost 9 w) := by
  have key : Calls Tryd.prog 37 #[] w (TemPost 9 w) := by
    go_enter Tryd.func37, Tryd.ntmps37
    go_wp2
    go_ret
    exact ⟨w.heap.size, rfl, Nat.le_refl _, World.ownsRow_lit w #[.string ⟨#[101, 113, 117, 97, 108]⟩, .string ⟨#[106, 117, 115, 116]⟩, .string ⟨#[109, 101, 97, 110, 116, 111, 110, 101]⟩, .string ⟨#[112, 121, 116, 104, 97, 103, 111, 114, 97, 115]⟩] 4 (Nat.le_refl _) (by decide) rfl, (Below.refl _ _).alloc (Nat.le_refl _) _⟩
  go_enter Tryd.func18, Tryd.ntmps18
  go_wp2_with fail
  refine key.mono ?_
  rintro e w' ⟨g, rfl, hg, ho, hb⟩
  have HB := Lib.hid hb
  have HO := Lib.hid ho
  clear hb ho
  go_wp2
  go_ret
  exact ⟨g, rfl, hg, HO.out, HB.out⟩

set_option maxHeartbeats 1000000 in
theorem implTem_any (w : World) (ht : Hid (TemOk w)) : Calls Tryd.prog 19 #[] w (TemPost 38 w) := by
  have c0 := tem_cell ht.out 0 (by omega)
  have c1 := tem_cell ht.out 1 (by omega)
  have c2 := tem_cell ht.out 2 (by omega)
  have c3 := tem_cell ht.out 3 (by omega)
  have hs := tem_size ht.out
  go_enter Tryd.func19, Tryd.ntmps19
  go_wp2
  go_ret
  exact ⟨w.heap.size, rfl, Nat.le_refl _, World.ownsRow_lit w #[.string (temNms.getD 0 ByteArray.empty), .string (temNms.getD 1 ByteArray.empty), .string (temNms.getD 2 ByteArray.empty), .string (temNms.getD 3 ByteArray.empty)] 4 (Nat.le_refl _) (by decide) rfl, (Below.refl _ _).alloc (Nat.le_refl _) _⟩
theorem tem_len : Hid (temNms.length = 4) := Lib.hid rfl
end Go.Proofs.YtpfpdhgdeaoemabDoor
