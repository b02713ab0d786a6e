/- The reference model writes a number in decimal, for every int64. -/
import Derived.Test.YtjicnfgpbbganabDoorBase
import Derived.Test.YtjicnfgpbbganabDoorDecMath
import Derived.Laws.AppendOwn
import Derived.Laws.BytesString
import Derived.OwnWalk
namespace Go.Proofs.YtjicnfgpbbganabDoor
open Go.ChangeShapes Go.WideShapes Go.ChangeAt Go.RowKit

theorem infoU8 : (Tryd.prog.info? 5).map (fun i => (i.zero, i.size, i.bytes)) = some (some (.int .u8 0), 1, 1) := by kernel_rfl
def u8s (l : List UInt8) : List Value := l.map fun b => Value.int .u8 (b.toNat : Int)

theorem fold_push (l : List UInt8) : ∀ s : ByteArray, (l.map fun b => (b.toNat : Int)).foldl (fun r n => r.push (UInt8.ofNat n.toNat)) s = ⟨s.data ++ l.toArray⟩ := by
  induction l with
  | nil => intro s; cases s; simp
  | cons b l ih =>
    intro s
    rw [List.map_cons, List.foldl_cons, ih]
    have : UInt8.ofNat ((b.toNat : Int)).toNat = b := by simp
    rw [this]
    cases s
    simp [ByteArray.push]

theorem conv_own {w : World} {base g cap n : Nat} {l : List UInt8} (h : w.ownsRow base 5 1 (.slice (some ⟨g, 0, none⟩) n cap) n (u8s l)) :
    (convert 57 9 (.slice (some ⟨g, 0, none⟩) n cap)).run Tryd.prog w = .ok (.string ⟨l.toArray⟩) w := by
  rw [run_convert_bytes_string w _ _ _ _ _ _ Tryd.underlying57 Tryd.underlying5 Tryd.underlying9]
  have hlen : (u8s l).length = n := by have := h.1; omega
  have hl : (loadCells ⟨g, 0, none⟩ n).run Tryd.prog w = .ok ((l.map fun b => (b.toNat : Int)).map (Value.int .u8)).toArray w := by
    have := run_loadCells_list (P := Tryd.prog) (w := w) ⟨g, 0, none⟩ (u8s l) (h.cells rfl)
    rw [hlen] at this
    rw [this]
    simp [u8s]
  have e : ByteArray.empty.data ++ l.toArray = l.toArray := by rw [show ByteArray.empty.data = #[] from rfl]; simp
  rw [run_bytesToString w ⟨g, 0, none⟩ n cap _ hl, fold_push, e]
end Go.Proofs.YtjicnfgpbbganabDoor
