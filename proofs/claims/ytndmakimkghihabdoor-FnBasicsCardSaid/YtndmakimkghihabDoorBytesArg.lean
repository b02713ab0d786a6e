/- An argument of type []byte: bytes that can be read, if it is no longer than the laws look at. -/
import Derived.Test.YtndmakimkghihabDoorDraw
import Derived.Test.YtndmakimkghihabDoorInts
namespace Go.Proofs.YtndmakimkghihabDoor
open Go.ChangeShapes Go.WideShapes Go.ChangeAt Go.RowKit

theorem wf_byte {n : Int} (h : (Lit.int .u8 n).wf = true) : 0 ≤ n ∧ n ≤ 255 := by
  have e : IntKind.u8.signed = false ∧ IntKind.u8.bits = 8 := ⟨rfl, rfl⟩
  simp only [Lit.wf, IntKind.min, IntKind.max, e.1, e.2, Bool.and_eq_true, decide_eq_true_eq] at h
  simp at h
  omega
section
variable {H : Type} {enc : TypeId × Value → H}
theorem bytes_arg {W : World} {fuel : Nat} {a : Option Addr} {len cap : Nat} {d : DataW H} {p : List MemPlace} (hf : DataW.trod enc Tryd.prog W 0 (fun _ => true) true fuel 28 (Value.slice a len cap).cells.toList = some (d, p))
    (hlt : ∀ x ∈ p, x.block < W.heap.size) : len ≤ 9223372036854775807 ∧ (len ≤ 1048576 → BytesAt W W.heap.size (.slice a len cap)) := by
  have hc : Tryd.prog.cellsOf 5 = 1 := by kernel_rfl
  rcases open_ints Tryd.underlying28 Tryd.underlying5 hc hf with ⟨hcs, hx⟩ | ⟨a', len', cap', zs, hcs, _, hl, hm, hz, hx, hcell, hwz⟩
  · simp [Value.cells] at hcs
    obtain ⟨rfl, rfl, rfl⟩ := hcs
    exact ⟨by omega, fun _ => .inl ⟨_, _, rfl⟩⟩
  · simp [Value.cells] at hcs
    obtain ⟨rfl, rfl, rfl⟩ := hcs
    simp only [Prod.mk.injEq] at hx
    obtain ⟨rfl, rfl⟩ := hx
    simp only [if_true] at hz
    unfold maxLen at hm
    refine ⟨by omega, fun hs => ?_⟩
    by_cases hl0 : len = 0
    · subst hl0
      exact .inl ⟨_, _, rfl⟩
    · obtain ⟨b, off, spot⟩ := a'
      have hspot : spot = none := by simpa [Addr.add] using World.cell?_spot (hcell 0 (by omega))
      subst hspot
      have hbW : b < W.heap.size := hlt (.cell b off) (MemPlace.mem_row.2 ⟨0, by omega, by simp⟩)
      refine .inr ⟨b, off, len, cap, rfl, by omega, hs, hbW, fun j hj => ?_⟩
      have hj' : j < zs.length := by omega
      have hw := wf_byte (hwz (zs.getD j 0) (by rw [List.getD_eq_getElem?_getD, List.getElem?_eq_getElem hj']; exact List.getElem_mem hj'))
      exact ⟨_, hw.1, hw.2, by rw [← add_plain, hcell j hj']⟩
end
end Go.Proofs.YtndmakimkghihabDoor
