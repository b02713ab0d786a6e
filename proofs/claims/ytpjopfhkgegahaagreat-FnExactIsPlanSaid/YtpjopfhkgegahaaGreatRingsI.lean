/- The program's rings in new memory; the library's Insert and Delete at rings. -/
import Derived.Test.YtpjopfhkgegahaaGreatG3
import Derived.Test.YtpjopfhkgegahaaGreatG2
import Derived.Lib.Overlaps
import Derived.Laws.Externs
namespace Go.Proofs.YtpjopfhkgegahaaGreat
open Go.ChangeShapes Go.WideShapes Go.ChangeAt Go.RowKit

def insR (rs : List Rg) (k : Nat) (r : Rg) : List Rg := rs.take k ++ r :: rs.drop k
def remR (rs : List Rg) (k : Nat) : List Rg := rs.take k ++ rs.drop (k + 1)
theorem insR_len (rs : List Rg) (k : Nat) (r : Rg) (h : k ≤ rs.length) : (insR rs k r).length = rs.length + 1 := by simp [insR]; omega
theorem remR_len (rs : List Rg) (k : Nat) (h : k < rs.length) : (remR rs k).length = rs.length - 1 := by simp [remR]; omega
set_option maxRecDepth 20000 in
set_option maxHeartbeats 2000000 in
theorem ringsCopy_any (s : ByteArray) (v : Value) (rs : List Rg) (w : World) (h : RingsAt w v rs) (h1 : 1 ≤ rs.length) (h32 : rs.length ≤ 32) (n : Nat) (hn : Hid (rs.length = n)) :
    Calls Tryz.prog 113 #[.agg #[.string s, v]] w fun e w' => ∃ g, e = .returned (.slice (some ⟨g, 0, none⟩) n (n + 1)) ∧ w.heap.size ≤ g ∧ RowAt w' g (i64s (flat rs) ++ i64s (flat [zR])) ∧ Below w.heap.size w w' := by
  obtain ⟨hl, ⟨a, c, rfl, rfl⟩ | ⟨b, off, cap, rfl, hbl, hc⟩⟩ := h
  · simp at h1
  rw [hn.out] at h1 h32 ⊢
  clear hl
  have HC := Lib.hid hc
  clear hc
  have hmk : ∀ w : World, (Instr.makeSlice 40 (.int .i64 (n : Int)) (.int .i64 ((n : Int) + 1))).run Tryz.prog w = .ok (.slice (some ⟨w.heap.size, 0, none⟩) n (n + 1)) (w.alloc (.cells (i64s (flat (List.replicate (n + 1) zR))).toArray 113)) := fun w => by
    have := run_make3 w n (n + 1) (by omega) (by omega)
    rwa [show (((n + 1 : Nat) : Int)) = (n : Int) + 1 by omega] at this
  have hzz : (w.alloc (.cells #[.string s, .slice (some ⟨b, off, none⟩) n cap] 42)).heap.size = w.heap.size + 1 := by simp
  have HBW := Lib.hid (show Below w.heap.size w ((w.alloc (.cells #[.string s, .slice (some ⟨b, off, none⟩) n cap] 42)).alloc (.cells (i64s (flat (List.replicate (n + 1) zR))).toArray 113)) from ((Below.refl _ _).alloc (Nat.le_refl _) _).alloc (by simp) _)
  have HR0 := Lib.hid (show RowAt ((w.alloc (.cells #[.string s, .slice (some ⟨b, off, none⟩) n cap] 42)).alloc (.cells (i64s (flat (List.replicate (n + 1) zR))).toArray 113)) (w.heap.size + 1) (i64s (flat (List.replicate (n + 1) zR))) from by
    have := heap_alloc_new (w.alloc (.cells #[.string s, .slice (some ⟨b, off, none⟩) n cap] 42)) (.cells (i64s (flat (List.replicate (n + 1) zR))).toArray 113)
    rw [hzz] at this
    exact this)
  have hlen : (i64s (flat rs)).length = n * 3 := by rw [i64s_length, flat_len, hn.out]
  have hX0 : (i64s (flat (List.replicate (n + 1) zR))).length = (n + 1) * 3 := by rw [i64s_length, flat_len, List.length_replicate]
  have HRF := Lib.hid (show RowAt (((w.alloc (.cells #[.string s, .slice (some ⟨b, off, none⟩) n cap] 42)).alloc (.cells (i64s (flat (List.replicate (n + 1) zR))).toArray 113)).setCells (w.heap.size + 1) 0 (i64s (flat rs))) (w.heap.size + 1) (i64s (flat rs) ++ i64s (flat [zR])) from by
    have := setCells_as_row (o := 0) (cs := i64s (flat rs)) HR0.out (by rw [hlen, hX0]; omega) (one_i64s _)
    rw [hlen, Nat.zero_add, i64s_drop, flat_drop, List.drop_replicate, show n + 1 - n = 1 by omega] at this
    simpa using this)
  have HBF := Lib.hid (HBW.out.trans (gb_below (gb_setCells (w.heap.size + 1) (i64s (flat rs)) 0 ((w.alloc (.cells #[.string s, .slice (some ⟨b, off, none⟩) n cap] 42)).alloc (.cells (i64s (flat (List.replicate (n + 1) zR))).toArray 113))) HBW.out.size (fun k hk => by simp only [Option.some.injEq] at hk; omega)))
  have hcp : (Builtin.copy_ #[40, 40] 3 #[.slice (some ⟨w.heap.size + 1, 0, none⟩) n (n + 1), .slice (some ⟨b, off, none⟩) n cap]).run Tryz.prog ((w.alloc (.cells #[.string s, .slice (some ⟨b, off, none⟩) n cap] 42)).alloc (.cells (i64s (flat (List.replicate (n + 1) zR))).toArray 113)) = .ok (goInt n) (((w.alloc (.cells #[.string s, .slice (some ⟨b, off, none⟩) n cap] 42)).alloc (.cells (i64s (flat (List.replicate (n + 1) zR))).toArray 113)).setCells (w.heap.size + 1) 0 (i64s (flat rs))) :=
    run_copy3 ((w.alloc (.cells #[.string s, .slice (some ⟨b, off, none⟩) n cap] 42)).alloc (.cells (i64s (flat (List.replicate (n + 1) zR))).toArray 113)) _ _ 0 n (n + 1) ⟨b, off, none⟩ n cap (i64s (flat rs)) n (by simp) hlen
      (fun j u hj => by
        have hjl : j < n * 3 := by rw [← hlen]; exact (List.getElem?_eq_some_iff.1 hj).1
        have hadd : (⟨b, off, none⟩ : Addr).add j = ⟨b, off + j, none⟩ := by unfold Addr.add; split <;> simp_all
        rw [hadd, below_cell HBW.out _ _ hbl, HC.out j (by rw [hn.out]; exact hjl)]
        rw [i64s_get _ j (by rw [flat_len, hn.out]; exact hjl)] at hj
        exact hj)
      (fun j hj => by rw [Nat.zero_add]; exact rowAt_some HR0.out j (by rw [hX0]; omega))
      (fun j hj => rowAt_frozen HR0.out _) (one_i64s _)
  clear hlen hX0 hzz
  generalize i64s (flat rs) = cs at *
  go_enter Tryz.func113, Tryz.ntmps113
  go_wp2
  go_ret
  exact ⟨w.heap.size + 1, rfl, by omega, HRF.out, HBF.out⟩
end Go.Proofs.YtpjopfhkgegahaaGreat
