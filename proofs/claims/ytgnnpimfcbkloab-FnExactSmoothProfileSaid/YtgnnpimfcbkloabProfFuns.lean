/- Profiles: the reference model's functions that read a profile and a number. -/
import Derived.Test.YtgnnpimfcbkloabProfSpec
import Derived.Test.YtgnnpimfcbkloabRingLaw
import Derived.BigRegion
namespace Go.Proofs.Ytgnnpimfcbkloab
open Go.ChangeShapes Go.WideShapes Go.ChangeAt Go.RowKit

def codeP (s : ByteArray) (rs : List Rg) : Int := if profB s rs = true then 0 else 1
def hgtR (s : ByteArray) (rs : List Rg) : Int := if profB s rs = true then heights rs else 0
def lipR (s : ByteArray) (rs : List Rg) : Int := if profB s rs = true then 2 * (rs.getD 0 zR).1 else 0
theorem ret_two {a b c d : Int} (h : a = b) (k : c = d) : Ending.returned (.tuple #[.int .i64 a, .int .i64 c]) = .returned (.tuple #[.int .i64 b, .int .i64 d]) := by rw [h, k]
theorem prof_alloc (w : World) (s : ByteArray) (v : Value) (T : TypeId) : ProfIn (w.alloc (.cells #[.string s, v] T)) w.heap.size s v := ⟨by go_simp, by go_simp⟩
theorem prof_keep {w w' : World} {p : Nat} {s : ByteArray} {v : Value} (hb : Below w.heap.size w w') (hp : p < w.heap.size) (h : ProfIn w p s v) : ProfIn w' p s v := ⟨(below_cell hb _ _ hp).trans h.c0, (below_cell hb _ _ hp).trans h.c1⟩
theorem alloc_lt2 (w : World) (o : Obj) : w.heap.size < (w.alloc o).heap.size := by show _ < (w.heap.push o).size; rw [Array.size_push]; omega
theorem below_al (w : World) (o : Obj) : Below w.heap.size w (w.alloc o) := (Below.refl _ _).alloc (Nat.le_refl _) o

set_option maxHeartbeats 1000000 in
theorem specValidP_any (s : ByteArray) (v : Value) (rs : List Rg) (w : World) (h : RingsAt w v rs) (hs : s.size ≤ maxLen) :
    Calls Try.prog 59 #[.agg #[.string s, v]] w fun e w' => e = .returned (.bool (profB s rs)) ∧ Below w.heap.size w w' := by
  have HI := Lib.hid h
  obtain ⟨a, c, rfl⟩ := rings_form h
  clear h
  generalize hn : rs.length = n at *
  clear hn
  go_enter Try.func59, Try.ntmps59
  go_wp2_with fail
  refine (l05Ok_any _ s _ rs _ (prof_alloc _ _ _ _) (rings_kept (below_al _ _) HI.out) hs).mono ?_
  rintro e w1 ⟨rfl, hb⟩
  have HB := Lib.hid (below_of (below_al _ _) hb (by simp))
  clear hb
  go_wp2
  go_ret
  exact ⟨rfl, HB.out⟩
set_option maxHeartbeats 1000000 in
theorem specHeightOf_any (s : ByteArray) (v : Value) (rs : List Rg) (w : World) (h : RingsAt w v rs) (hs : s.size ≤ maxLen) :
    Calls Try.prog 49 #[.agg #[.string s, v]] w fun e w' => e = .returned (.tuple #[.int .i64 (hgtR s rs), .int .i64 (codeP s rs)]) ∧ Below w.heap.size w w' := by
  have HI := Lib.hid h
  obtain ⟨a, c, rfl⟩ := rings_form h
  clear h
  rcases Bool.eq_false_or_eq_true (profB s rs) with hp | hp
  · have HR := Lib.hid (show hgtR s rs = heights rs ∧ codeP s rs = 0 by unfold hgtR codeP; rw [if_pos hp, if_pos hp]; exact ⟨rfl, rfl⟩)
    have HP := Lib.hid hp
    obtain ⟨-, ⟨n1, n2⟩, -, -⟩ := prof_iff.1 hp
    clear hp
    generalize hn : rs.length = n at *
    have HN := Lib.hid hn
    clear hn
    go_enter Try.func49, Try.ntmps49
    go_wp2_with fail
    have hal := alloc_lt2 w (.cells #[.string s, .slice a n c] 31)
    have hpa := prof_alloc w s (.slice a n c) 31
    have HBA := Lib.hid (below_al w (.cells #[.string s, .slice a n c] 31))
    generalize w.alloc (.cells #[.string s, .slice a n c] 31) = wA at *
    have HIA := Lib.hid (rings_kept HBA.out HI.out)
    refine (l05Ok_any _ s _ rs _ hpa HIA.out hs).mono ?_
    rintro e w1 ⟨rfl, hb⟩
    rw [HP.out]
    have hp1 := prof_keep hb hal hpa
    have HI1 := Lib.hid (rings_kept hb HIA.out)
    have HB := Lib.hid (below_of HBA.out hb HBA.out.size)
    clear hb hpa
    go_wp2_with fail
    obtain ⟨-, ⟨a', c', hv, h0⟩ | ⟨b, off, cap, hv, hbl, hc⟩⟩ := HI1.out
    · have := HN.out
      rw [h0] at this; simp at this; omega
    · simp only [Value.slice.injEq] at hv
      obtain ⟨rfl, -, rfl⟩ := hv
      refine (l05Height_some _ b off c n s rs _ HN.out n2 hp1 (fun i hi => ring_in hc i (by rw [HN.out]; exact hi)) (fun i hi => prof_ring HP.out i hi)).mono ?_
      rintro e w2 ⟨rfl, rfl⟩
      have HR1 := Lib.hid HR.out.1
      have HR2 := Lib.hid HR.out.2
      generalize heights rs = y at *
      go_wp2
      go_ret2
      exact ⟨ret_two HR1.out.symm HR2.out.symm, HB.out⟩
  · have HR := Lib.hid (show hgtR s rs = 0 ∧ codeP s rs = 1 by unfold hgtR codeP; rw [hp]; exact ⟨rfl, rfl⟩)
    generalize hn : rs.length = n at *
    clear hn
    go_enter Try.func49, Try.ntmps49
    go_wp2_with fail
    refine (l05Ok_any _ s _ rs _ (prof_alloc _ _ _ _) (rings_kept (below_al _ _) HI.out) hs).mono ?_
    rintro e w1 ⟨rfl, hb⟩
    rw [hp]
    have HB := Lib.hid (below_of (below_al _ _) hb (by simp))
    clear hb
    go_wp2
    go_ret2
    exact ⟨ret_two HR.out.1.symm HR.out.2.symm, HB.out⟩
end Go.Proofs.Ytgnnpimfcbkloab
