/- Profiles: the reference model's functions that read a profile and a number. -/
import Derived.Test.YtpjopfhkgegahaaProfSpec
import Derived.Test.YtpjopfhkgegahaaRingLaw
import Derived.BigRegion
namespace Go.Proofs.Ytpjopfhkgegahaa
open Go.ChangeShapes Go.WideShapes Go.ChangeAt Go.RowKit

def codeP (s : ByteArray) (rs : List Rg) : Int := if profB s rs = true then 0 else 1
def hgtR (s : ByteArray) (rs : List Rg) : Int := if profB s rs = true then heights rs else 0
def lipR (s : ByteArray) (rs : List Rg) : Int := if profB s rs = true then 2 * (rs.getD 0 zR).1 else 0
theorem ret_two {a b c d : Int} (h : a = b) (k : c = d) : Ending.returned (.tuple #[.int .i64 a, .int .i64 c]) = .returned (.tuple #[.int .i64 b, .int .i64 d]) := by rw [h, k]
theorem prof_alloc (w : World) (s : ByteArray) (v : Value) (T : TypeId) : ProfIn (w.alloc (.cells #[.string s, v] T)) w.heap.size s v := ⟨by go_simp, by go_simp⟩
theorem prof_keep {w w' : World} {p : Nat} {s : ByteArray} {v : Value} (hb : Below w.heap.size w w') (hp : p < w.heap.size) (h : ProfIn w p s v) : ProfIn w' p s v := ⟨(below_cell hb _ _ hp).trans h.c0, (below_cell hb _ _ hp).trans h.c1⟩
theorem alloc_lt2 (w : World) (o : Obj) : w.heap.size < (w.alloc o).heap.size := by show _ < (w.heap.push o).size; rw [Array.size_push]; omega
theorem below_al (w : World) (o : Obj) : Below w.heap.size w (w.alloc o) := (Below.refl _ _).alloc (Nat.le_refl _) o

end Go.Proofs.Ytpjopfhkgegahaa
