/- Decimal: the program's text of a number and the reference model's, for every int64. -/
import Derived.Test.YtjicnfgpbbganabDoorDecNeg
import Derived.Test.YtjicnfgpbbganabDoorLaid
import Derived.Test.YtjicnfgpbbganabDoorShelfA
import Derived.Lib.AppendIntMem
namespace Go.Proofs.YtjicnfgpbbganabDoor
open Go.ChangeShapes Go.WideShapes Go.ChangeAt Go.RowKit

def decText (n : Int) : ByteArray := ⟨(Lib.itoa n).toArray⟩
theorem implDecimal_any (n : Int) (w : World) (hlo : -9223372036854775808 ≤ n) (hhi : n ≤ 9223372036854775807) (hp : Hid (PowOk w)) :
    Calls Tryd.prog 22 #[.int .i64 n] w fun e w' => e = .returned (.string (decText n)) ∧ Below w.heap.size w w' := by
  go_enter Tryd.func22, Tryd.ntmps22
  go_wp2_with fail
  refine (Tryd.strconv_FormatInt_10 n hlo hhi _ hp.out).mono ?_
  rintro e w' ⟨rfl, k, os, rfl⟩
  have HB := Lib.hid (Lib.below_grow w.heap.size w (Nat.le_refl _) k os)
  go_wp2
  go_ret
  exact ⟨rfl, HB.out⟩
end Go.Proofs.YtjicnfgpbbganabDoor
