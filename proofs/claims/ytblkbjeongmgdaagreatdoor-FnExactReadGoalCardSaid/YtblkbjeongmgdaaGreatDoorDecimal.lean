/- Decimal: the program's text of a number and the reference model's, for every int64. -/
import Derived.Test.YtblkbjeongmgdaaGreatDoorDecNeg
import Derived.Test.YtblkbjeongmgdaaGreatDoorLaid
import Derived.Test.YtblkbjeongmgdaaGreatDoorShelfA
import Derived.Lib.AppendIntMem
namespace Go.Proofs.YtblkbjeongmgdaaGreatDoor
open Go.ChangeShapes Go.WideShapes Go.ChangeAt Go.RowKit

def decText (n : Int) : ByteArray := ⟨(Lib.itoa n).toArray⟩
theorem implDecimal_any (n : Int) (w : World) (hlo : -9223372036854775808 ≤ n) (hhi : n ≤ 9223372036854775807) (hp : Hid (PowOk w)) :
    Calls Tryz.prog 32 #[.int .i64 n] w fun e w' => e = .returned (.string (decText n)) ∧ Below w.heap.size w w' := by
  go_enter Tryz.func32, Tryz.ntmps32
  go_wp2_with fail
  refine (Tryz.strconv_FormatInt_10 n hlo hhi _ hp.out).mono ?_
  rintro e w' ⟨rfl, k, os, rfl⟩
  have HB := Lib.hid (Lib.below_grow w.heap.size w (Nat.le_refl _) k os)
  go_wp2
  go_ret
  exact ⟨rfl, HB.out⟩
end Go.Proofs.YtblkbjeongmgdaaGreatDoor
