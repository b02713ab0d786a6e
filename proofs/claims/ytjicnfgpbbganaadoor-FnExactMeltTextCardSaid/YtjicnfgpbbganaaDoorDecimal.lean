/- Decimal: the program's text of a number and the reference model's, for every int64. -/
import Derived.Test.YtjicnfgpbbganaaDoorDecNeg
import Derived.Test.YtjicnfgpbbganaaDoorLaid
import Derived.Test.YtjicnfgpbbganaaDoorShelfA
import Derived.Lib.AppendIntMem
namespace Go.Proofs.YtjicnfgpbbganaaDoor
open Go.ChangeShapes Go.WideShapes Go.ChangeAt Go.RowKit

def decText (n : Int) : ByteArray := ⟨(Lib.itoa n).toArray⟩
theorem specDec_any (n : Int) (w : World) (hlo : -9223372036854775808 ≤ n) (hhi : n ≤ 9223372036854775807) :
    Calls Tryd.prog 88 #[.int .i64 n] w fun e w' => e = .returned (.string (decText n)) ∧ Below w.heap.size w w' := by
  rcases Int.lt_trichotomy n 0 with h | h | h
  · obtain ⟨N, rfl⟩ : ∃ N : Nat, n = -(N : Int) := ⟨n.natAbs, by omega⟩
    exact specDec_neg N w (by omega) (by omega)
  · subst h
    have HF := Lib.hid (show decText 0 = ⟨#[48]⟩ by unfold decText Lib.itoa; rw [if_neg (by omega), dec_small _ (by decide)]; rfl)
    go_enter Tryd.func88, Tryd.ntmps88
    go_wp2
    go_ret
    exact ⟨ret_string HF.out.symm, Below.refl _ _⟩
  · obtain ⟨N, rfl⟩ : ∃ N : Nat, n = (N : Int) := ⟨n.toNat, by omega⟩
    exact specDec_pos N w (by omega) (by omega)
theorem implDecimal_any (n : Int) (w : World) (hlo : -9223372036854775808 ≤ n) (hhi : n ≤ 9223372036854775807) (hp : Hid (PowOk w)) :
    Calls Tryd.prog 69 #[.int .i64 n] w fun e w' => e = .returned (.string (decText n)) ∧ Below w.heap.size w w' := by
  go_enter Tryd.func69, Tryd.ntmps69
  go_wp2_with fail
  refine (Tryd.strconv_FormatInt_10 n hlo hhi _ hp.out).mono ?_
  rintro e w' ⟨rfl, k, os, rfl⟩
  have HB := Lib.hid (Lib.below_grow w.heap.size w (Nat.le_refl _) k os)
  go_wp2
  go_ret
  exact ⟨rfl, HB.out⟩
end Go.Proofs.YtjicnfgpbbganaaDoor
