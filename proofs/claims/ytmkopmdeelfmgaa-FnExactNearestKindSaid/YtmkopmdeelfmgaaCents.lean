/- Frequencies and intervals: the program's answers and the reference model's, number by number: ranges, logarithms, intervals. -/
import Derived.Test.YtmkopmdeelfmgaaFineSpec
import Derived.Test.YtmkopmdeelfmgaaFineImpl
import Derived.Test.YtmkopmdeelfmgaaLen64
namespace Go.Proofs.Ytmkopmdeelfmgaa
open Go.ChangeShapes Go.WideShapes Go.ChangeAt Go.RowKit

theorem l02Log_any (n : Int) (w : World) (h0 : 1 ≤ n) (h1 : n ≤ 1000000000000) :
    Calls Try.prog 64 #[.int .i64 n] w fun e w' => e = .returned (.int .i64 (logV n)) ∧ w = w' := by
  have hb := fine_bd (show 0 < n by omega) h1
  have HL := Lib.hid (show logV n = 12000 * fineV n / 16777216 from rfl)
  go_enter Try.func64, Try.ntmps64
  go_wp2_with fail
  refine (l02Fine_any n _ h0 h1).mono ?_
  rintro e w' ⟨rfl, rfl⟩
  generalize fineV n = v at *
  go_wp2
  go_ret
  exact ⟨ret_i64 HL.out.symm, rfl⟩
theorem implLog_any (n : Int) (w : World) (h0 : 1 ≤ n) (h1 : n ≤ 1000000000000) :
    Calls Try.prog 65 #[.int .i64 n] w fun e w' => e = .returned (.int .i64 (logV n)) ∧ w = w' := by
  have hb := fine_bd (show 0 < n by omega) h1
  have HL := Lib.hid (show logV n = 12000 * fineV n / 16777216 from rfl)
  go_enter Try.func65, Try.ntmps65
  go_wp2_with fail
  refine (fineLog_any len64_any n _ h0 h1).mono ?_
  rintro e w' ⟨rfl, rfl⟩
  generalize fineV n = v at *
  go_wp2
  go_ret
  exact ⟨ret_i64 HL.out.symm, rfl⟩
theorem l02Between_any (f g : Int) (w : World) (h0 : 1 ≤ f) (h1 : f ≤ 1000000000000) (k0 : 1 ≤ g) (k1 : g ≤ 1000000000000) :
    Calls Try.prog 61 #[.int .i64 f, .int .i64 g] w fun e w' => e = .returned (.int .i64 (logV g - logV f)) ∧ w = w' := by
  have hb := log_bd (show 0 < f by omega) h1
  have hc := log_bd (show 0 < g by omega) k1
  go_enter Try.func61, Try.ntmps61
  go_wp2_with (first | (go_at_call 64; refine (l02Log_any _ _ (by omega) (by omega)).mono ?_; rintro e w' ⟨rfl, rfl⟩))
  go_ret
  exact ⟨rfl, rfl⟩
def fineR (n : Int) : Int := if inB n 1 1000000000000 = true then fineV n else 0
def logR (n : Int) : Int := if inB n 1 1000000000000 = true then logV n else 0
def okV (n : Int) : Bool := inB n 1 1000000000000
end Go.Proofs.Ytmkopmdeelfmgaa
