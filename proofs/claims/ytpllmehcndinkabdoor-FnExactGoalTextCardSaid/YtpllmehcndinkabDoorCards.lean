/-
  DERIVED. GIVEN WITH THE SEED: THE CARDS: each row of YtpllmehcndinkabDoorRows.lean that lists a variable, with what it lists TIED to the program's text (the seventh form; the later family's looks); each row that meets fmt, with fmt's text TOLD by the authors' own Lean function (tested against real Go, not proved from fmt's source: count such statements apart). THE CARD IS WHAT COUNTS. Prove the row's statement (the work); the ties are given (YtpllmehcndinkabDoorTie.lean); close each card by the builder's one call (the guide's Derived/Test/ToyasCard.lean, 'card_holds'). Laid BY PROGRAM, IN A SANDBOX (cutbox-door.mjs). By AI agents, Wed Nov 11 2026. No macro, syntax, notation, axiom, sorry.
-/
import Derived.Test.YtpllmehcndinkabDoorRows
import GoSem.ClaimSeven
namespace Go.Proofs.YtpllmehcndinkabDoor
namespace Rows

/-- THE TIED CARD OF 'laws.FnExactGoalText'. -/
def fnExactGoalTextCard : Claim7 := { stood := { row := fnExactGoalTextRow, standIns := [], harness := (true, "13f928e2d8cc6057cd64af3fdd8a3cd5493822c9fc43e8ed9154165951e14583"), looks := false }, kinds := [], alts := [], laidByText := true, laidKinds := [.data, .data, .data], laidTests := true, laidLooks := .later }
def FnExactGoalTextCardSaid : Prop := Claim7.holds Tryd.pinned (.plain (OpenSpec.ofChange fnExactGoalTextSpec)) fnExactGoalTextCard

/-- THE SECOND FORM's CARD OF 'laws.FnExactGoalText'. -/
def fnExactGoalTextUptoCard : Claim7 := { stood := { row := fnExactGoalTextUptoRow, standIns := [], harness := (true, "13f928e2d8cc6057cd64af3fdd8a3cd5493822c9fc43e8ed9154165951e14583"), looks := false }, kinds := [], alts := [], laidByText := true, laidKinds := [.data, .data, .data], laidTests := true, laidLooks := .later }
def FnExactGoalTextUptoCardSaid : Prop := Claim7.holds Tryd.pinned (.plain (OpenSpec.upto fnExactGoalTextSpec)) fnExactGoalTextUptoCard
end Rows
end Go.Proofs.YtpllmehcndinkabDoor
