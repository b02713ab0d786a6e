/-
  DERIVED. GIVEN WITH THE SEED: THE CARDS: each row of YtblkbjeongmgdaaGreatDoorRows.lean that lists a variable, with what it lists TIED to the program's text (the seventh form; the later family's looks); each row that meets fmt, with fmt's text TOLD by the authors' own Lean function (tested against real Go, not proved from fmt's source: count such statements apart). THE CARD IS WHAT COUNTS. Prove the row's statement (the work); the ties are given (YtblkbjeongmgdaaGreatDoorTie.lean); close each card by the builder's one call (the guide's Derived/Test/ToyasCard.lean, 'card_holds'). Laid BY PROGRAM, IN A SANDBOX (cutbox-door.mjs). By AI agents, Wed Nov 11 2026. No macro, syntax, notation, axiom, sorry.
-/
import Derived.Test.YtblkbjeongmgdaaGreatDoorRows
import GoSem.ClaimSeven
namespace Go.Proofs.YtblkbjeongmgdaaGreatDoor
namespace Rows

/-- THE TIED CARD OF 'laws.FnExactReadGoal'. -/
def fnExactReadGoalCard : Claim7 := { stood := { row := fnExactReadGoalRow, standIns := [], harness := (true, "f0197f275021fbb87fb04f4f4746d1c896b96a46d1951e7d91bcbcb41c0de3c1"), looks := true }, kinds := [], alts := [], laidByText := true, laidKinds := [.data, .data, .data, .data, .sentinel, .sentinel, .pinned], laidTests := true, laidLooks := .later }
def FnExactReadGoalCardSaid : Prop := Claim7.holds Tryz.pinned (.plain (OpenSpec.ofChange fnExactReadGoalSpec)) fnExactReadGoalCard

/-- THE SECOND FORM's CARD OF 'laws.FnExactReadGoal'. -/
def fnExactReadGoalUptoCard : Claim7 := { stood := { row := fnExactReadGoalUptoRow, standIns := [], harness := (true, "f0197f275021fbb87fb04f4f4746d1c896b96a46d1951e7d91bcbcb41c0de3c1"), looks := true }, kinds := [], alts := [], laidByText := true, laidKinds := [.data, .data, .data, .data, .sentinel, .sentinel, .pinned], laidTests := true, laidLooks := .later }
def FnExactReadGoalUptoCardSaid : Prop := Claim7.holds Tryz.pinned (.plain (OpenSpec.upto fnExactReadGoalSpec)) fnExactReadGoalUptoCard
end Rows
end Go.Proofs.YtblkbjeongmgdaaGreatDoor
