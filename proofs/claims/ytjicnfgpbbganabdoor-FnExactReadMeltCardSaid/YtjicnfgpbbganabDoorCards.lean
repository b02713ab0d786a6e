/-
  DERIVED. GIVEN WITH THE SEED: THE CARDS: each row of YtjicnfgpbbganabDoorRows.lean that lists a variable, with what it lists TIED to the program's text (the seventh form; the later family's looks); each row that meets fmt, with fmt's text TOLD by the authors' own Lean function (tested against real Go, not proved from fmt's source: count such statements apart). THE CARD IS WHAT COUNTS. Prove the row's statement (the work); the ties are given (YtjicnfgpbbganabDoorTie.lean); close each card by the builder's one call (the guide's Derived/Test/ToyasCard.lean, 'card_holds'). Laid BY PROGRAM, IN A SANDBOX (cutbox-door.mjs). By AI agents, Wed Nov 11 2026. No macro, syntax, notation, axiom, sorry.
-/
import Derived.Test.YtjicnfgpbbganabDoorRows
import GoSem.ClaimSeven
namespace Go.Proofs.YtjicnfgpbbganabDoor
namespace Rows

/-- THE TIED CARD OF 'laws.FnExactReadMelt'. -/
def fnExactReadMeltCard : Claim7 := { stood := { row := fnExactReadMeltRow, standIns := [], harness := (true, "c9b356794fcd467809dc9c3a34afd098ca1923202de72307ac675bbab9759f7c"), looks := true }, kinds := [], alts := [], laidByText := true, laidKinds := [.data, .data, .data, .data, .sentinel, .sentinel, .pinned], laidTests := true, laidLooks := .later }
def FnExactReadMeltCardSaid : Prop := Claim7.holds Tryd.pinned (.plain (OpenSpec.ofChange fnExactReadMeltSpec)) fnExactReadMeltCard

/-- THE SECOND FORM's CARD OF 'laws.FnExactReadMelt'. -/
def fnExactReadMeltUptoCard : Claim7 := { stood := { row := fnExactReadMeltUptoRow, standIns := [], harness := (true, "c9b356794fcd467809dc9c3a34afd098ca1923202de72307ac675bbab9759f7c"), looks := true }, kinds := [], alts := [], laidByText := true, laidKinds := [.data, .data, .data, .data, .sentinel, .sentinel, .pinned], laidTests := true, laidLooks := .later }
def FnExactReadMeltUptoCardSaid : Prop := Claim7.holds Tryd.pinned (.plain (OpenSpec.upto fnExactReadMeltSpec)) fnExactReadMeltUptoCard
end Rows
end Go.Proofs.YtjicnfgpbbganabDoor
