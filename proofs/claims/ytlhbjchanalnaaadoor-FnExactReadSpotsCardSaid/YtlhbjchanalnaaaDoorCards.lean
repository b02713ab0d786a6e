/-
  DERIVED. GIVEN WITH THE SEED: THE CARDS: each row of YtlhbjchanalnaaaDoorRows.lean that lists a variable, with what it lists TIED to the program's text (the seventh form; the later family's looks); each row that meets fmt, with fmt's text TOLD by the authors' own Lean function (tested against real Go, not proved from fmt's source: count such statements apart). THE CARD IS WHAT COUNTS. Prove the row's statement (the work); the ties are given (YtlhbjchanalnaaaDoorTie.lean); close each card by the builder's one call (the guide's Derived/Test/ToyasCard.lean, 'card_holds'). Laid BY PROGRAM, IN A SANDBOX (cutbox-door.mjs). By AI agents, Wed Nov 11 2026. No macro, syntax, notation, axiom, sorry.
-/
import Derived.Test.YtlhbjchanalnaaaDoorRows
import GoSem.ClaimSeven
namespace Go.Proofs.YtlhbjchanalnaaaDoor
namespace Rows

/-- THE TIED CARD OF 'laws.FnExactReadSpots'. -/
def fnExactReadSpotsCard : Claim7 := { stood := { row := fnExactReadSpotsRow, standIns := [], harness := (true, "ebba81760c0baf89831ea3f3ed82182bc9feab9ffaba2bd62b0aa30f981c5dd0"), looks := true }, kinds := [], alts := [], laidByText := true, laidKinds := [.data, .data, .data, .data, .sentinel, .sentinel, .pinned], laidTests := true, laidLooks := .later }
def FnExactReadSpotsCardSaid : Prop := Claim7.holds Tryd.pinned (.plain (OpenSpec.ofChange fnExactReadSpotsSpec)) fnExactReadSpotsCard

/-- THE SECOND FORM's CARD OF 'laws.FnExactReadSpots'. -/
def fnExactReadSpotsUptoCard : Claim7 := { stood := { row := fnExactReadSpotsUptoRow, standIns := [], harness := (true, "ebba81760c0baf89831ea3f3ed82182bc9feab9ffaba2bd62b0aa30f981c5dd0"), looks := true }, kinds := [], alts := [], laidByText := true, laidKinds := [.data, .data, .data, .data, .sentinel, .sentinel, .pinned], laidTests := true, laidLooks := .later }
def FnExactReadSpotsUptoCardSaid : Prop := Claim7.holds Tryd.pinned (.plain (OpenSpec.upto fnExactReadSpotsSpec)) fnExactReadSpotsUptoCard
end Rows
end Go.Proofs.YtlhbjchanalnaaaDoor
