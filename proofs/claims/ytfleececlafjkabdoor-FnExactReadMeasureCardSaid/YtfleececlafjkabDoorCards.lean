/-
  DERIVED. GIVEN WITH THE SEED: THE CARDS: each row of YtfleececlafjkabDoorRows.lean that lists a variable, with what it lists TIED to the program's text (the seventh form; the later family's looks); each row that meets fmt, with fmt's text TOLD by the authors' own Lean function (tested against real Go, not proved from fmt's source: count such statements apart). THE CARD IS WHAT COUNTS. Prove the row's statement (the work); the ties are given (YtfleececlafjkabDoorTie.lean); close each card by the builder's one call (the guide's Derived/Test/ToyasCard.lean, 'card_holds'). Laid BY PROGRAM, IN A SANDBOX (cutbox-door.mjs). By AI agents, Wed Nov 11 2026. No macro, syntax, notation, axiom, sorry.
-/
import Derived.Test.YtfleececlafjkabDoorRows
import GoSem.ClaimSeven
namespace Go.Proofs.YtfleececlafjkabDoor
namespace Rows

/-- THE TIED CARD OF 'laws.FnExactMeasureText'. -/
def fnExactMeasureTextCard : Claim7 := { stood := { row := fnExactMeasureTextRow, standIns := [], harness := (true, "46933db1b48309eca4f0e56b2658ad848ef7f80c43ff6ae1016cd85f7f00995e"), looks := true }, kinds := [], alts := [], laidByText := true, laidKinds := [.data, .data, .data, .data], laidTests := true, laidLooks := .later }
def FnExactMeasureTextCardSaid : Prop := Claim7.holds Tryd.pinned (.plain (OpenSpec.ofChange fnExactMeasureTextSpec)) fnExactMeasureTextCard

/-- THE TIED CARD OF 'laws.FnExactReadMeasure'. -/
def fnExactReadMeasureCard : Claim7 := { stood := { row := fnExactReadMeasureRow, standIns := [], harness := (true, "46933db1b48309eca4f0e56b2658ad848ef7f80c43ff6ae1016cd85f7f00995e"), looks := true }, kinds := [], alts := [], laidByText := true, laidKinds := [.data, .data, .data, .data, .sentinel, .sentinel, .data, .pinned], laidTests := true, laidLooks := .later }
def FnExactReadMeasureCardSaid : Prop := Claim7.holds Tryd.pinned (.plain (OpenSpec.ofChange fnExactReadMeasureSpec)) fnExactReadMeasureCard

/-- THE TIED CARD OF 'laws.FnExactSpotsText'. -/
def fnExactSpotsTextCard : Claim7 := { stood := { row := fnExactSpotsTextRow, standIns := [], harness := (true, "46933db1b48309eca4f0e56b2658ad848ef7f80c43ff6ae1016cd85f7f00995e"), looks := true }, kinds := [], alts := [], laidByText := true, laidKinds := [.data, .data, .data], laidTests := true, laidLooks := .later }
def FnExactSpotsTextCardSaid : Prop := Claim7.holds Tryd.pinned (.plain (OpenSpec.ofChange fnExactSpotsTextSpec)) fnExactSpotsTextCard

/-- THE SECOND FORM's CARD OF 'laws.FnExactMeasureText'. -/
def fnExactMeasureTextUptoCard : Claim7 := { stood := { row := fnExactMeasureTextUptoRow, standIns := [], harness := (true, "46933db1b48309eca4f0e56b2658ad848ef7f80c43ff6ae1016cd85f7f00995e"), looks := true }, kinds := [], alts := [], laidByText := true, laidKinds := [.data, .data, .data, .data], laidTests := true, laidLooks := .later }
def FnExactMeasureTextUptoCardSaid : Prop := Claim7.holds Tryd.pinned (.plain (OpenSpec.upto fnExactMeasureTextSpec)) fnExactMeasureTextUptoCard

/-- THE SECOND FORM's CARD OF 'laws.FnExactReadMeasure'. -/
def fnExactReadMeasureUptoCard : Claim7 := { stood := { row := fnExactReadMeasureUptoRow, standIns := [], harness := (true, "46933db1b48309eca4f0e56b2658ad848ef7f80c43ff6ae1016cd85f7f00995e"), looks := true }, kinds := [], alts := [], laidByText := true, laidKinds := [.data, .data, .data, .data, .sentinel, .sentinel, .data, .pinned], laidTests := true, laidLooks := .later }
def FnExactReadMeasureUptoCardSaid : Prop := Claim7.holds Tryd.pinned (.plain (OpenSpec.upto fnExactReadMeasureSpec)) fnExactReadMeasureUptoCard

/-- THE SECOND FORM's CARD OF 'laws.FnExactSpotsText'. -/
def fnExactSpotsTextUptoCard : Claim7 := { stood := { row := fnExactSpotsTextUptoRow, standIns := [], harness := (true, "46933db1b48309eca4f0e56b2658ad848ef7f80c43ff6ae1016cd85f7f00995e"), looks := true }, kinds := [], alts := [], laidByText := true, laidKinds := [.data, .data, .data], laidTests := true, laidLooks := .later }
def FnExactSpotsTextUptoCardSaid : Prop := Claim7.holds Tryd.pinned (.plain (OpenSpec.upto fnExactSpotsTextSpec)) fnExactSpotsTextUptoCard
end Rows
end Go.Proofs.YtfleececlafjkabDoor
