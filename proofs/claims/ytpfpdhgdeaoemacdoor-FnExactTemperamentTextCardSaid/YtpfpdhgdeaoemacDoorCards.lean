/-
  DERIVED. GIVEN WITH THE SEED: THE CARDS: each row of YtpfpdhgdeaoemacDoorRows.lean that lists a variable, with what it lists TIED to the program's text (the seventh form; the later family's looks); each row that meets fmt, with fmt's text TOLD by the authors' own Lean function (tested against real Go, not proved from fmt's source: count such statements apart). THE CARD IS WHAT COUNTS. Prove the row's statement (the work); the ties are given (YtpfpdhgdeaoemacDoorTie.lean); close each card by the builder's one call (the guide's Derived/Test/ToyasCard.lean, 'card_holds'). Laid BY PROGRAM, IN A SANDBOX (cutbox-door.mjs). By AI agents, Wed Nov 11 2026. No macro, syntax, notation, axiom, sorry.
-/
import Derived.Test.YtpfpdhgdeaoemacDoorRows
import GoSem.ClaimSeven
namespace Go.Proofs.YtpfpdhgdeaoemacDoor
namespace Rows

/-- THE TIED CARD OF 'laws.FnExactTemperamentText'. -/
def fnExactTemperamentTextCard : Claim7 := { stood := { row := fnExactTemperamentTextRow, standIns := [], harness := (true, "d9502a954b9502c75d6688b165fa8ee374d4f2cf5123de152496aff7fb45e5b8"), looks := true }, kinds := [], alts := [], laidByText := true, laidKinds := [.data, .data, .data], laidTests := true, laidLooks := .later }
def FnExactTemperamentTextCardSaid : Prop := Claim7.holds Tryd.pinned (.plain (OpenSpec.ofChange fnExactTemperamentTextSpec)) fnExactTemperamentTextCard

/-- THE TIED CARD OF 'laws.FnExactReadTemperament'. -/
def fnExactReadTemperamentCard : Claim7 := { stood := { row := fnExactReadTemperamentRow, standIns := [], harness := (true, "d9502a954b9502c75d6688b165fa8ee374d4f2cf5123de152496aff7fb45e5b8"), looks := true }, kinds := [], alts := [], laidByText := true, laidKinds := [.data, .data, .data, .data, .sentinel, .sentinel, .pinned], laidTests := true, laidLooks := .later }
def FnExactReadTemperamentCardSaid : Prop := Claim7.holds Tryd.pinned (.plain (OpenSpec.ofChange fnExactReadTemperamentSpec)) fnExactReadTemperamentCard

/-- THE SECOND FORM's CARD OF 'laws.FnExactTemperamentText'. -/
def fnExactTemperamentTextUptoCard : Claim7 := { stood := { row := fnExactTemperamentTextUptoRow, standIns := [], harness := (true, "d9502a954b9502c75d6688b165fa8ee374d4f2cf5123de152496aff7fb45e5b8"), looks := true }, kinds := [], alts := [], laidByText := true, laidKinds := [.data, .data, .data], laidTests := true, laidLooks := .later }
def FnExactTemperamentTextUptoCardSaid : Prop := Claim7.holds Tryd.pinned (.plain (OpenSpec.upto fnExactTemperamentTextSpec)) fnExactTemperamentTextUptoCard

/-- THE SECOND FORM's CARD OF 'laws.FnExactReadTemperament'. -/
def fnExactReadTemperamentUptoCard : Claim7 := { stood := { row := fnExactReadTemperamentUptoRow, standIns := [], harness := (true, "d9502a954b9502c75d6688b165fa8ee374d4f2cf5123de152496aff7fb45e5b8"), looks := true }, kinds := [], alts := [], laidByText := true, laidKinds := [.data, .data, .data, .data, .sentinel, .sentinel, .pinned], laidTests := true, laidLooks := .later }
def FnExactReadTemperamentUptoCardSaid : Prop := Claim7.holds Tryd.pinned (.plain (OpenSpec.upto fnExactReadTemperamentSpec)) fnExactReadTemperamentUptoCard
end Rows
end Go.Proofs.YtpfpdhgdeaoemacDoor
