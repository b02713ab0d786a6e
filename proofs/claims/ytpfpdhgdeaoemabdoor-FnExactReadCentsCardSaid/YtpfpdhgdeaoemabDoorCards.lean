/-
  DERIVED. GIVEN WITH THE SEED: THE CARDS: each row of YtpfpdhgdeaoemabDoorRows.lean that lists a variable, with what it lists TIED to the program's text (the seventh form; the later family's looks); each row that meets fmt, with fmt's text TOLD by the authors' own Lean function (tested against real Go, not proved from fmt's source: count such statements apart). THE CARD IS WHAT COUNTS. Prove the row's statement (the work); the ties are given (YtpfpdhgdeaoemabDoorTie.lean); close each card by the builder's one call (the guide's Derived/Test/ToyasCard.lean, 'card_holds'). Laid BY PROGRAM, IN A SANDBOX (cutbox-door.mjs). By AI agents, Wed Nov 11 2026. No macro, syntax, notation, axiom, sorry.
-/
import Derived.Test.YtpfpdhgdeaoemabDoorRows
import GoSem.ClaimSeven
namespace Go.Proofs.YtpfpdhgdeaoemabDoor
namespace Rows

/-- THE TIED CARD OF 'laws.FnExactHertzText'. -/
def fnExactHertzTextCard : Claim7 := { stood := { row := fnExactHertzTextRow, standIns := [], harness := (true, "c63b5f4e27a5ce6c01d5115825aed1936a6126d9d1f30d107bdc9388208588a6"), looks := true }, kinds := [], alts := [], laidByText := true, laidKinds := [.data, .data, .data], laidTests := true, laidLooks := .later }
def FnExactHertzTextCardSaid : Prop := Claim7.holds Tryd.pinned (.plain (OpenSpec.ofChange fnExactHertzTextSpec)) fnExactHertzTextCard

/-- THE TIED CARD OF 'laws.FnExactReadHertz'. -/
def fnExactReadHertzCard : Claim7 := { stood := { row := fnExactReadHertzRow, standIns := [], harness := (true, "c63b5f4e27a5ce6c01d5115825aed1936a6126d9d1f30d107bdc9388208588a6"), looks := true }, kinds := [], alts := [], laidByText := true, laidKinds := [.data, .data, .data, .data, .sentinel, .sentinel, .pinned], laidTests := true, laidLooks := .later }
def FnExactReadHertzCardSaid : Prop := Claim7.holds Tryd.pinned (.plain (OpenSpec.ofChange fnExactReadHertzSpec)) fnExactReadHertzCard

/-- THE TIED CARD OF 'laws.FnExactCentsText'. -/
def fnExactCentsTextCard : Claim7 := { stood := { row := fnExactCentsTextRow, standIns := [], harness := (true, "c63b5f4e27a5ce6c01d5115825aed1936a6126d9d1f30d107bdc9388208588a6"), looks := true }, kinds := [], alts := [], laidByText := true, laidKinds := [.data, .data, .data], laidTests := true, laidLooks := .later }
def FnExactCentsTextCardSaid : Prop := Claim7.holds Tryd.pinned (.plain (OpenSpec.ofChange fnExactCentsTextSpec)) fnExactCentsTextCard

/-- THE TIED CARD OF 'laws.FnExactReadCents'. -/
def fnExactReadCentsCard : Claim7 := { stood := { row := fnExactReadCentsRow, standIns := [], harness := (true, "c63b5f4e27a5ce6c01d5115825aed1936a6126d9d1f30d107bdc9388208588a6"), looks := true }, kinds := [], alts := [], laidByText := true, laidKinds := [.data, .data, .data, .data, .sentinel, .sentinel, .pinned], laidTests := true, laidLooks := .later }
def FnExactReadCentsCardSaid : Prop := Claim7.holds Tryd.pinned (.plain (OpenSpec.ofChange fnExactReadCentsSpec)) fnExactReadCentsCard

/-- THE TIED CARD OF 'laws.FnExactTemperamentNames'. -/
def fnExactTemperamentNamesCard : Claim7 := { stood := { row := fnExactTemperamentNamesRow, standIns := [], harness := (true, "c63b5f4e27a5ce6c01d5115825aed1936a6126d9d1f30d107bdc9388208588a6"), looks := true }, kinds := [], alts := [], laidByText := true, laidKinds := [.data], laidTests := true, laidLooks := .later }
def FnExactTemperamentNamesCardSaid : Prop := Claim7.holds Tryd.pinned (.plain (OpenSpec.ofChange fnExactTemperamentNamesSpec)) fnExactTemperamentNamesCard

/-- THE TIED CARD OF 'laws.FnExactNoteName'. -/
def fnExactNoteNameCard : Claim7 := { stood := { row := fnExactNoteNameRow, standIns := [], harness := (true, "c63b5f4e27a5ce6c01d5115825aed1936a6126d9d1f30d107bdc9388208588a6"), looks := true }, kinds := [], alts := [], laidByText := true, laidKinds := [.data, .data, .data, .data], laidTests := true, laidLooks := .later }
def FnExactNoteNameCardSaid : Prop := Claim7.holds Tryd.pinned (.plain (OpenSpec.ofChange fnExactNoteNameSpec)) fnExactNoteNameCard

/-- THE TIED CARD OF 'laws.FnExactNoteNamed'. -/
def fnExactNoteNamedCard : Claim7 := { stood := { row := fnExactNoteNamedRow, standIns := [], harness := (true, "c63b5f4e27a5ce6c01d5115825aed1936a6126d9d1f30d107bdc9388208588a6"), looks := true }, kinds := [], alts := [], laidByText := true, laidKinds := [.data, .data, .data, .data], laidTests := true, laidLooks := .later }
def FnExactNoteNamedCardSaid : Prop := Claim7.holds Tryd.pinned (.plain (OpenSpec.ofChange fnExactNoteNamedSpec)) fnExactNoteNamedCard

/-- THE SECOND FORM's CARD OF 'laws.FnExactHertzText'. -/
def fnExactHertzTextUptoCard : Claim7 := { stood := { row := fnExactHertzTextUptoRow, standIns := [], harness := (true, "c63b5f4e27a5ce6c01d5115825aed1936a6126d9d1f30d107bdc9388208588a6"), looks := true }, kinds := [], alts := [], laidByText := true, laidKinds := [.data, .data, .data], laidTests := true, laidLooks := .later }
def FnExactHertzTextUptoCardSaid : Prop := Claim7.holds Tryd.pinned (.plain (OpenSpec.upto fnExactHertzTextSpec)) fnExactHertzTextUptoCard

/-- THE SECOND FORM's CARD OF 'laws.FnExactReadHertz'. -/
def fnExactReadHertzUptoCard : Claim7 := { stood := { row := fnExactReadHertzUptoRow, standIns := [], harness := (true, "c63b5f4e27a5ce6c01d5115825aed1936a6126d9d1f30d107bdc9388208588a6"), looks := true }, kinds := [], alts := [], laidByText := true, laidKinds := [.data, .data, .data, .data, .sentinel, .sentinel, .pinned], laidTests := true, laidLooks := .later }
def FnExactReadHertzUptoCardSaid : Prop := Claim7.holds Tryd.pinned (.plain (OpenSpec.upto fnExactReadHertzSpec)) fnExactReadHertzUptoCard

/-- THE SECOND FORM's CARD OF 'laws.FnExactCentsText'. -/
def fnExactCentsTextUptoCard : Claim7 := { stood := { row := fnExactCentsTextUptoRow, standIns := [], harness := (true, "c63b5f4e27a5ce6c01d5115825aed1936a6126d9d1f30d107bdc9388208588a6"), looks := true }, kinds := [], alts := [], laidByText := true, laidKinds := [.data, .data, .data], laidTests := true, laidLooks := .later }
def FnExactCentsTextUptoCardSaid : Prop := Claim7.holds Tryd.pinned (.plain (OpenSpec.upto fnExactCentsTextSpec)) fnExactCentsTextUptoCard

/-- THE SECOND FORM's CARD OF 'laws.FnExactReadCents'. -/
def fnExactReadCentsUptoCard : Claim7 := { stood := { row := fnExactReadCentsUptoRow, standIns := [], harness := (true, "c63b5f4e27a5ce6c01d5115825aed1936a6126d9d1f30d107bdc9388208588a6"), looks := true }, kinds := [], alts := [], laidByText := true, laidKinds := [.data, .data, .data, .data, .sentinel, .sentinel, .pinned], laidTests := true, laidLooks := .later }
def FnExactReadCentsUptoCardSaid : Prop := Claim7.holds Tryd.pinned (.plain (OpenSpec.upto fnExactReadCentsSpec)) fnExactReadCentsUptoCard

/-- THE SECOND FORM's CARD OF 'laws.FnExactTemperamentNames'. -/
def fnExactTemperamentNamesUptoCard : Claim7 := { stood := { row := fnExactTemperamentNamesUptoRow, standIns := [], harness := (true, "c63b5f4e27a5ce6c01d5115825aed1936a6126d9d1f30d107bdc9388208588a6"), looks := true }, kinds := [], alts := [], laidByText := true, laidKinds := [.data], laidTests := true, laidLooks := .later }
def FnExactTemperamentNamesUptoCardSaid : Prop := Claim7.holds Tryd.pinned (.plain (OpenSpec.upto fnExactTemperamentNamesSpec)) fnExactTemperamentNamesUptoCard

/-- THE SECOND FORM's CARD OF 'laws.FnExactNoteName'. -/
def fnExactNoteNameUptoCard : Claim7 := { stood := { row := fnExactNoteNameUptoRow, standIns := [], harness := (true, "c63b5f4e27a5ce6c01d5115825aed1936a6126d9d1f30d107bdc9388208588a6"), looks := true }, kinds := [], alts := [], laidByText := true, laidKinds := [.data, .data, .data, .data], laidTests := true, laidLooks := .later }
def FnExactNoteNameUptoCardSaid : Prop := Claim7.holds Tryd.pinned (.plain (OpenSpec.upto fnExactNoteNameSpec)) fnExactNoteNameUptoCard

/-- THE SECOND FORM's CARD OF 'laws.FnExactNoteNamed'. -/
def fnExactNoteNamedUptoCard : Claim7 := { stood := { row := fnExactNoteNamedUptoRow, standIns := [], harness := (true, "c63b5f4e27a5ce6c01d5115825aed1936a6126d9d1f30d107bdc9388208588a6"), looks := true }, kinds := [], alts := [], laidByText := true, laidKinds := [.data, .data, .data, .data], laidTests := true, laidLooks := .later }
def FnExactNoteNamedUptoCardSaid : Prop := Claim7.holds Tryd.pinned (.plain (OpenSpec.upto fnExactNoteNamedSpec)) fnExactNoteNamedUptoCard
end Rows
end Go.Proofs.YtpfpdhgdeaoemabDoor
