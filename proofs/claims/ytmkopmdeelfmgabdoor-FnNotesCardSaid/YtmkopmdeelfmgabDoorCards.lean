/-
  DERIVED. GIVEN WITH THE SEED: THE CARDS: each row of YtmkopmdeelfmgabDoorRows.lean that lists a variable, with what it lists TIED to the program's text (the seventh form; the later family's looks); each row that meets fmt, with fmt's text TOLD by the authors' own Lean function (tested against real Go, not proved from fmt's source: count such statements apart). THE CARD IS WHAT COUNTS. Prove the row's statement (the work); the ties are given (YtmkopmdeelfmgabDoorTie.lean); close each card by the builder's one call (the guide's Derived/Test/ToyasCard.lean, 'card_holds'). Laid BY PROGRAM, IN A SANDBOX (cutbox-door.mjs). By AI agents, Wed Nov 11 2026. No macro, syntax, notation, axiom, sorry.
-/
import Derived.Test.YtmkopmdeelfmgabDoorRows
import GoSem.ClaimSeven
namespace Go.Proofs.YtmkopmdeelfmgabDoor
namespace Rows

/-- THE TIED CARD OF 'laws.FnExactPartialName'. -/
def fnExactPartialNameCard : Claim7 := { stood := { row := fnExactPartialNameRow, standIns := [], harness := (true, "b362ea22d1039a13fa880e4b419a0c8c430b06879d7820d6f6cd78d020aee6aa"), looks := true }, kinds := [], alts := [], laidByText := true, laidKinds := [.data], laidTests := true, laidLooks := .later }
def FnExactPartialNameCardSaid : Prop := Claim7.holds Tryd.pinned (.plain (OpenSpec.ofChange fnExactPartialNameSpec)) fnExactPartialNameCard

/-- THE TIED CARD OF 'laws.FnExactSoundText'. -/
def fnExactSoundTextCard : Claim7 := { stood := { row := fnExactSoundTextRow, standIns := [], harness := (true, "b362ea22d1039a13fa880e4b419a0c8c430b06879d7820d6f6cd78d020aee6aa"), looks := true }, kinds := [], alts := [], laidByText := true, laidKinds := [.data, .data, .data], laidTests := true, laidLooks := .later }
def FnExactSoundTextCardSaid : Prop := Claim7.holds Tryd.pinned (.plain (OpenSpec.ofChange fnExactSoundTextSpec)) fnExactSoundTextCard

/-- THE TIED CARD OF 'laws.FnExactReadSound'. -/
def fnExactReadSoundCard : Claim7 := { stood := { row := fnExactReadSoundRow, standIns := [], harness := (true, "b362ea22d1039a13fa880e4b419a0c8c430b06879d7820d6f6cd78d020aee6aa"), looks := true }, kinds := [], alts := [], laidByText := true, laidKinds := [.data, .data, .data, .data, .sentinel, .sentinel, .pinned], laidTests := true, laidLooks := .later }
def FnExactReadSoundCardSaid : Prop := Claim7.holds Tryd.pinned (.plain (OpenSpec.ofChange fnExactReadSoundSpec)) fnExactReadSoundCard

/-- THE TIED CARD OF 'laws.FnNotes'. -/
def fnNotesCard : Claim7 := { stood := { row := fnNotesRow, standIns := [], harness := (true, "b362ea22d1039a13fa880e4b419a0c8c430b06879d7820d6f6cd78d020aee6aa"), looks := true }, kinds := [], alts := [], laidByText := true, laidKinds := [.data, .data, .data, .data], laidTests := true, laidLooks := .later }
def FnNotesCardSaid : Prop := Claim7.holds Tryd.pinned (.plain (OpenSpec.ofChange fnNotesSpec)) fnNotesCard

/-- THE TIED CARD OF 'laws.FnExactReadTemperament'. -/
def fnExactReadTemperamentCard : Claim7 := { stood := { row := fnExactReadTemperamentRow, standIns := [], harness := (true, "b362ea22d1039a13fa880e4b419a0c8c430b06879d7820d6f6cd78d020aee6aa"), looks := true }, kinds := [], alts := [], laidByText := true, laidKinds := [.data, .data, .data, .data, .sentinel, .sentinel, .pinned], laidTests := true, laidLooks := .later }
def FnExactReadTemperamentCardSaid : Prop := Claim7.holds Tryd.pinned (.plain (OpenSpec.ofChange fnExactReadTemperamentSpec)) fnExactReadTemperamentCard

/-- THE SECOND FORM's CARD OF 'laws.FnExactPartialName'. -/
def fnExactPartialNameUptoCard : Claim7 := { stood := { row := fnExactPartialNameUptoRow, standIns := [], harness := (true, "b362ea22d1039a13fa880e4b419a0c8c430b06879d7820d6f6cd78d020aee6aa"), looks := true }, kinds := [], alts := [], laidByText := true, laidKinds := [.data], laidTests := true, laidLooks := .later }
def FnExactPartialNameUptoCardSaid : Prop := Claim7.holds Tryd.pinned (.plain (OpenSpec.upto fnExactPartialNameSpec)) fnExactPartialNameUptoCard

/-- THE SECOND FORM's CARD OF 'laws.FnExactSoundText'. -/
def fnExactSoundTextUptoCard : Claim7 := { stood := { row := fnExactSoundTextUptoRow, standIns := [], harness := (true, "b362ea22d1039a13fa880e4b419a0c8c430b06879d7820d6f6cd78d020aee6aa"), looks := true }, kinds := [], alts := [], laidByText := true, laidKinds := [.data, .data, .data], laidTests := true, laidLooks := .later }
def FnExactSoundTextUptoCardSaid : Prop := Claim7.holds Tryd.pinned (.plain (OpenSpec.upto fnExactSoundTextSpec)) fnExactSoundTextUptoCard

/-- THE SECOND FORM's CARD OF 'laws.FnExactReadSound'. -/
def fnExactReadSoundUptoCard : Claim7 := { stood := { row := fnExactReadSoundUptoRow, standIns := [], harness := (true, "b362ea22d1039a13fa880e4b419a0c8c430b06879d7820d6f6cd78d020aee6aa"), looks := true }, kinds := [], alts := [], laidByText := true, laidKinds := [.data, .data, .data, .data, .sentinel, .sentinel, .pinned], laidTests := true, laidLooks := .later }
def FnExactReadSoundUptoCardSaid : Prop := Claim7.holds Tryd.pinned (.plain (OpenSpec.upto fnExactReadSoundSpec)) fnExactReadSoundUptoCard

/-- THE SECOND FORM's CARD OF 'laws.FnNotes'. -/
def fnNotesUptoCard : Claim7 := { stood := { row := fnNotesUptoRow, standIns := [], harness := (true, "b362ea22d1039a13fa880e4b419a0c8c430b06879d7820d6f6cd78d020aee6aa"), looks := true }, kinds := [], alts := [], laidByText := true, laidKinds := [.data, .data, .data, .data], laidTests := true, laidLooks := .later }
def FnNotesUptoCardSaid : Prop := Claim7.holds Tryd.pinned (.plain (OpenSpec.upto fnNotesSpec)) fnNotesUptoCard

/-- THE SECOND FORM's CARD OF 'laws.FnExactReadTemperament'. -/
def fnExactReadTemperamentUptoCard : Claim7 := { stood := { row := fnExactReadTemperamentUptoRow, standIns := [], harness := (true, "b362ea22d1039a13fa880e4b419a0c8c430b06879d7820d6f6cd78d020aee6aa"), looks := true }, kinds := [], alts := [], laidByText := true, laidKinds := [.data, .data, .data, .data, .sentinel, .sentinel, .pinned], laidTests := true, laidLooks := .later }
def FnExactReadTemperamentUptoCardSaid : Prop := Claim7.holds Tryd.pinned (.plain (OpenSpec.upto fnExactReadTemperamentSpec)) fnExactReadTemperamentUptoCard
end Rows
end Go.Proofs.YtmkopmdeelfmgabDoor
