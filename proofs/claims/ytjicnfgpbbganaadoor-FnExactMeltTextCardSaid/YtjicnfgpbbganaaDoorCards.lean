/-
  DERIVED. GIVEN WITH THE SEED: THE CARDS: each row of YtjicnfgpbbganaaDoorRows.lean that lists a variable, with what it lists TIED to the program's text (the seventh form; the later family's looks); each row that meets fmt, with fmt's text TOLD by the authors' own Lean function (tested against real Go, not proved from fmt's source: count such statements apart). THE CARD IS WHAT COUNTS. Prove the row's statement (the work); the ties are given (YtjicnfgpbbganaaDoorTie.lean); close each card by the builder's one call (the guide's Derived/Test/ToyasCard.lean, 'card_holds'). Laid BY PROGRAM, IN A SANDBOX (cutbox-door.mjs). By AI agents, Wed Nov 11 2026. No macro, syntax, notation, axiom, sorry.
-/
import Derived.Test.YtjicnfgpbbganaaDoorRows
import GoSem.ClaimSeven
namespace Go.Proofs.YtjicnfgpbbganaaDoor
namespace Rows

/-- THE TIED CARD OF 'laws.FnExactPossibleMelts'. -/
def fnExactPossibleMeltsCard : Claim7 := { stood := { row := fnExactPossibleMeltsRow, standIns := [], harness := (true, "c982394d0f24f6ab07ad5a9d682b3b485b1281ad6dc957fbffd9b6ff294150d1"), looks := true }, kinds := [], alts := [], laidByText := true, laidKinds := [.sentinel, .sentinel], laidTests := true, laidLooks := .later }
def FnExactPossibleMeltsCardSaid : Prop := Claim7.holds Tryd.pinned (.plain (OpenSpec.ofChange fnExactPossibleMeltsSpec)) fnExactPossibleMeltsCard

/-- THE TIED CARD OF 'laws.FnExactMetalOf'. -/
def fnExactMetalOfCard : Claim7 := { stood := { row := fnExactMetalOfRow, standIns := [], harness := (true, "c982394d0f24f6ab07ad5a9d682b3b485b1281ad6dc957fbffd9b6ff294150d1"), looks := true }, kinds := [], alts := [], laidByText := true, laidKinds := [.sentinel, .sentinel, .sentinel, .sentinel, .sentinel], laidTests := true, laidLooks := .later }
def FnExactMetalOfCardSaid : Prop := Claim7.holds Tryd.pinned (.plain (OpenSpec.ofChange fnExactMetalOfSpec)) fnExactMetalOfCard

/-- THE TIED CARD OF 'laws.FnExactMostFrom'. -/
def fnExactMostFromCard : Claim7 := { stood := { row := fnExactMostFromRow, standIns := [], harness := (true, "c982394d0f24f6ab07ad5a9d682b3b485b1281ad6dc957fbffd9b6ff294150d1"), looks := true }, kinds := [], alts := [], laidByText := true, laidKinds := [.sentinel, .sentinel, .sentinel, .sentinel, .sentinel], laidTests := true, laidLooks := .later }
def FnExactMostFromCardSaid : Prop := Claim7.holds Tryd.pinned (.plain (OpenSpec.ofChange fnExactMostFromSpec)) fnExactMostFromCard

/-- THE TIED CARD OF 'laws.FnExactAlloyOfMelt'. -/
def fnExactAlloyOfMeltCard : Claim7 := { stood := { row := fnExactAlloyOfMeltRow, standIns := [], harness := (true, "c982394d0f24f6ab07ad5a9d682b3b485b1281ad6dc957fbffd9b6ff294150d1"), looks := true }, kinds := [], alts := [], laidByText := true, laidKinds := [.sentinel, .sentinel, .sentinel, .sentinel, .sentinel], laidTests := true, laidLooks := .later }
def FnExactAlloyOfMeltCardSaid : Prop := Claim7.holds Tryd.pinned (.plain (OpenSpec.ofChange fnExactAlloyOfMeltSpec)) fnExactAlloyOfMeltCard

/-- THE TIED CARD OF 'laws.FnExactUnusedIngots'. -/
def fnExactUnusedIngotsCard : Claim7 := { stood := { row := fnExactUnusedIngotsRow, standIns := [], harness := (true, "c982394d0f24f6ab07ad5a9d682b3b485b1281ad6dc957fbffd9b6ff294150d1"), looks := true }, kinds := [], alts := [], laidByText := true, laidKinds := [.sentinel, .sentinel, .sentinel, .sentinel, .sentinel], laidTests := true, laidLooks := .later }
def FnExactUnusedIngotsCardSaid : Prop := Claim7.holds Tryd.pinned (.plain (OpenSpec.ofChange fnExactUnusedIngotsSpec)) fnExactUnusedIngotsCard

/-- THE TIED CARD OF 'laws.FnExactLossOf'. -/
def fnExactLossOfCard : Claim7 := { stood := { row := fnExactLossOfRow, standIns := [], harness := (true, "c982394d0f24f6ab07ad5a9d682b3b485b1281ad6dc957fbffd9b6ff294150d1"), looks := true }, kinds := [], alts := [], laidByText := true, laidKinds := [.sentinel, .sentinel, .sentinel, .sentinel, .sentinel], laidTests := true, laidLooks := .later }
def FnExactLossOfCardSaid : Prop := Claim7.holds Tryd.pinned (.plain (OpenSpec.ofChange fnExactLossOfSpec)) fnExactLossOfCard

/-- THE TIED CARD OF 'laws.FnExactMeltText'. -/
def fnExactMeltTextCard : Claim7 := { stood := { row := fnExactMeltTextRow, standIns := [], harness := (true, "c982394d0f24f6ab07ad5a9d682b3b485b1281ad6dc957fbffd9b6ff294150d1"), looks := true }, kinds := [], alts := [], laidByText := true, laidKinds := [.data, .data, .data], laidTests := true, laidLooks := .later }
def FnExactMeltTextCardSaid : Prop := Claim7.holds Tryd.pinned (.plain (OpenSpec.ofChange fnExactMeltTextSpec)) fnExactMeltTextCard

/-- THE SECOND FORM's CARD OF 'laws.FnExactPossibleMelts'. -/
def fnExactPossibleMeltsUptoCard : Claim7 := { stood := { row := fnExactPossibleMeltsUptoRow, standIns := [], harness := (true, "c982394d0f24f6ab07ad5a9d682b3b485b1281ad6dc957fbffd9b6ff294150d1"), looks := true }, kinds := [], alts := [], laidByText := true, laidKinds := [.sentinel, .sentinel], laidTests := true, laidLooks := .later }
def FnExactPossibleMeltsUptoCardSaid : Prop := Claim7.holds Tryd.pinned (.plain (OpenSpec.upto fnExactPossibleMeltsSpec)) fnExactPossibleMeltsUptoCard

/-- THE SECOND FORM's CARD OF 'laws.FnExactMetalOf'. -/
def fnExactMetalOfUptoCard : Claim7 := { stood := { row := fnExactMetalOfUptoRow, standIns := [], harness := (true, "c982394d0f24f6ab07ad5a9d682b3b485b1281ad6dc957fbffd9b6ff294150d1"), looks := true }, kinds := [], alts := [], laidByText := true, laidKinds := [.sentinel, .sentinel, .sentinel, .sentinel, .sentinel], laidTests := true, laidLooks := .later }
def FnExactMetalOfUptoCardSaid : Prop := Claim7.holds Tryd.pinned (.plain (OpenSpec.upto fnExactMetalOfSpec)) fnExactMetalOfUptoCard

/-- THE SECOND FORM's CARD OF 'laws.FnExactMostFrom'. -/
def fnExactMostFromUptoCard : Claim7 := { stood := { row := fnExactMostFromUptoRow, standIns := [], harness := (true, "c982394d0f24f6ab07ad5a9d682b3b485b1281ad6dc957fbffd9b6ff294150d1"), looks := true }, kinds := [], alts := [], laidByText := true, laidKinds := [.sentinel, .sentinel, .sentinel, .sentinel, .sentinel], laidTests := true, laidLooks := .later }
def FnExactMostFromUptoCardSaid : Prop := Claim7.holds Tryd.pinned (.plain (OpenSpec.upto fnExactMostFromSpec)) fnExactMostFromUptoCard

/-- THE SECOND FORM's CARD OF 'laws.FnExactAlloyOfMelt'. -/
def fnExactAlloyOfMeltUptoCard : Claim7 := { stood := { row := fnExactAlloyOfMeltUptoRow, standIns := [], harness := (true, "c982394d0f24f6ab07ad5a9d682b3b485b1281ad6dc957fbffd9b6ff294150d1"), looks := true }, kinds := [], alts := [], laidByText := true, laidKinds := [.sentinel, .sentinel, .sentinel, .sentinel, .sentinel], laidTests := true, laidLooks := .later }
def FnExactAlloyOfMeltUptoCardSaid : Prop := Claim7.holds Tryd.pinned (.plain (OpenSpec.upto fnExactAlloyOfMeltSpec)) fnExactAlloyOfMeltUptoCard

/-- THE SECOND FORM's CARD OF 'laws.FnExactUnusedIngots'. -/
def fnExactUnusedIngotsUptoCard : Claim7 := { stood := { row := fnExactUnusedIngotsUptoRow, standIns := [], harness := (true, "c982394d0f24f6ab07ad5a9d682b3b485b1281ad6dc957fbffd9b6ff294150d1"), looks := true }, kinds := [], alts := [], laidByText := true, laidKinds := [.sentinel, .sentinel, .sentinel, .sentinel, .sentinel], laidTests := true, laidLooks := .later }
def FnExactUnusedIngotsUptoCardSaid : Prop := Claim7.holds Tryd.pinned (.plain (OpenSpec.upto fnExactUnusedIngotsSpec)) fnExactUnusedIngotsUptoCard

/-- THE SECOND FORM's CARD OF 'laws.FnExactLossOf'. -/
def fnExactLossOfUptoCard : Claim7 := { stood := { row := fnExactLossOfUptoRow, standIns := [], harness := (true, "c982394d0f24f6ab07ad5a9d682b3b485b1281ad6dc957fbffd9b6ff294150d1"), looks := true }, kinds := [], alts := [], laidByText := true, laidKinds := [.sentinel, .sentinel, .sentinel, .sentinel, .sentinel], laidTests := true, laidLooks := .later }
def FnExactLossOfUptoCardSaid : Prop := Claim7.holds Tryd.pinned (.plain (OpenSpec.upto fnExactLossOfSpec)) fnExactLossOfUptoCard

/-- THE SECOND FORM's CARD OF 'laws.FnExactMeltText'. -/
def fnExactMeltTextUptoCard : Claim7 := { stood := { row := fnExactMeltTextUptoRow, standIns := [], harness := (true, "c982394d0f24f6ab07ad5a9d682b3b485b1281ad6dc957fbffd9b6ff294150d1"), looks := true }, kinds := [], alts := [], laidByText := true, laidKinds := [.data, .data, .data], laidTests := true, laidLooks := .later }
def FnExactMeltTextUptoCardSaid : Prop := Claim7.holds Tryd.pinned (.plain (OpenSpec.upto fnExactMeltTextSpec)) fnExactMeltTextUptoCard
end Rows
end Go.Proofs.YtjicnfgpbbganaaDoor
