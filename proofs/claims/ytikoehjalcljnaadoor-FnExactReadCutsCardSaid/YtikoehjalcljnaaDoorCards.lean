/-
  DERIVED. GIVEN WITH THE SEED: THE CARDS: each row of YtikoehjalcljnaaDoorRows.lean that lists a variable, with what it lists TIED to the program's text (the seventh form; the later family's looks); each row that meets fmt, with fmt's text TOLD by the authors' own Lean function (tested against real Go, not proved from fmt's source: count such statements apart). THE CARD IS WHAT COUNTS. Prove the row's statement (the work); the ties are given (YtikoehjalcljnaaDoorTie.lean); close each card by the builder's one call (the guide's Derived/Test/ToyasCard.lean, 'card_holds'). Laid BY PROGRAM, IN A SANDBOX (cutbox-door.mjs). By AI agents, Wed Nov 11 2026. No macro, syntax, notation, axiom, sorry.
-/
import Derived.Test.YtikoehjalcljnaaDoorRows
import GoSem.ClaimSeven
namespace Go.Proofs.YtikoehjalcljnaaDoor
namespace Rows

/-- THE TIED CARD OF 'laws.FnExactReadCuts'. -/
def fnExactReadCutsCard : Claim7 := { stood := { row := fnExactReadCutsRow, standIns := [], harness := (true, "1891323cf6fc03076e5b792a75479f2d0f0d0f3c04eedcb67abbb7ed5febcd7b"), looks := true }, kinds := [], alts := [], laidByText := true, laidKinds := [.data, .data, .data, .data, .sentinel, .sentinel, .pinned], laidTests := true, laidLooks := .later }
def FnExactReadCutsCardSaid : Prop := Claim7.holds Tryd.pinned (.plain (OpenSpec.ofChange fnExactReadCutsSpec)) fnExactReadCutsCard

/-- THE TIED CARD OF 'laws.FnExactIngotText'. -/
def fnExactIngotTextCard : Claim7 := { stood := { row := fnExactIngotTextRow, standIns := [], harness := (true, "1891323cf6fc03076e5b792a75479f2d0f0d0f3c04eedcb67abbb7ed5febcd7b"), looks := true }, kinds := [], alts := [], laidByText := true, laidKinds := [.data, .data, .data], laidTests := true, laidLooks := .later }
def FnExactIngotTextCardSaid : Prop := Claim7.holds Tryd.pinned (.plain (OpenSpec.ofChange fnExactIngotTextSpec)) fnExactIngotTextCard

/-- THE TIED CARD OF 'laws.FnExactReadIngot'. -/
def fnExactReadIngotCard : Claim7 := { stood := { row := fnExactReadIngotRow, standIns := [], harness := (true, "1891323cf6fc03076e5b792a75479f2d0f0d0f3c04eedcb67abbb7ed5febcd7b"), looks := true }, kinds := [], alts := [], laidByText := true, laidKinds := [.data, .data, .data, .data, .sentinel, .sentinel, .pinned], laidTests := true, laidLooks := .later }
def FnExactReadIngotCardSaid : Prop := Claim7.holds Tryd.pinned (.plain (OpenSpec.ofChange fnExactReadIngotSpec)) fnExactReadIngotCard

/-- THE SECOND FORM's CARD OF 'laws.FnExactReadCuts'. -/
def fnExactReadCutsUptoCard : Claim7 := { stood := { row := fnExactReadCutsUptoRow, standIns := [], harness := (true, "1891323cf6fc03076e5b792a75479f2d0f0d0f3c04eedcb67abbb7ed5febcd7b"), looks := true }, kinds := [], alts := [], laidByText := true, laidKinds := [.data, .data, .data, .data, .sentinel, .sentinel, .pinned], laidTests := true, laidLooks := .later }
def FnExactReadCutsUptoCardSaid : Prop := Claim7.holds Tryd.pinned (.plain (OpenSpec.upto fnExactReadCutsSpec)) fnExactReadCutsUptoCard

/-- THE SECOND FORM's CARD OF 'laws.FnExactIngotText'. -/
def fnExactIngotTextUptoCard : Claim7 := { stood := { row := fnExactIngotTextUptoRow, standIns := [], harness := (true, "1891323cf6fc03076e5b792a75479f2d0f0d0f3c04eedcb67abbb7ed5febcd7b"), looks := true }, kinds := [], alts := [], laidByText := true, laidKinds := [.data, .data, .data], laidTests := true, laidLooks := .later }
def FnExactIngotTextUptoCardSaid : Prop := Claim7.holds Tryd.pinned (.plain (OpenSpec.upto fnExactIngotTextSpec)) fnExactIngotTextUptoCard

/-- THE SECOND FORM's CARD OF 'laws.FnExactReadIngot'. -/
def fnExactReadIngotUptoCard : Claim7 := { stood := { row := fnExactReadIngotUptoRow, standIns := [], harness := (true, "1891323cf6fc03076e5b792a75479f2d0f0d0f3c04eedcb67abbb7ed5febcd7b"), looks := true }, kinds := [], alts := [], laidByText := true, laidKinds := [.data, .data, .data, .data, .sentinel, .sentinel, .pinned], laidTests := true, laidLooks := .later }
def FnExactReadIngotUptoCardSaid : Prop := Claim7.holds Tryd.pinned (.plain (OpenSpec.upto fnExactReadIngotSpec)) fnExactReadIngotUptoCard
end Rows
end Go.Proofs.YtikoehjalcljnaaDoor
