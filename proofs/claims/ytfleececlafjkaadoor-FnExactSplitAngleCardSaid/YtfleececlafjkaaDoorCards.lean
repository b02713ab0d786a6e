/-
  DERIVED. GIVEN WITH THE SEED: THE CARDS: each row of YtfleececlafjkaaDoorRows.lean that lists a variable, with what it lists TIED to the program's text (the seventh form; the later family's looks); each row that meets fmt, with fmt's text TOLD by the authors' own Lean function (tested against real Go, not proved from fmt's source: count such statements apart). THE CARD IS WHAT COUNTS. Prove the row's statement (the work); the ties are given (YtfleececlafjkaaDoorTie.lean); close each card by the builder's one call (the guide's Derived/Test/ToyasCard.lean, 'card_holds'). Laid BY PROGRAM, IN A SANDBOX (cutbox-door.mjs). By AI agents, Wed Nov 11 2026. No macro, syntax, notation, axiom, sorry.
-/
import Derived.Test.YtfleececlafjkaaDoorRows
import GoSem.ClaimSeven
namespace Go.Proofs.YtfleececlafjkaaDoor
namespace Rows

/-- THE TIED CARD OF 'laws.FnExactWaveCosine'. -/
def fnExactWaveCosineCard : Claim7 := { stood := { row := fnExactWaveCosineRow, standIns := [], harness := (true, "66e1f8c02f5bd831ab354680f6e5f1946a82a58eb2895435113be5e791f4956d"), looks := false }, kinds := [], alts := [], laidByText := true, laidKinds := [.data], laidTests := true, laidLooks := .later }
def FnExactWaveCosineCardSaid : Prop := Claim7.holds Tryd.pinned (.plain (OpenSpec.ofChange fnExactWaveCosineSpec)) fnExactWaveCosineCard

/-- THE TIED CARD OF 'laws.FnExactSplitOf'. -/
def fnExactSplitOfCard : Claim7 := { stood := { row := fnExactSplitOfRow, standIns := [], harness := (true, "66e1f8c02f5bd831ab354680f6e5f1946a82a58eb2895435113be5e791f4956d"), looks := false }, kinds := [], alts := [], laidByText := true, laidKinds := [.data], laidTests := true, laidLooks := .later }
def FnExactSplitOfCardSaid : Prop := Claim7.holds Tryd.pinned (.plain (OpenSpec.ofChange fnExactSplitOfSpec)) fnExactSplitOfCard

/-- THE TIED CARD OF 'laws.FnExactSplitAngle'. -/
def fnExactSplitAngleCard : Claim7 := { stood := { row := fnExactSplitAngleRow, standIns := [], harness := (true, "66e1f8c02f5bd831ab354680f6e5f1946a82a58eb2895435113be5e791f4956d"), looks := false }, kinds := [], alts := [], laidByText := true, laidKinds := [.data], laidTests := true, laidLooks := .later }
def FnExactSplitAngleCardSaid : Prop := Claim7.holds Tryd.pinned (.plain (OpenSpec.ofChange fnExactSplitAngleSpec)) fnExactSplitAngleCard

/-- THE SECOND FORM's CARD OF 'laws.FnExactWaveCosine'. -/
def fnExactWaveCosineUptoCard : Claim7 := { stood := { row := fnExactWaveCosineUptoRow, standIns := [], harness := (true, "66e1f8c02f5bd831ab354680f6e5f1946a82a58eb2895435113be5e791f4956d"), looks := false }, kinds := [], alts := [], laidByText := true, laidKinds := [.data], laidTests := true, laidLooks := .later }
def FnExactWaveCosineUptoCardSaid : Prop := Claim7.holds Tryd.pinned (.plain (OpenSpec.upto fnExactWaveCosineSpec)) fnExactWaveCosineUptoCard

/-- THE SECOND FORM's CARD OF 'laws.FnExactSplitOf'. -/
def fnExactSplitOfUptoCard : Claim7 := { stood := { row := fnExactSplitOfUptoRow, standIns := [], harness := (true, "66e1f8c02f5bd831ab354680f6e5f1946a82a58eb2895435113be5e791f4956d"), looks := false }, kinds := [], alts := [], laidByText := true, laidKinds := [.data], laidTests := true, laidLooks := .later }
def FnExactSplitOfUptoCardSaid : Prop := Claim7.holds Tryd.pinned (.plain (OpenSpec.upto fnExactSplitOfSpec)) fnExactSplitOfUptoCard

/-- THE SECOND FORM's CARD OF 'laws.FnExactSplitAngle'. -/
def fnExactSplitAngleUptoCard : Claim7 := { stood := { row := fnExactSplitAngleUptoRow, standIns := [], harness := (true, "66e1f8c02f5bd831ab354680f6e5f1946a82a58eb2895435113be5e791f4956d"), looks := false }, kinds := [], alts := [], laidByText := true, laidKinds := [.data], laidTests := true, laidLooks := .later }
def FnExactSplitAngleUptoCardSaid : Prop := Claim7.holds Tryd.pinned (.plain (OpenSpec.upto fnExactSplitAngleSpec)) fnExactSplitAngleUptoCard
end Rows
end Go.Proofs.YtfleececlafjkaaDoor
