/-
  DERIVED. GIVEN WITH THE SEED: THE CARDS: each row of YtcnhakfmnkegcaaDoorRows.lean that lists a variable, with what it lists TIED to the program's text (the seventh form; the later family's looks); each row that meets fmt, with fmt's text TOLD by the authors' own Lean function (tested against real Go, not proved from fmt's source: count such statements apart). THE CARD IS WHAT COUNTS. Prove the row's statement (the work); the ties are given (YtcnhakfmnkegcaaDoorTie.lean); close each card by the builder's one call (the guide's Derived/Test/ToyasCard.lean, 'card_holds'). Laid BY PROGRAM, IN A SANDBOX (cutbox-door.mjs). By AI agents, Wed Nov 11 2026. No macro, syntax, notation, axiom, sorry.
-/
import Derived.Test.YtcnhakfmnkegcaaDoorRows
import GoSem.ClaimSeven
namespace Go.Proofs.YtcnhakfmnkegcaaDoor
namespace Rows

/-- THE TIED CARD OF 'opalinelaw01.LimbReckons'. -/
def limbReckonsCard : Claim7 := { stood := { row := limbReckonsRow, standIns := [], harness := (true, "72f4ba34148174563d7baf5dd07306340e4a10aa294f3f65f8eea9c134b17304"), looks := false }, kinds := [], alts := [], laidByText := true, laidKinds := [.data, .data, .data], laidTests := true, laidLooks := .later }
def LimbReckonsCardSaid : Prop := Claim7.holds Tryd.pinned (.plain (OpenSpec.ofChange limbReckonsSpec)) limbReckonsCard

/-- THE TIED CARD OF 'opalinelaw01.LimbTexts'. -/
def limbTextsCard : Claim7 := { stood := { row := limbTextsRow, standIns := [], harness := (true, "72f4ba34148174563d7baf5dd07306340e4a10aa294f3f65f8eea9c134b17304"), looks := false }, kinds := [], alts := [], laidByText := true, laidKinds := [.data, .data, .data], laidTests := true, laidLooks := .later }
def LimbTextsCardSaid : Prop := Claim7.holds Tryd.pinned (.plain (OpenSpec.ofChange limbTextsSpec)) limbTextsCard

/-- THE TIED CARD OF 'opalinelaw01.LimbLaws'. -/
def limbLawsCard : Claim7 := { stood := { row := limbLawsRow, standIns := [], harness := (true, "72f4ba34148174563d7baf5dd07306340e4a10aa294f3f65f8eea9c134b17304"), looks := false }, kinds := [], alts := [], laidByText := true, laidKinds := [.data, .data, .data], laidTests := true, laidLooks := .later }
def LimbLawsCardSaid : Prop := Claim7.holds Tryd.pinned (.plain (OpenSpec.ofChange limbLawsSpec)) limbLawsCard

/-- THE TIED CARD OF 'opalinelaw05.FieldParses'. -/
def fieldParsesCard : Claim7 := { stood := { row := fieldParsesRow, standIns := [], harness := (true, "72f4ba34148174563d7baf5dd07306340e4a10aa294f3f65f8eea9c134b17304"), looks := false }, kinds := [], alts := [], laidByText := true, laidKinds := [.data, .data, .data, .data], laidTests := true, laidLooks := .later }
def FieldParsesCardSaid : Prop := Claim7.holds Tryd.pinned (.plain (OpenSpec.ofChange fieldParsesSpec)) fieldParsesCard

/-- THE SECOND FORM's CARD OF 'opalinelaw01.LimbReckons'. -/
def limbReckonsUptoCard : Claim7 := { stood := { row := limbReckonsUptoRow, standIns := [], harness := (true, "72f4ba34148174563d7baf5dd07306340e4a10aa294f3f65f8eea9c134b17304"), looks := false }, kinds := [], alts := [], laidByText := true, laidKinds := [.data, .data, .data], laidTests := true, laidLooks := .later }
def LimbReckonsUptoCardSaid : Prop := Claim7.holds Tryd.pinned (.plain (OpenSpec.upto limbReckonsSpec)) limbReckonsUptoCard

/-- THE SECOND FORM's CARD OF 'opalinelaw01.LimbTexts'. -/
def limbTextsUptoCard : Claim7 := { stood := { row := limbTextsUptoRow, standIns := [], harness := (true, "72f4ba34148174563d7baf5dd07306340e4a10aa294f3f65f8eea9c134b17304"), looks := false }, kinds := [], alts := [], laidByText := true, laidKinds := [.data, .data, .data], laidTests := true, laidLooks := .later }
def LimbTextsUptoCardSaid : Prop := Claim7.holds Tryd.pinned (.plain (OpenSpec.upto limbTextsSpec)) limbTextsUptoCard

/-- THE SECOND FORM's CARD OF 'opalinelaw01.LimbLaws'. -/
def limbLawsUptoCard : Claim7 := { stood := { row := limbLawsUptoRow, standIns := [], harness := (true, "72f4ba34148174563d7baf5dd07306340e4a10aa294f3f65f8eea9c134b17304"), looks := false }, kinds := [], alts := [], laidByText := true, laidKinds := [.data, .data, .data], laidTests := true, laidLooks := .later }
def LimbLawsUptoCardSaid : Prop := Claim7.holds Tryd.pinned (.plain (OpenSpec.upto limbLawsSpec)) limbLawsUptoCard

/-- THE SECOND FORM's CARD OF 'opalinelaw05.FieldParses'. -/
def fieldParsesUptoCard : Claim7 := { stood := { row := fieldParsesUptoRow, standIns := [], harness := (true, "72f4ba34148174563d7baf5dd07306340e4a10aa294f3f65f8eea9c134b17304"), looks := false }, kinds := [], alts := [], laidByText := true, laidKinds := [.data, .data, .data, .data], laidTests := true, laidLooks := .later }
def FieldParsesUptoCardSaid : Prop := Claim7.holds Tryd.pinned (.plain (OpenSpec.upto fieldParsesSpec)) fieldParsesUptoCard
end Rows
end Go.Proofs.YtcnhakfmnkegcaaDoor
