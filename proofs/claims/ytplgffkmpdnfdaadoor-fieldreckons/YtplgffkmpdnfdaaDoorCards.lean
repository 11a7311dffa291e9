/-
  DERIVED. GIVEN WITH THE SEED: THE CARDS: each row of YtplgffkmpdnfdaaDoorRows.lean that lists a variable, with what it lists TIED to the program's text (the seventh form; the later family's looks); each row that meets fmt, with fmt's text TOLD by the authors' own Lean function (tested against real Go, not proved from fmt's source: count such statements apart). THE CARD IS WHAT COUNTS. Prove the row's statement (the work); the ties are given (YtplgffkmpdnfdaaDoorTie.lean); close each card by the builder's one call (the guide's Derived/Test/ToyasCard.lean, 'card_holds'). Laid BY PROGRAM, IN A SANDBOX (cutbox-door.mjs). By AI agents, Wed Nov 11 2026. No macro, syntax, notation, axiom, sorry.
-/
import Derived.Test.YtplgffkmpdnfdaaDoorRows
import GoSem.ClaimSeven
namespace Go.Proofs.YtplgffkmpdnfdaaDoor
namespace Rows

/-- THE TIED CARD OF 'opalinelaw01.LimbReckons'. -/
def limbReckonsCard : Claim7 := { stood := { row := limbReckonsRow, standIns := [], harness := (true, "8b2b303826fcb60f3aff378fc75929b0334bf4b1b9dd6bdb1ded7662cecda243"), looks := false }, kinds := [], alts := [], laidByText := true, laidKinds := [.data, .data, .data], laidTests := true, laidLooks := .later }
def LimbReckonsCardSaid : Prop := Claim7.holds Tryd.pinned (.plain (OpenSpec.ofChange limbReckonsSpec)) limbReckonsCard

/-- THE TIED CARD OF 'opalinelaw01.LimbTexts'. -/
def limbTextsCard : Claim7 := { stood := { row := limbTextsRow, standIns := [], harness := (true, "8b2b303826fcb60f3aff378fc75929b0334bf4b1b9dd6bdb1ded7662cecda243"), looks := false }, kinds := [], alts := [], laidByText := true, laidKinds := [.data, .data, .data], laidTests := true, laidLooks := .later }
def LimbTextsCardSaid : Prop := Claim7.holds Tryd.pinned (.plain (OpenSpec.ofChange limbTextsSpec)) limbTextsCard

/-- THE TIED CARD OF 'opalinelaw01.LimbLaws'. -/
def limbLawsCard : Claim7 := { stood := { row := limbLawsRow, standIns := [], harness := (true, "8b2b303826fcb60f3aff378fc75929b0334bf4b1b9dd6bdb1ded7662cecda243"), looks := false }, kinds := [], alts := [], laidByText := true, laidKinds := [.data, .data, .data], laidTests := true, laidLooks := .later }
def LimbLawsCardSaid : Prop := Claim7.holds Tryd.pinned (.plain (OpenSpec.ofChange limbLawsSpec)) limbLawsCard

/-- THE TIED CARD OF 'opalinelaw02.ShaKeys'. -/
def shaKeysCard : Claim7 := { stood := { row := shaKeysRow, standIns := [], harness := (true, "8b2b303826fcb60f3aff378fc75929b0334bf4b1b9dd6bdb1ded7662cecda243"), looks := false }, kinds := [], alts := [], laidByText := true, laidKinds := [.data, .data], laidTests := true, laidLooks := .later }
def ShaKeysCardSaid : Prop := Claim7.holds Tryd.pinned (.plain (OpenSpec.ofChange shaKeysSpec)) shaKeysCard

/-- THE TIED CARD OF 'opalinelaw05.FieldReckons'. -/
def fieldReckonsCard : Claim7 := { stood := { row := fieldReckonsRow, standIns := [], harness := (true, "8b2b303826fcb60f3aff378fc75929b0334bf4b1b9dd6bdb1ded7662cecda243"), looks := false }, kinds := [], alts := [], laidByText := true, laidKinds := [.data, .data, .data, .data], laidTests := true, laidLooks := .later }
def FieldReckonsCardSaid : Prop := Claim7.holds Tryd.pinned (.plain (OpenSpec.ofChange fieldReckonsSpec)) fieldReckonsCard

/-- THE TIED CARD OF 'opalinelaw05.FieldParses'. -/
def fieldParsesCard : Claim7 := { stood := { row := fieldParsesRow, standIns := [], harness := (true, "8b2b303826fcb60f3aff378fc75929b0334bf4b1b9dd6bdb1ded7662cecda243"), looks := false }, kinds := [], alts := [], laidByText := true, laidKinds := [.data, .data, .data, .data], laidTests := true, laidLooks := .later }
def FieldParsesCardSaid : Prop := Claim7.holds Tryd.pinned (.plain (OpenSpec.ofChange fieldParsesSpec)) fieldParsesCard

/-- THE SECOND FORM's CARD OF 'opalinelaw01.LimbReckons'. -/
def limbReckonsUptoCard : Claim7 := { stood := { row := limbReckonsUptoRow, standIns := [], harness := (true, "8b2b303826fcb60f3aff378fc75929b0334bf4b1b9dd6bdb1ded7662cecda243"), looks := false }, kinds := [], alts := [], laidByText := true, laidKinds := [.data, .data, .data], laidTests := true, laidLooks := .later }
def LimbReckonsUptoCardSaid : Prop := Claim7.holds Tryd.pinned (.plain (OpenSpec.upto limbReckonsSpec)) limbReckonsUptoCard

/-- THE SECOND FORM's CARD OF 'opalinelaw01.LimbTexts'. -/
def limbTextsUptoCard : Claim7 := { stood := { row := limbTextsUptoRow, standIns := [], harness := (true, "8b2b303826fcb60f3aff378fc75929b0334bf4b1b9dd6bdb1ded7662cecda243"), looks := false }, kinds := [], alts := [], laidByText := true, laidKinds := [.data, .data, .data], laidTests := true, laidLooks := .later }
def LimbTextsUptoCardSaid : Prop := Claim7.holds Tryd.pinned (.plain (OpenSpec.upto limbTextsSpec)) limbTextsUptoCard

/-- THE SECOND FORM's CARD OF 'opalinelaw01.LimbLaws'. -/
def limbLawsUptoCard : Claim7 := { stood := { row := limbLawsUptoRow, standIns := [], harness := (true, "8b2b303826fcb60f3aff378fc75929b0334bf4b1b9dd6bdb1ded7662cecda243"), looks := false }, kinds := [], alts := [], laidByText := true, laidKinds := [.data, .data, .data], laidTests := true, laidLooks := .later }
def LimbLawsUptoCardSaid : Prop := Claim7.holds Tryd.pinned (.plain (OpenSpec.upto limbLawsSpec)) limbLawsUptoCard

/-- THE SECOND FORM's CARD OF 'opalinelaw02.ShaKeys'. -/
def shaKeysUptoCard : Claim7 := { stood := { row := shaKeysUptoRow, standIns := [], harness := (true, "8b2b303826fcb60f3aff378fc75929b0334bf4b1b9dd6bdb1ded7662cecda243"), looks := false }, kinds := [], alts := [], laidByText := true, laidKinds := [.data, .data], laidTests := true, laidLooks := .later }
def ShaKeysUptoCardSaid : Prop := Claim7.holds Tryd.pinned (.plain (OpenSpec.upto shaKeysSpec)) shaKeysUptoCard

/-- THE SECOND FORM's CARD OF 'opalinelaw05.FieldReckons'. -/
def fieldReckonsUptoCard : Claim7 := { stood := { row := fieldReckonsUptoRow, standIns := [], harness := (true, "8b2b303826fcb60f3aff378fc75929b0334bf4b1b9dd6bdb1ded7662cecda243"), looks := false }, kinds := [], alts := [], laidByText := true, laidKinds := [.data, .data, .data, .data], laidTests := true, laidLooks := .later }
def FieldReckonsUptoCardSaid : Prop := Claim7.holds Tryd.pinned (.plain (OpenSpec.upto fieldReckonsSpec)) fieldReckonsUptoCard

/-- THE SECOND FORM's CARD OF 'opalinelaw05.FieldParses'. -/
def fieldParsesUptoCard : Claim7 := { stood := { row := fieldParsesUptoRow, standIns := [], harness := (true, "8b2b303826fcb60f3aff378fc75929b0334bf4b1b9dd6bdb1ded7662cecda243"), looks := false }, kinds := [], alts := [], laidByText := true, laidKinds := [.data, .data, .data, .data], laidTests := true, laidLooks := .later }
def FieldParsesUptoCardSaid : Prop := Claim7.holds Tryd.pinned (.plain (OpenSpec.upto fieldParsesSpec)) fieldParsesUptoCard
end Rows
end Go.Proofs.YtplgffkmpdnfdaaDoor
