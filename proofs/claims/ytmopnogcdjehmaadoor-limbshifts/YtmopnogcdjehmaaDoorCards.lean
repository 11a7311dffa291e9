/-
  DERIVED. GIVEN WITH THE SEED: THE CARDS: each row of YtmopnogcdjehmaaDoorRows.lean that lists a variable, with what it lists TIED to the program's text (the seventh form; the later family's looks); each row that meets fmt, with fmt's text TOLD by the authors' own Lean function (tested against real Go, not proved from fmt's source: count such statements apart). THE CARD IS WHAT COUNTS. Prove the row's statement (the work); the ties are given (YtmopnogcdjehmaaDoorTie.lean); close each card by the builder's one call (the guide's Derived/Test/ToyasCard.lean, 'card_holds'). Laid BY PROGRAM, IN A SANDBOX (cutbox-door.mjs). By AI agents, Wed Nov 11 2026. No macro, syntax, notation, axiom, sorry.
-/
import Derived.Test.YtmopnogcdjehmaaDoorRows
import GoSem.ClaimSeven
namespace Go.Proofs.YtmopnogcdjehmaaDoor
namespace Rows

/-- THE TIED CARD OF 'opalinelaw01.LimbReckons'. -/
def limbReckonsCard : Claim7 := { stood := { row := limbReckonsRow, standIns := [], harness := (true, "8096ab0c23f94b474b0f7c0e4ca162bab7c92f75e2c406d7053d65379663528d"), looks := false }, kinds := [], alts := [], laidByText := true, laidKinds := [.data, .data, .data], laidTests := true, laidLooks := .later }
def LimbReckonsCardSaid : Prop := Claim7.holds Tryd.pinned (.plain (OpenSpec.ofChange limbReckonsSpec)) limbReckonsCard

/-- THE TIED CARD OF 'opalinelaw01.LimbTexts'. -/
def limbTextsCard : Claim7 := { stood := { row := limbTextsRow, standIns := [], harness := (true, "8096ab0c23f94b474b0f7c0e4ca162bab7c92f75e2c406d7053d65379663528d"), looks := false }, kinds := [], alts := [], laidByText := true, laidKinds := [.data, .data, .data], laidTests := true, laidLooks := .later }
def LimbTextsCardSaid : Prop := Claim7.holds Tryd.pinned (.plain (OpenSpec.ofChange limbTextsSpec)) limbTextsCard

/-- THE TIED CARD OF 'opalinelaw01.LimbShifts'. -/
def limbShiftsCard : Claim7 := { stood := { row := limbShiftsRow, standIns := [], harness := (true, "8096ab0c23f94b474b0f7c0e4ca162bab7c92f75e2c406d7053d65379663528d"), looks := false }, kinds := [], alts := [], laidByText := true, laidKinds := [.data, .data, .data], laidTests := true, laidLooks := .later }
def LimbShiftsCardSaid : Prop := Claim7.holds Tryd.pinned (.plain (OpenSpec.ofChange limbShiftsSpec)) limbShiftsCard

/-- THE TIED CARD OF 'opalinelaw01.LimbLaws'. -/
def limbLawsCard : Claim7 := { stood := { row := limbLawsRow, standIns := [], harness := (true, "8096ab0c23f94b474b0f7c0e4ca162bab7c92f75e2c406d7053d65379663528d"), looks := false }, kinds := [], alts := [], laidByText := true, laidKinds := [.data, .data, .data], laidTests := true, laidLooks := .later }
def LimbLawsCardSaid : Prop := Claim7.holds Tryd.pinned (.plain (OpenSpec.ofChange limbLawsSpec)) limbLawsCard

/-- THE TIED CARD OF 'opalinelaw02.ShaTexts'. -/
def shaTextsCard : Claim7 := { stood := { row := shaTextsRow, standIns := [], harness := (true, "8096ab0c23f94b474b0f7c0e4ca162bab7c92f75e2c406d7053d65379663528d"), looks := false }, kinds := [], alts := [], laidByText := true, laidKinds := [.data, .data], laidTests := true, laidLooks := .later }
def ShaTextsCardSaid : Prop := Claim7.holds Tryd.pinned (.plain (OpenSpec.ofChange shaTextsSpec)) shaTextsCard

/-- THE TIED CARD OF 'opalinelaw02.ShaKeys'. -/
def shaKeysCard : Claim7 := { stood := { row := shaKeysRow, standIns := [], harness := (true, "8096ab0c23f94b474b0f7c0e4ca162bab7c92f75e2c406d7053d65379663528d"), looks := false }, kinds := [], alts := [], laidByText := true, laidKinds := [.data, .data], laidTests := true, laidLooks := .later }
def ShaKeysCardSaid : Prop := Claim7.holds Tryd.pinned (.plain (OpenSpec.ofChange shaKeysSpec)) shaKeysCard

/-- THE TIED CARD OF 'opalinelaw02.ShaCounts'. -/
def shaCountsCard : Claim7 := { stood := { row := shaCountsRow, standIns := [], harness := (true, "8096ab0c23f94b474b0f7c0e4ca162bab7c92f75e2c406d7053d65379663528d"), looks := false }, kinds := [], alts := [], laidByText := true, laidKinds := [.data, .data], laidTests := true, laidLooks := .later }
def ShaCountsCardSaid : Prop := Claim7.holds Tryd.pinned (.plain (OpenSpec.ofChange shaCountsSpec)) shaCountsCard

/-- THE TIED CARD OF 'opalinelaw04.XmdXors'. -/
def xmdXorsCard : Claim7 := { stood := { row := xmdXorsRow, standIns := [], harness := (true, "8096ab0c23f94b474b0f7c0e4ca162bab7c92f75e2c406d7053d65379663528d"), looks := false }, kinds := [], alts := [], laidByText := true, laidKinds := [.data, .data], laidTests := true, laidLooks := .later }
def XmdXorsCardSaid : Prop := Claim7.holds Tryd.pinned (.plain (OpenSpec.ofChange xmdXorsSpec)) xmdXorsCard

/-- THE TIED CARD OF 'opalinelaw04.XmdParts'. -/
def xmdPartsCard : Claim7 := { stood := { row := xmdPartsRow, standIns := [], harness := (true, "8096ab0c23f94b474b0f7c0e4ca162bab7c92f75e2c406d7053d65379663528d"), looks := false }, kinds := [], alts := [], laidByText := true, laidKinds := [.data, .data], laidTests := true, laidLooks := .later }
def XmdPartsCardSaid : Prop := Claim7.holds Tryd.pinned (.plain (OpenSpec.ofChange xmdPartsSpec)) xmdPartsCard

/-- THE SECOND FORM's CARD OF 'opalinelaw01.LimbReckons'. -/
def limbReckonsUptoCard : Claim7 := { stood := { row := limbReckonsUptoRow, standIns := [], harness := (true, "8096ab0c23f94b474b0f7c0e4ca162bab7c92f75e2c406d7053d65379663528d"), looks := false }, kinds := [], alts := [], laidByText := true, laidKinds := [.data, .data, .data], laidTests := true, laidLooks := .later }
def LimbReckonsUptoCardSaid : Prop := Claim7.holds Tryd.pinned (.plain (OpenSpec.upto limbReckonsSpec)) limbReckonsUptoCard

/-- THE SECOND FORM's CARD OF 'opalinelaw01.LimbTexts'. -/
def limbTextsUptoCard : Claim7 := { stood := { row := limbTextsUptoRow, standIns := [], harness := (true, "8096ab0c23f94b474b0f7c0e4ca162bab7c92f75e2c406d7053d65379663528d"), looks := false }, kinds := [], alts := [], laidByText := true, laidKinds := [.data, .data, .data], laidTests := true, laidLooks := .later }
def LimbTextsUptoCardSaid : Prop := Claim7.holds Tryd.pinned (.plain (OpenSpec.upto limbTextsSpec)) limbTextsUptoCard

/-- THE SECOND FORM's CARD OF 'opalinelaw01.LimbShifts'. -/
def limbShiftsUptoCard : Claim7 := { stood := { row := limbShiftsUptoRow, standIns := [], harness := (true, "8096ab0c23f94b474b0f7c0e4ca162bab7c92f75e2c406d7053d65379663528d"), looks := false }, kinds := [], alts := [], laidByText := true, laidKinds := [.data, .data, .data], laidTests := true, laidLooks := .later }
def LimbShiftsUptoCardSaid : Prop := Claim7.holds Tryd.pinned (.plain (OpenSpec.upto limbShiftsSpec)) limbShiftsUptoCard

/-- THE SECOND FORM's CARD OF 'opalinelaw01.LimbLaws'. -/
def limbLawsUptoCard : Claim7 := { stood := { row := limbLawsUptoRow, standIns := [], harness := (true, "8096ab0c23f94b474b0f7c0e4ca162bab7c92f75e2c406d7053d65379663528d"), looks := false }, kinds := [], alts := [], laidByText := true, laidKinds := [.data, .data, .data], laidTests := true, laidLooks := .later }
def LimbLawsUptoCardSaid : Prop := Claim7.holds Tryd.pinned (.plain (OpenSpec.upto limbLawsSpec)) limbLawsUptoCard

/-- THE SECOND FORM's CARD OF 'opalinelaw02.ShaTexts'. -/
def shaTextsUptoCard : Claim7 := { stood := { row := shaTextsUptoRow, standIns := [], harness := (true, "8096ab0c23f94b474b0f7c0e4ca162bab7c92f75e2c406d7053d65379663528d"), looks := false }, kinds := [], alts := [], laidByText := true, laidKinds := [.data, .data], laidTests := true, laidLooks := .later }
def ShaTextsUptoCardSaid : Prop := Claim7.holds Tryd.pinned (.plain (OpenSpec.upto shaTextsSpec)) shaTextsUptoCard

/-- THE SECOND FORM's CARD OF 'opalinelaw02.ShaKeys'. -/
def shaKeysUptoCard : Claim7 := { stood := { row := shaKeysUptoRow, standIns := [], harness := (true, "8096ab0c23f94b474b0f7c0e4ca162bab7c92f75e2c406d7053d65379663528d"), looks := false }, kinds := [], alts := [], laidByText := true, laidKinds := [.data, .data], laidTests := true, laidLooks := .later }
def ShaKeysUptoCardSaid : Prop := Claim7.holds Tryd.pinned (.plain (OpenSpec.upto shaKeysSpec)) shaKeysUptoCard

/-- THE SECOND FORM's CARD OF 'opalinelaw02.ShaCounts'. -/
def shaCountsUptoCard : Claim7 := { stood := { row := shaCountsUptoRow, standIns := [], harness := (true, "8096ab0c23f94b474b0f7c0e4ca162bab7c92f75e2c406d7053d65379663528d"), looks := false }, kinds := [], alts := [], laidByText := true, laidKinds := [.data, .data], laidTests := true, laidLooks := .later }
def ShaCountsUptoCardSaid : Prop := Claim7.holds Tryd.pinned (.plain (OpenSpec.upto shaCountsSpec)) shaCountsUptoCard

/-- THE SECOND FORM's CARD OF 'opalinelaw04.XmdXors'. -/
def xmdXorsUptoCard : Claim7 := { stood := { row := xmdXorsUptoRow, standIns := [], harness := (true, "8096ab0c23f94b474b0f7c0e4ca162bab7c92f75e2c406d7053d65379663528d"), looks := false }, kinds := [], alts := [], laidByText := true, laidKinds := [.data, .data], laidTests := true, laidLooks := .later }
def XmdXorsUptoCardSaid : Prop := Claim7.holds Tryd.pinned (.plain (OpenSpec.upto xmdXorsSpec)) xmdXorsUptoCard

/-- THE SECOND FORM's CARD OF 'opalinelaw04.XmdParts'. -/
def xmdPartsUptoCard : Claim7 := { stood := { row := xmdPartsUptoRow, standIns := [], harness := (true, "8096ab0c23f94b474b0f7c0e4ca162bab7c92f75e2c406d7053d65379663528d"), looks := false }, kinds := [], alts := [], laidByText := true, laidKinds := [.data, .data], laidTests := true, laidLooks := .later }
def XmdPartsUptoCardSaid : Prop := Claim7.holds Tryd.pinned (.plain (OpenSpec.upto xmdPartsSpec)) xmdPartsUptoCard
end Rows
end Go.Proofs.YtmopnogcdjehmaaDoor
