/-
  DERIVED. GIVEN WITH THE SEED: THE CARDS: each row of YtalilffocbkfnaaDoorRows.lean that lists a variable, with what it lists TIED to the program's text (the seventh form; the later family's looks); each row that meets fmt, with fmt's text TOLD by the authors' own Lean function (tested against real Go, not proved from fmt's source: count such statements apart). THE CARD IS WHAT COUNTS. Prove the row's statement (the work); the ties are given (YtalilffocbkfnaaDoorTie.lean); close each card by the builder's one call (the guide's Derived/Test/ToyasCard.lean, 'card_holds'). Laid BY PROGRAM, IN A SANDBOX (cutbox-door.mjs). By AI agents, Wed Nov 11 2026. No macro, syntax, notation, axiom, sorry.
-/
import Derived.Test.YtalilffocbkfnaaDoorRows
import GoSem.ClaimSeven
namespace Go.Proofs.YtalilffocbkfnaaDoor
namespace Rows

/-- THE TIED CARD OF 'opalinelaw19.ChainTexts'. -/
def chainTextsCard : Claim7 := { stood := { row := chainTextsRow, standIns := [], harness := (true, "79195f59c78cd4607e688b6572413855bf21543212baadc08f64a6fb993012e0"), looks := true }, kinds := [], alts := [], laidByText := true, laidKinds := [.data, .data], laidTests := true, laidLooks := .later }
def ChainTextsCardSaid : Prop := Claim7.holds Tryd.pinned (.plain (OpenSpec.ofChange chainTextsSpec)) chainTextsCard

/-- THE TIED CARD OF 'opalinelaw19.ChainFront'. -/
def chainFrontCard : Claim7 := { stood := { row := chainFrontRow, standIns := [], harness := (true, "79195f59c78cd4607e688b6572413855bf21543212baadc08f64a6fb993012e0"), looks := true }, kinds := [], alts := [], laidByText := true, laidKinds := [.data, .data], laidTests := true, laidLooks := .later }
def ChainFrontCardSaid : Prop := Claim7.holds Tryd.pinned (.plain (OpenSpec.ofChange chainFrontSpec)) chainFrontCard

/-- THE SECOND FORM's CARD OF 'opalinelaw19.ChainTexts'. -/
def chainTextsUptoCard : Claim7 := { stood := { row := chainTextsUptoRow, standIns := [], harness := (true, "79195f59c78cd4607e688b6572413855bf21543212baadc08f64a6fb993012e0"), looks := true }, kinds := [], alts := [], laidByText := true, laidKinds := [.data, .data], laidTests := true, laidLooks := .later }
def ChainTextsUptoCardSaid : Prop := Claim7.holds Tryd.pinned (.plain (OpenSpec.upto chainTextsSpec)) chainTextsUptoCard

/-- THE SECOND FORM's CARD OF 'opalinelaw19.ChainFront'. -/
def chainFrontUptoCard : Claim7 := { stood := { row := chainFrontUptoRow, standIns := [], harness := (true, "79195f59c78cd4607e688b6572413855bf21543212baadc08f64a6fb993012e0"), looks := true }, kinds := [], alts := [], laidByText := true, laidKinds := [.data, .data], laidTests := true, laidLooks := .later }
def ChainFrontUptoCardSaid : Prop := Claim7.holds Tryd.pinned (.plain (OpenSpec.upto chainFrontSpec)) chainFrontUptoCard
end Rows
end Go.Proofs.YtalilffocbkfnaaDoor
