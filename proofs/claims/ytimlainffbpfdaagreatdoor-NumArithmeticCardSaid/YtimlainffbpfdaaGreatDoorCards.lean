/-
  DERIVED. GIVEN WITH THE SEED: THE CARDS: each row of YtimlainffbpfdaaGreatDoorRows.lean that lists a variable, with what it lists TIED to the program's text (the seventh form; the later family's looks); each row that meets fmt, with fmt's text TOLD by the authors' own Lean function (tested against real Go, not proved from fmt's source: count such statements apart). THE CARD IS WHAT COUNTS. Prove the row's statement (the work); the ties are given (YtimlainffbpfdaaGreatDoorTie.lean); close each card by the builder's one call (the guide's Derived/Test/ToyasCard.lean, 'card_holds'). Laid BY PROGRAM, IN A SANDBOX (cutbox-door.mjs). By AI agents, Wed Nov 11 2026. No macro, syntax, notation, axiom, sorry.
-/
import Derived.Test.YtimlainffbpfdaaGreatDoorRows
import GoSem.ClaimSeven
namespace Go.Proofs.YtimlainffbpfdaaGreatDoor
namespace Rows

/-- THE TIED CARD OF 'floodmarklaw01.NumArithmetic'. -/
def numArithmeticCard : Claim7 := { stood := { row := numArithmeticRow, standIns := [], harness := (true, "52651446381033c59cc5943dd4d6e388534cb5609795c9fb7b056dca02242ee9"), looks := false }, kinds := [], alts := [], laidByText := true, laidKinds := [.data], laidTests := true, laidLooks := .later }
def NumArithmeticCardSaid : Prop := Claim7.holds Tryz.pinned (.plain (OpenSpec.ofChange numArithmeticSpec)) numArithmeticCard

/-- THE TIED CARD OF 'floodmarklaw01.NumTexts'. -/
def numTextsCard : Claim7 := { stood := { row := numTextsRow, standIns := [], harness := (true, "52651446381033c59cc5943dd4d6e388534cb5609795c9fb7b056dca02242ee9"), looks := false }, kinds := [], alts := [], laidByText := true, laidKinds := [.data, .data, .data, .data, .pinned], laidTests := true, laidLooks := .later }
def NumTextsCardSaid : Prop := Claim7.holds Tryz.pinned (.plain (OpenSpec.ofChange numTextsSpec)) numTextsCard

/-- THE SECOND FORM's CARD OF 'floodmarklaw01.NumArithmetic'. -/
def numArithmeticUptoCard : Claim7 := { stood := { row := numArithmeticUptoRow, standIns := [], harness := (true, "52651446381033c59cc5943dd4d6e388534cb5609795c9fb7b056dca02242ee9"), looks := false }, kinds := [], alts := [], laidByText := true, laidKinds := [.data], laidTests := true, laidLooks := .later }
def NumArithmeticUptoCardSaid : Prop := Claim7.holds Tryz.pinned (.plain (OpenSpec.upto numArithmeticSpec)) numArithmeticUptoCard

/-- THE SECOND FORM's CARD OF 'floodmarklaw01.NumTexts'. -/
def numTextsUptoCard : Claim7 := { stood := { row := numTextsUptoRow, standIns := [], harness := (true, "52651446381033c59cc5943dd4d6e388534cb5609795c9fb7b056dca02242ee9"), looks := false }, kinds := [], alts := [], laidByText := true, laidKinds := [.data, .data, .data, .data, .pinned], laidTests := true, laidLooks := .later }
def NumTextsUptoCardSaid : Prop := Claim7.holds Tryz.pinned (.plain (OpenSpec.upto numTextsSpec)) numTextsUptoCard
end Rows
end Go.Proofs.YtimlainffbpfdaaGreatDoor
