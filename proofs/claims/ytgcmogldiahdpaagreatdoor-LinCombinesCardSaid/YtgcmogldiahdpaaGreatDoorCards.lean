/-
  DERIVED. GIVEN WITH THE SEED: THE CARDS: each row of YtgcmogldiahdpaaGreatDoorRows.lean that lists a variable, with what it lists TIED to the program's text (the seventh form; the later family's looks); each row that meets fmt, with fmt's text TOLD by the authors' own Lean function (tested against real Go, not proved from fmt's source: count such statements apart). THE CARD IS WHAT COUNTS. Prove the row's statement (the work); the ties are given (YtgcmogldiahdpaaGreatDoorTie.lean); close each card by the builder's one call (the guide's Derived/Test/ToyasCard.lean, 'card_holds'). Laid BY PROGRAM, IN A SANDBOX (cutbox-door.mjs). By AI agents, Wed Nov 11 2026. No macro, syntax, notation, axiom, sorry.
-/
import Derived.Test.YtgcmogldiahdpaaGreatDoorRows
import GoSem.ClaimSeven
namespace Go.Proofs.YtgcmogldiahdpaaGreatDoor
namespace Rows

/-- THE TIED CARD OF 'floodmarklaw01.NumTexts'. -/
def numTextsCard : Claim7 := { stood := { row := numTextsRow, standIns := [], harness := (true, "e17c9d688fa57e807b5dd09a0c4598494ceed12087b5c72e39adc5a9a262aa14"), looks := false }, kinds := [], alts := [], laidByText := true, laidKinds := [.data, .data, .data, .data, .pinned], laidTests := true, laidLooks := .later }
def NumTextsCardSaid : Prop := Claim7.holds Tryz.pinned (.plain (OpenSpec.ofChange numTextsSpec)) numTextsCard

/-- THE TIED CARD OF 'floodmarklaw02.LinForms'. -/
def linFormsCard : Claim7 := { stood := { row := linFormsRow, standIns := [], harness := (true, "e17c9d688fa57e807b5dd09a0c4598494ceed12087b5c72e39adc5a9a262aa14"), looks := false }, kinds := [], alts := [], laidByText := true, laidKinds := [.data], laidTests := true, laidLooks := .later }
def LinFormsCardSaid : Prop := Claim7.holds Tryz.pinned (.plain (OpenSpec.ofChange linFormsSpec)) linFormsCard

/-- THE TIED CARD OF 'floodmarklaw02.LinCombines'. -/
def linCombinesCard : Claim7 := { stood := { row := linCombinesRow, standIns := [], harness := (true, "e17c9d688fa57e807b5dd09a0c4598494ceed12087b5c72e39adc5a9a262aa14"), looks := false }, kinds := [], alts := [], laidByText := true, laidKinds := [.data], laidTests := true, laidLooks := .later }
def LinCombinesCardSaid : Prop := Claim7.holds Tryz.pinned (.plain (OpenSpec.ofChange linCombinesSpec)) linCombinesCard

/-- THE TIED CARD OF 'floodmarklaw02.LinEchelon'. -/
def linEchelonCard : Claim7 := { stood := { row := linEchelonRow, standIns := [], harness := (true, "e17c9d688fa57e807b5dd09a0c4598494ceed12087b5c72e39adc5a9a262aa14"), looks := false }, kinds := [], alts := [], laidByText := true, laidKinds := [.data], laidTests := true, laidLooks := .later }
def LinEchelonCardSaid : Prop := Claim7.holds Tryz.pinned (.plain (OpenSpec.ofChange linEchelonSpec)) linEchelonCard

/-- THE TIED CARD OF 'floodmarklaw02.LinSame'. -/
def linSameCard : Claim7 := { stood := { row := linSameRow, standIns := [], harness := (true, "e17c9d688fa57e807b5dd09a0c4598494ceed12087b5c72e39adc5a9a262aa14"), looks := false }, kinds := [], alts := [], laidByText := true, laidKinds := [.data], laidTests := true, laidLooks := .later }
def LinSameCardSaid : Prop := Claim7.holds Tryz.pinned (.plain (OpenSpec.ofChange linSameSpec)) linSameCard

/-- THE TIED CARD OF 'floodmarklaw02.LinSolutions'. -/
def linSolutionsCard : Claim7 := { stood := { row := linSolutionsRow, standIns := [], harness := (true, "e17c9d688fa57e807b5dd09a0c4598494ceed12087b5c72e39adc5a9a262aa14"), looks := false }, kinds := [], alts := [], laidByText := true, laidKinds := [.data], laidTests := true, laidLooks := .later }
def LinSolutionsCardSaid : Prop := Claim7.holds Tryz.pinned (.plain (OpenSpec.ofChange linSolutionsSpec)) linSolutionsCard

/-- THE TIED CARD OF 'floodmarklaw02.LinLinear'. -/
def linLinearCard : Claim7 := { stood := { row := linLinearRow, standIns := [], harness := (true, "e17c9d688fa57e807b5dd09a0c4598494ceed12087b5c72e39adc5a9a262aa14"), looks := false }, kinds := [], alts := [], laidByText := true, laidKinds := [.data], laidTests := true, laidLooks := .later }
def LinLinearCardSaid : Prop := Claim7.holds Tryz.pinned (.plain (OpenSpec.ofChange linLinearSpec)) linLinearCard

/-- THE TIED CARD OF 'floodmarklaw02.LinOwn'. -/
def linOwnCard : Claim7 := { stood := { row := linOwnRow, standIns := [], harness := (true, "e17c9d688fa57e807b5dd09a0c4598494ceed12087b5c72e39adc5a9a262aa14"), looks := false }, kinds := [], alts := [], laidByText := true, laidKinds := [.data], laidTests := true, laidLooks := .later }
def LinOwnCardSaid : Prop := Claim7.holds Tryz.pinned (.plain (OpenSpec.ofChange linOwnSpec)) linOwnCard

/-- THE SECOND FORM's CARD OF 'floodmarklaw01.NumTexts'. -/
def numTextsUptoCard : Claim7 := { stood := { row := numTextsUptoRow, standIns := [], harness := (true, "e17c9d688fa57e807b5dd09a0c4598494ceed12087b5c72e39adc5a9a262aa14"), looks := false }, kinds := [], alts := [], laidByText := true, laidKinds := [.data, .data, .data, .data, .pinned], laidTests := true, laidLooks := .later }
def NumTextsUptoCardSaid : Prop := Claim7.holds Tryz.pinned (.plain (OpenSpec.upto numTextsSpec)) numTextsUptoCard

/-- THE SECOND FORM's CARD OF 'floodmarklaw02.LinForms'. -/
def linFormsUptoCard : Claim7 := { stood := { row := linFormsUptoRow, standIns := [], harness := (true, "e17c9d688fa57e807b5dd09a0c4598494ceed12087b5c72e39adc5a9a262aa14"), looks := false }, kinds := [], alts := [], laidByText := true, laidKinds := [.data], laidTests := true, laidLooks := .later }
def LinFormsUptoCardSaid : Prop := Claim7.holds Tryz.pinned (.plain (OpenSpec.upto linFormsSpec)) linFormsUptoCard

/-- THE SECOND FORM's CARD OF 'floodmarklaw02.LinCombines'. -/
def linCombinesUptoCard : Claim7 := { stood := { row := linCombinesUptoRow, standIns := [], harness := (true, "e17c9d688fa57e807b5dd09a0c4598494ceed12087b5c72e39adc5a9a262aa14"), looks := false }, kinds := [], alts := [], laidByText := true, laidKinds := [.data], laidTests := true, laidLooks := .later }
def LinCombinesUptoCardSaid : Prop := Claim7.holds Tryz.pinned (.plain (OpenSpec.upto linCombinesSpec)) linCombinesUptoCard

/-- THE SECOND FORM's CARD OF 'floodmarklaw02.LinEchelon'. -/
def linEchelonUptoCard : Claim7 := { stood := { row := linEchelonUptoRow, standIns := [], harness := (true, "e17c9d688fa57e807b5dd09a0c4598494ceed12087b5c72e39adc5a9a262aa14"), looks := false }, kinds := [], alts := [], laidByText := true, laidKinds := [.data], laidTests := true, laidLooks := .later }
def LinEchelonUptoCardSaid : Prop := Claim7.holds Tryz.pinned (.plain (OpenSpec.upto linEchelonSpec)) linEchelonUptoCard

/-- THE SECOND FORM's CARD OF 'floodmarklaw02.LinSame'. -/
def linSameUptoCard : Claim7 := { stood := { row := linSameUptoRow, standIns := [], harness := (true, "e17c9d688fa57e807b5dd09a0c4598494ceed12087b5c72e39adc5a9a262aa14"), looks := false }, kinds := [], alts := [], laidByText := true, laidKinds := [.data], laidTests := true, laidLooks := .later }
def LinSameUptoCardSaid : Prop := Claim7.holds Tryz.pinned (.plain (OpenSpec.upto linSameSpec)) linSameUptoCard

/-- THE SECOND FORM's CARD OF 'floodmarklaw02.LinSolutions'. -/
def linSolutionsUptoCard : Claim7 := { stood := { row := linSolutionsUptoRow, standIns := [], harness := (true, "e17c9d688fa57e807b5dd09a0c4598494ceed12087b5c72e39adc5a9a262aa14"), looks := false }, kinds := [], alts := [], laidByText := true, laidKinds := [.data], laidTests := true, laidLooks := .later }
def LinSolutionsUptoCardSaid : Prop := Claim7.holds Tryz.pinned (.plain (OpenSpec.upto linSolutionsSpec)) linSolutionsUptoCard

/-- THE SECOND FORM's CARD OF 'floodmarklaw02.LinLinear'. -/
def linLinearUptoCard : Claim7 := { stood := { row := linLinearUptoRow, standIns := [], harness := (true, "e17c9d688fa57e807b5dd09a0c4598494ceed12087b5c72e39adc5a9a262aa14"), looks := false }, kinds := [], alts := [], laidByText := true, laidKinds := [.data], laidTests := true, laidLooks := .later }
def LinLinearUptoCardSaid : Prop := Claim7.holds Tryz.pinned (.plain (OpenSpec.upto linLinearSpec)) linLinearUptoCard

/-- THE SECOND FORM's CARD OF 'floodmarklaw02.LinOwn'. -/
def linOwnUptoCard : Claim7 := { stood := { row := linOwnUptoRow, standIns := [], harness := (true, "e17c9d688fa57e807b5dd09a0c4598494ceed12087b5c72e39adc5a9a262aa14"), looks := false }, kinds := [], alts := [], laidByText := true, laidKinds := [.data], laidTests := true, laidLooks := .later }
def LinOwnUptoCardSaid : Prop := Claim7.holds Tryz.pinned (.plain (OpenSpec.upto linOwnSpec)) linOwnUptoCard
end Rows
end Go.Proofs.YtgcmogldiahdpaaGreatDoor
