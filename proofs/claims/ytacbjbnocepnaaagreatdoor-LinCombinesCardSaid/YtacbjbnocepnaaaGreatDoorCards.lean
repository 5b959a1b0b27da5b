/-
  DERIVED. GIVEN WITH THE SEED: THE CARDS: each row of YtacbjbnocepnaaaGreatDoorRows.lean that lists a variable, with what it lists TIED to the program's text (the seventh form; the later family's looks); each row that meets fmt, with fmt's text TOLD by the authors' own Lean function (tested against real Go, not proved from fmt's source: count such statements apart). THE CARD IS WHAT COUNTS. Prove the row's statement (the work); the ties are given (YtacbjbnocepnaaaGreatDoorTie.lean); close each card by the builder's one call (the guide's Derived/Test/ToyasCard.lean, 'card_holds'). Laid BY PROGRAM, IN A SANDBOX (cutbox-door.mjs). By AI agents, Wed Nov 11 2026. No macro, syntax, notation, axiom, sorry.
-/
import Derived.Test.YtacbjbnocepnaaaGreatDoorRows
import GoSem.ClaimSeven
namespace Go.Proofs.YtacbjbnocepnaaaGreatDoor
namespace Rows

/-- THE TIED CARD OF 'floodmarklaw02.LinCombines'. -/
def linCombinesCard : Claim7 := { stood := { row := linCombinesRow, standIns := [], harness := (true, "3df52dc277874402c30cd46ba7d0be8c618f60e2678ab380dd00c72f5998adb3"), looks := false }, kinds := [], alts := [], laidByText := true, laidKinds := [.data], laidTests := true, laidLooks := .later }
def LinCombinesCardSaid : Prop := Claim7.holds Tryz.pinned (.plain (OpenSpec.ofChange linCombinesSpec)) linCombinesCard

/-- THE TIED CARD OF 'floodmarklaw02.LinEchelon'. -/
def linEchelonCard : Claim7 := { stood := { row := linEchelonRow, standIns := [], harness := (true, "3df52dc277874402c30cd46ba7d0be8c618f60e2678ab380dd00c72f5998adb3"), looks := false }, kinds := [], alts := [], laidByText := true, laidKinds := [.data], laidTests := true, laidLooks := .later }
def LinEchelonCardSaid : Prop := Claim7.holds Tryz.pinned (.plain (OpenSpec.ofChange linEchelonSpec)) linEchelonCard

/-- THE TIED CARD OF 'floodmarklaw02.LinSame'. -/
def linSameCard : Claim7 := { stood := { row := linSameRow, standIns := [], harness := (true, "3df52dc277874402c30cd46ba7d0be8c618f60e2678ab380dd00c72f5998adb3"), looks := false }, kinds := [], alts := [], laidByText := true, laidKinds := [.data], laidTests := true, laidLooks := .later }
def LinSameCardSaid : Prop := Claim7.holds Tryz.pinned (.plain (OpenSpec.ofChange linSameSpec)) linSameCard

/-- THE TIED CARD OF 'floodmarklaw02.LinLinear'. -/
def linLinearCard : Claim7 := { stood := { row := linLinearRow, standIns := [], harness := (true, "3df52dc277874402c30cd46ba7d0be8c618f60e2678ab380dd00c72f5998adb3"), looks := false }, kinds := [], alts := [], laidByText := true, laidKinds := [.data], laidTests := true, laidLooks := .later }
def LinLinearCardSaid : Prop := Claim7.holds Tryz.pinned (.plain (OpenSpec.ofChange linLinearSpec)) linLinearCard

/-- THE TIED CARD OF 'floodmarklaw02.LinOwn'. -/
def linOwnCard : Claim7 := { stood := { row := linOwnRow, standIns := [], harness := (true, "3df52dc277874402c30cd46ba7d0be8c618f60e2678ab380dd00c72f5998adb3"), looks := false }, kinds := [], alts := [], laidByText := true, laidKinds := [.data], laidTests := true, laidLooks := .later }
def LinOwnCardSaid : Prop := Claim7.holds Tryz.pinned (.plain (OpenSpec.ofChange linOwnSpec)) linOwnCard

/-- THE SECOND FORM's CARD OF 'floodmarklaw02.LinCombines'. -/
def linCombinesUptoCard : Claim7 := { stood := { row := linCombinesUptoRow, standIns := [], harness := (true, "3df52dc277874402c30cd46ba7d0be8c618f60e2678ab380dd00c72f5998adb3"), looks := false }, kinds := [], alts := [], laidByText := true, laidKinds := [.data], laidTests := true, laidLooks := .later }
def LinCombinesUptoCardSaid : Prop := Claim7.holds Tryz.pinned (.plain (OpenSpec.upto linCombinesSpec)) linCombinesUptoCard

/-- THE SECOND FORM's CARD OF 'floodmarklaw02.LinEchelon'. -/
def linEchelonUptoCard : Claim7 := { stood := { row := linEchelonUptoRow, standIns := [], harness := (true, "3df52dc277874402c30cd46ba7d0be8c618f60e2678ab380dd00c72f5998adb3"), looks := false }, kinds := [], alts := [], laidByText := true, laidKinds := [.data], laidTests := true, laidLooks := .later }
def LinEchelonUptoCardSaid : Prop := Claim7.holds Tryz.pinned (.plain (OpenSpec.upto linEchelonSpec)) linEchelonUptoCard

/-- THE SECOND FORM's CARD OF 'floodmarklaw02.LinSame'. -/
def linSameUptoCard : Claim7 := { stood := { row := linSameUptoRow, standIns := [], harness := (true, "3df52dc277874402c30cd46ba7d0be8c618f60e2678ab380dd00c72f5998adb3"), looks := false }, kinds := [], alts := [], laidByText := true, laidKinds := [.data], laidTests := true, laidLooks := .later }
def LinSameUptoCardSaid : Prop := Claim7.holds Tryz.pinned (.plain (OpenSpec.upto linSameSpec)) linSameUptoCard

/-- THE SECOND FORM's CARD OF 'floodmarklaw02.LinLinear'. -/
def linLinearUptoCard : Claim7 := { stood := { row := linLinearUptoRow, standIns := [], harness := (true, "3df52dc277874402c30cd46ba7d0be8c618f60e2678ab380dd00c72f5998adb3"), looks := false }, kinds := [], alts := [], laidByText := true, laidKinds := [.data], laidTests := true, laidLooks := .later }
def LinLinearUptoCardSaid : Prop := Claim7.holds Tryz.pinned (.plain (OpenSpec.upto linLinearSpec)) linLinearUptoCard

/-- THE SECOND FORM's CARD OF 'floodmarklaw02.LinOwn'. -/
def linOwnUptoCard : Claim7 := { stood := { row := linOwnUptoRow, standIns := [], harness := (true, "3df52dc277874402c30cd46ba7d0be8c618f60e2678ab380dd00c72f5998adb3"), looks := false }, kinds := [], alts := [], laidByText := true, laidKinds := [.data], laidTests := true, laidLooks := .later }
def LinOwnUptoCardSaid : Prop := Claim7.holds Tryz.pinned (.plain (OpenSpec.upto linOwnSpec)) linOwnUptoCard
end Rows
end Go.Proofs.YtacbjbnocepnaaaGreatDoor
