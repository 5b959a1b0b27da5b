/-
  DERIVED. GIVEN WITH THE SEED: THE CARDS: each row of YtimlainffbpfdaaDoorRows.lean that lists a variable, with what it lists TIED to the program's text (the seventh form; the later family's looks); each row that meets fmt, with fmt's text TOLD by the authors' own Lean function (tested against real Go, not proved from fmt's source: count such statements apart). THE CARD IS WHAT COUNTS. Prove the row's statement (the work); the ties are given (YtimlainffbpfdaaDoorTie.lean); close each card by the builder's one call (the guide's Derived/Test/ToyasCard.lean, 'card_holds'). Laid BY PROGRAM, IN A SANDBOX (cutbox-door.mjs). By AI agents, Wed Nov 11 2026. No macro, syntax, notation, axiom, sorry.
-/
import Derived.Test.YtimlainffbpfdaaDoorRows
import GoSem.ClaimSeven
namespace Go.Proofs.YtimlainffbpfdaaDoor
namespace Rows

/-- THE TIED CARD OF 'floodmarklaw01.NumMakes'. -/
def numMakesCard : Claim7 := { stood := { row := numMakesRow, standIns := [], harness := (true, "80cdaf4ff3c1b6f3df08c10a3ba9cf072b1ef7086e7d2a1f61572ae8ed202fdb"), looks := false }, kinds := [], alts := [], laidByText := true, laidKinds := [.data], laidTests := true, laidLooks := .later }
def NumMakesCardSaid : Prop := Claim7.holds Tryd.pinned (.plain (OpenSpec.ofChange numMakesSpec)) numMakesCard

/-- THE TIED CARD OF 'floodmarklaw01.NumBetween'. -/
def numBetweenCard : Claim7 := { stood := { row := numBetweenRow, standIns := [], harness := (true, "80cdaf4ff3c1b6f3df08c10a3ba9cf072b1ef7086e7d2a1f61572ae8ed202fdb"), looks := false }, kinds := [], alts := [], laidByText := true, laidKinds := [.data], laidTests := true, laidLooks := .later }
def NumBetweenCardSaid : Prop := Claim7.holds Tryd.pinned (.plain (OpenSpec.ofChange numBetweenSpec)) numBetweenCard

/-- THE TIED CARD OF 'floodmarklaw01.NumLeast'. -/
def numLeastCard : Claim7 := { stood := { row := numLeastRow, standIns := [], harness := (true, "80cdaf4ff3c1b6f3df08c10a3ba9cf072b1ef7086e7d2a1f61572ae8ed202fdb"), looks := false }, kinds := [], alts := [], laidByText := true, laidKinds := [.data], laidTests := true, laidLooks := .later }
def NumLeastCardSaid : Prop := Claim7.holds Tryd.pinned (.plain (OpenSpec.ofChange numLeastSpec)) numLeastCard

/-- THE TIED CARD OF 'floodmarklaw01.NumDot'. -/
def numDotCard : Claim7 := { stood := { row := numDotRow, standIns := [], harness := (true, "80cdaf4ff3c1b6f3df08c10a3ba9cf072b1ef7086e7d2a1f61572ae8ed202fdb"), looks := false }, kinds := [], alts := [], laidByText := true, laidKinds := [.data], laidTests := true, laidLooks := .later }
def NumDotCardSaid : Prop := Claim7.holds Tryd.pinned (.plain (OpenSpec.ofChange numDotSpec)) numDotCard

/-- THE TIED CARD OF 'floodmarklaw01.NumField'. -/
def numFieldCard : Claim7 := { stood := { row := numFieldRow, standIns := [], harness := (true, "80cdaf4ff3c1b6f3df08c10a3ba9cf072b1ef7086e7d2a1f61572ae8ed202fdb"), looks := false }, kinds := [], alts := [], laidByText := true, laidKinds := [.data], laidTests := true, laidLooks := .later }
def NumFieldCardSaid : Prop := Claim7.holds Tryd.pinned (.plain (OpenSpec.ofChange numFieldSpec)) numFieldCard

/-- THE SECOND FORM's CARD OF 'floodmarklaw01.NumMakes'. -/
def numMakesUptoCard : Claim7 := { stood := { row := numMakesUptoRow, standIns := [], harness := (true, "80cdaf4ff3c1b6f3df08c10a3ba9cf072b1ef7086e7d2a1f61572ae8ed202fdb"), looks := false }, kinds := [], alts := [], laidByText := true, laidKinds := [.data], laidTests := true, laidLooks := .later }
def NumMakesUptoCardSaid : Prop := Claim7.holds Tryd.pinned (.plain (OpenSpec.upto numMakesSpec)) numMakesUptoCard

/-- THE SECOND FORM's CARD OF 'floodmarklaw01.NumBetween'. -/
def numBetweenUptoCard : Claim7 := { stood := { row := numBetweenUptoRow, standIns := [], harness := (true, "80cdaf4ff3c1b6f3df08c10a3ba9cf072b1ef7086e7d2a1f61572ae8ed202fdb"), looks := false }, kinds := [], alts := [], laidByText := true, laidKinds := [.data], laidTests := true, laidLooks := .later }
def NumBetweenUptoCardSaid : Prop := Claim7.holds Tryd.pinned (.plain (OpenSpec.upto numBetweenSpec)) numBetweenUptoCard

/-- THE SECOND FORM's CARD OF 'floodmarklaw01.NumLeast'. -/
def numLeastUptoCard : Claim7 := { stood := { row := numLeastUptoRow, standIns := [], harness := (true, "80cdaf4ff3c1b6f3df08c10a3ba9cf072b1ef7086e7d2a1f61572ae8ed202fdb"), looks := false }, kinds := [], alts := [], laidByText := true, laidKinds := [.data], laidTests := true, laidLooks := .later }
def NumLeastUptoCardSaid : Prop := Claim7.holds Tryd.pinned (.plain (OpenSpec.upto numLeastSpec)) numLeastUptoCard

/-- THE SECOND FORM's CARD OF 'floodmarklaw01.NumDot'. -/
def numDotUptoCard : Claim7 := { stood := { row := numDotUptoRow, standIns := [], harness := (true, "80cdaf4ff3c1b6f3df08c10a3ba9cf072b1ef7086e7d2a1f61572ae8ed202fdb"), looks := false }, kinds := [], alts := [], laidByText := true, laidKinds := [.data], laidTests := true, laidLooks := .later }
def NumDotUptoCardSaid : Prop := Claim7.holds Tryd.pinned (.plain (OpenSpec.upto numDotSpec)) numDotUptoCard

/-- THE SECOND FORM's CARD OF 'floodmarklaw01.NumField'. -/
def numFieldUptoCard : Claim7 := { stood := { row := numFieldUptoRow, standIns := [], harness := (true, "80cdaf4ff3c1b6f3df08c10a3ba9cf072b1ef7086e7d2a1f61572ae8ed202fdb"), looks := false }, kinds := [], alts := [], laidByText := true, laidKinds := [.data], laidTests := true, laidLooks := .later }
def NumFieldUptoCardSaid : Prop := Claim7.holds Tryd.pinned (.plain (OpenSpec.upto numFieldSpec)) numFieldUptoCard
end Rows
end Go.Proofs.YtimlainffbpfdaaDoor
