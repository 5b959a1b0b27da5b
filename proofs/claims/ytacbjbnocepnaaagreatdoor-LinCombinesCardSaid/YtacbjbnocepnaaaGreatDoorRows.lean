/-
  NARROWER THAN 'FOR EVERY INPUT', by the rows' own cells (each row's printed sentence says how): LinCombines: laid · LinEchelon: laid · LinSame: laid · LinLinear: laid · LinOwn: laid.
  DERIVED. THE GIVEN ROWS OF THIS SEAT. 5 by the template 'for every input the law returns true; each argument reads behind the call as it read before'; 0 by the template 'total and deterministic' (their statements: YtacbjbnocepnaaaGreatDoorTotals.lean).
  GIVEN WITH THE SEED: the statements are not yours to turn. If you find one false, say at which input.
  Laid BY PROGRAM, IN A SANDBOX (cutbox-rows.mjs): the forced cells as the released guide's own fill.sh prints them over the translation 898a177358a16e4a… (all of the seat's roots in one cut). By AI agents, Wed Nov 11 2026. No macro, syntax, notation, axiom, sorry.
-/
import Derived.Test.YtacbjbnocepnaaaGreatDoorChecked
import GoSem.Claim
import GoSem.ClaimJoined
import GoSem.ClaimMapViews
import Derived.JoinedTies
import Derived.KernelRfl
namespace Go.Proofs.YtacbjbnocepnaaaGreatDoor
/- THE CELL 'sum', in the pinned program and in every row, IS THE sha256 OF THE DUMP (.gsa) THAT YtacbjbnocepnaaaGreatDoorProg.lean LOADS. Nothing in Lean hashes anything: it is a label: what it is worth is what the hold of that sum in a sandbox is worth. -/
noncomputable def Tryz.pinned : Pinned := { name := "ytacbjbnocepnaaagreatdoor", sum := "898a177358a16e4a9267285c9d0b0132bd6045556e7b9debbcf74ea9b2194828", checked := Tryz.checked }
namespace Rows
def none {H : Type} : Left H := { results := [], args := [] }

/- WHAT THE LISTED PACKAGE-LEVEL VARIABLES READ AS WHEN THE CALL BEGINS. Each datum BY PROGRAM (the guide's laid-datum.mjs) off the statement by which the dump's own 'gosem.cut.vars' lays the variable. In a bare row this is a premise. The card (YtacbjbnocepnaaaGreatDoorCards.lean) ties it to the program's text. -/
def laid_math_bits_deBruijn32tab {H : Type} : DataW H := .agg [.lit (.int .u8 0), .lit (.int .u8 1), .lit (.int .u8 28), .lit (.int .u8 2), .lit (.int .u8 29), .lit (.int .u8 14), .lit (.int .u8 24), .lit (.int .u8 3), .lit (.int .u8 30), .lit (.int .u8 22), .lit (.int .u8 20), .lit (.int .u8 15), .lit (.int .u8 25), .lit (.int .u8 17), .lit (.int .u8 4), .lit (.int .u8 8), .lit (.int .u8 31), .lit (.int .u8 27), .lit (.int .u8 13), .lit (.int .u8 23), .lit (.int .u8 21), .lit (.int .u8 19), .lit (.int .u8 16), .lit (.int .u8 7), .lit (.int .u8 26), .lit (.int .u8 12), .lit (.int .u8 18), .lit (.int .u8 6), .lit (.int .u8 11), .lit (.int .u8 5), .lit (.int .u8 10), .lit (.int .u8 9)]

/-- 'floodmarklaw02.LinCombines': WHATEVER THE INPUT: true; the input reads as it did. -/
def linCombinesSpec : ChangeSpec := { name := "linCombines", fn := fun _ => fun
  | [d1, d2, d3] => { results := [.lit (.bool true)], args := [d1, d2, d3] }
  | _ => none }
def linCombinesRow : OpenClaim := { program := "ytacbjbnocepnaaagreatdoor", sum := "898a177358a16e4a9267285c9d0b0132bd6045556e7b9debbcf74ea9b2194828", func := "floodmark/floodmarklaw02.LinCombines", spec := "linCombines", recurses := true, named := ["math/bits.overflowError", "math/bits.deBruijn32tab"], apart := false, laid := [("math/bits.deBruijn32tab", laid_math_bits_deBruijn32tab)] }
def LinCombinesSaid : Prop := linCombinesRow.holds Tryz.pinned (OpenSpec.ofChange linCombinesSpec)

/-- ITS FALSE NEIGHBOUR: 'it returns false'. Refute it at one input. -/
def linCombinesWrong : ChangeSpec := { name := "linCombines", fn := fun _ => fun
  | [d1, d2, d3] => { results := [.lit (.bool false)], args := [d1, d2, d3] }
  | _ => none }
def LinCombinesWrongFalsely : Prop := linCombinesRow.holds Tryz.pinned (OpenSpec.ofChange linCombinesWrong)

/-- 'floodmarklaw02.LinEchelon': WHATEVER THE INPUT: true; the input reads as it did. -/
def linEchelonSpec : ChangeSpec := { name := "linEchelon", fn := fun _ => fun
  | [d1, d2] => { results := [.lit (.bool true)], args := [d1, d2] }
  | _ => none }
def linEchelonRow : OpenClaim := { program := "ytacbjbnocepnaaagreatdoor", sum := "898a177358a16e4a9267285c9d0b0132bd6045556e7b9debbcf74ea9b2194828", func := "floodmark/floodmarklaw02.LinEchelon", spec := "linEchelon", named := ["math/bits.overflowError", "math/bits.deBruijn32tab"], apart := false, laid := [("math/bits.deBruijn32tab", laid_math_bits_deBruijn32tab)] }
def LinEchelonSaid : Prop := linEchelonRow.holds Tryz.pinned (OpenSpec.ofChange linEchelonSpec)

/-- ITS FALSE NEIGHBOUR: 'it returns false'. Refute it at one input. -/
def linEchelonWrong : ChangeSpec := { name := "linEchelon", fn := fun _ => fun
  | [d1, d2] => { results := [.lit (.bool false)], args := [d1, d2] }
  | _ => none }
def LinEchelonWrongFalsely : Prop := linEchelonRow.holds Tryz.pinned (OpenSpec.ofChange linEchelonWrong)

/-- 'floodmarklaw02.LinSame': WHATEVER THE INPUT: true; the input reads as it did. -/
def linSameSpec : ChangeSpec := { name := "linSame", fn := fun _ => fun
  | [d1, d2, d3] => { results := [.lit (.bool true)], args := [d1, d2, d3] }
  | _ => none }
def linSameRow : OpenClaim := { program := "ytacbjbnocepnaaagreatdoor", sum := "898a177358a16e4a9267285c9d0b0132bd6045556e7b9debbcf74ea9b2194828", func := "floodmark/floodmarklaw02.LinSame", spec := "linSame", unfollowed := true, recurses := true, named := ["math/bits.overflowError", "math/bits.deBruijn32tab"], apart := false, laid := [("math/bits.deBruijn32tab", laid_math_bits_deBruijn32tab)] }
def LinSameSaid : Prop := linSameRow.holds Tryz.pinned (OpenSpec.ofChange linSameSpec)

/-- ITS FALSE NEIGHBOUR: 'it returns false'. Refute it at one input. -/
def linSameWrong : ChangeSpec := { name := "linSame", fn := fun _ => fun
  | [d1, d2, d3] => { results := [.lit (.bool false)], args := [d1, d2, d3] }
  | _ => none }
def LinSameWrongFalsely : Prop := linSameRow.holds Tryz.pinned (OpenSpec.ofChange linSameWrong)

/-- 'floodmarklaw02.LinLinear': WHATEVER THE INPUT: true; the input reads as it did. -/
def linLinearSpec : ChangeSpec := { name := "linLinear", fn := fun _ => fun
  | [d1, d2, d3, d4] => { results := [.lit (.bool true)], args := [d1, d2, d3, d4] }
  | _ => none }
def linLinearRow : OpenClaim := { program := "ytacbjbnocepnaaagreatdoor", sum := "898a177358a16e4a9267285c9d0b0132bd6045556e7b9debbcf74ea9b2194828", func := "floodmark/floodmarklaw02.LinLinear", spec := "linLinear", recurses := true, named := ["math/bits.overflowError", "math/bits.deBruijn32tab"], apart := false, laid := [("math/bits.deBruijn32tab", laid_math_bits_deBruijn32tab)] }
def LinLinearSaid : Prop := linLinearRow.holds Tryz.pinned (OpenSpec.ofChange linLinearSpec)

/-- ITS FALSE NEIGHBOUR: 'it returns false'. Refute it at one input. -/
def linLinearWrong : ChangeSpec := { name := "linLinear", fn := fun _ => fun
  | [d1, d2, d3, d4] => { results := [.lit (.bool false)], args := [d1, d2, d3, d4] }
  | _ => none }
def LinLinearWrongFalsely : Prop := linLinearRow.holds Tryz.pinned (OpenSpec.ofChange linLinearWrong)

/-- 'floodmarklaw02.LinOwn': WHATEVER THE INPUT: true; the input reads as it did. -/
def linOwnSpec : ChangeSpec := { name := "linOwn", fn := fun _ => fun
  | [d1, d2, d3, d4, d5] => { results := [.lit (.bool true)], args := [d1, d2, d3, d4, d5] }
  | _ => none }
def linOwnRow : OpenClaim := { program := "ytacbjbnocepnaaagreatdoor", sum := "898a177358a16e4a9267285c9d0b0132bd6045556e7b9debbcf74ea9b2194828", func := "floodmark/floodmarklaw02.LinOwn", spec := "linOwn", unfollowed := true, recurses := true, named := ["math/bits.overflowError", "math/bits.deBruijn32tab"], apart := false, laid := [("math/bits.deBruijn32tab", laid_math_bits_deBruijn32tab)] }
def LinOwnSaid : Prop := linOwnRow.holds Tryz.pinned (OpenSpec.ofChange linOwnSpec)

/-- ITS FALSE NEIGHBOUR: 'it returns false'. Refute it at one input. -/
def linOwnWrong : ChangeSpec := { name := "linOwn", fn := fun _ => fun
  | [d1, d2, d3, d4, d5] => { results := [.lit (.bool false)], args := [d1, d2, d3, d4, d5] }
  | _ => none }
def LinOwnWrongFalsely : Prop := linOwnRow.holds Tryz.pinned (OpenSpec.ofChange linOwnWrong)

/- THE SECOND FORM. 'bulk': how many values and letters a reading holds, each counted each time it is reached (what is shared counts as often as it is met; a slice's spare places count too). A statement '..UptoSaid' is the law's where the arguments, and the package variables that the reading takes, are together of bulk at most 1048576: NARROWER than '..Said'. Prove '..Said' where nothing that the law and all that it calls make is longer than what came in: it says more and counts as full. Else prove '..UptoSaid'. A law counts once. -/
mutual
def uptoBulk {H : Type} : DataW H → Nat
  | .lit (.string bytes) => bytes.length + 1
  | .lit _ => 1
  | .nil => 1
  | .ptr d => uptoBulk d + 1
  | .slice elems spare => uptoBulkAll elems + uptoBulkAll spare + 1
  | .agg parts => uptoBulkAll parts + 1
  | .iface _ d => uptoBulk d + 1
  | .map entries => uptoBulkEntries entries + 1
  | .held _ => 1
def uptoBulkAll {H : Type} : List (DataW H) → Nat
  | [] => 0
  | d :: r => uptoBulk d + uptoBulkAll r
def uptoBulkEntries {H : Type} : List (Lit × DataW H) → Nat
  | [] => 0
  | x :: r => uptoBulkEntry x + uptoBulkEntries r
def uptoBulkEntry {H : Type} : Lit × DataW H → Nat
  | (.string bytes, d) => bytes.length + uptoBulk d + 1
  | (_, d) => uptoBulk d + 1
 end
def uptoSmall : (H : Type) → List (DataW H) → Bool := fun _ ds => decide (uptoBulkAll ds ≤ 1048576)
def OpenSpec.upto (s : _root_.Go.ChangeSpec) : _root_.Go.OpenSpec := { _root_.Go.OpenSpec.ofChange s with cond := some uptoSmall }

/-- 'floodmarklaw02.LinCombines', WHERE WHAT IT READS IS OF BULK AT MOST 1048576: true; the input reads as it did. -/
def linCombinesUptoRow : OpenClaim := { program := "ytacbjbnocepnaaagreatdoor", sum := "898a177358a16e4a9267285c9d0b0132bd6045556e7b9debbcf74ea9b2194828", func := "floodmark/floodmarklaw02.LinCombines", spec := "linCombines", recurses := true, named := ["math/bits.overflowError", "math/bits.deBruijn32tab"], apart := false, laid := [("math/bits.deBruijn32tab", laid_math_bits_deBruijn32tab)], narrowed := true }
def LinCombinesUptoSaid : Prop := linCombinesUptoRow.holds Tryz.pinned (OpenSpec.upto linCombinesSpec)

/-- 'floodmarklaw02.LinEchelon', WHERE WHAT IT READS IS OF BULK AT MOST 1048576: true; the input reads as it did. -/
def linEchelonUptoRow : OpenClaim := { program := "ytacbjbnocepnaaagreatdoor", sum := "898a177358a16e4a9267285c9d0b0132bd6045556e7b9debbcf74ea9b2194828", func := "floodmark/floodmarklaw02.LinEchelon", spec := "linEchelon", named := ["math/bits.overflowError", "math/bits.deBruijn32tab"], apart := false, laid := [("math/bits.deBruijn32tab", laid_math_bits_deBruijn32tab)], narrowed := true }
def LinEchelonUptoSaid : Prop := linEchelonUptoRow.holds Tryz.pinned (OpenSpec.upto linEchelonSpec)

/-- 'floodmarklaw02.LinSame', WHERE WHAT IT READS IS OF BULK AT MOST 1048576: true; the input reads as it did. -/
def linSameUptoRow : OpenClaim := { program := "ytacbjbnocepnaaagreatdoor", sum := "898a177358a16e4a9267285c9d0b0132bd6045556e7b9debbcf74ea9b2194828", func := "floodmark/floodmarklaw02.LinSame", spec := "linSame", unfollowed := true, recurses := true, named := ["math/bits.overflowError", "math/bits.deBruijn32tab"], apart := false, laid := [("math/bits.deBruijn32tab", laid_math_bits_deBruijn32tab)], narrowed := true }
def LinSameUptoSaid : Prop := linSameUptoRow.holds Tryz.pinned (OpenSpec.upto linSameSpec)

/-- 'floodmarklaw02.LinLinear', WHERE WHAT IT READS IS OF BULK AT MOST 1048576: true; the input reads as it did. -/
def linLinearUptoRow : OpenClaim := { program := "ytacbjbnocepnaaagreatdoor", sum := "898a177358a16e4a9267285c9d0b0132bd6045556e7b9debbcf74ea9b2194828", func := "floodmark/floodmarklaw02.LinLinear", spec := "linLinear", recurses := true, named := ["math/bits.overflowError", "math/bits.deBruijn32tab"], apart := false, laid := [("math/bits.deBruijn32tab", laid_math_bits_deBruijn32tab)], narrowed := true }
def LinLinearUptoSaid : Prop := linLinearUptoRow.holds Tryz.pinned (OpenSpec.upto linLinearSpec)

/-- 'floodmarklaw02.LinOwn', WHERE WHAT IT READS IS OF BULK AT MOST 1048576: true; the input reads as it did. -/
def linOwnUptoRow : OpenClaim := { program := "ytacbjbnocepnaaagreatdoor", sum := "898a177358a16e4a9267285c9d0b0132bd6045556e7b9debbcf74ea9b2194828", func := "floodmark/floodmarklaw02.LinOwn", spec := "linOwn", unfollowed := true, recurses := true, named := ["math/bits.overflowError", "math/bits.deBruijn32tab"], apart := false, laid := [("math/bits.deBruijn32tab", laid_math_bits_deBruijn32tab)], narrowed := true }
def LinOwnUptoSaid : Prop := linOwnUptoRow.holds Tryz.pinned (OpenSpec.upto linOwnSpec)

end Rows
end Go.Proofs.YtacbjbnocepnaaaGreatDoor
