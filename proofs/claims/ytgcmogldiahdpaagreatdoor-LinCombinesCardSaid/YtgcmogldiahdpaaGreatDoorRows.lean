/-
  NARROWER THAN 'FOR EVERY INPUT', by the rows' own cells (each row's printed sentence says how): NumTexts: laid · LinForms: laid · LinCombines: laid · LinEchelon: laid · LinSame: laid · LinSolutions: laid · LinLinear: laid · LinOwn: laid.
  DERIVED. THE GIVEN ROWS OF THIS SEAT. 8 by the template 'for every input the law returns true; each argument reads behind the call as it read before'; 0 by the template 'total and deterministic' (their statements: YtgcmogldiahdpaaGreatDoorTotals.lean).
  GIVEN WITH THE SEED: the statements are not yours to turn. If you find one false, say at which input.
  Laid BY PROGRAM, IN A SANDBOX (cutbox-rows.mjs): the forced cells as the released guide's own fill.sh prints them over the translation 9bb3fb02f7587fa1… (all of the seat's roots in one cut). By AI agents, Wed Nov 11 2026. No macro, syntax, notation, axiom, sorry.
-/
import Derived.Test.YtgcmogldiahdpaaGreatDoorChecked
import GoSem.PinnedTables
import GoSem.Claim
import GoSem.ClaimJoined
import GoSem.ClaimMapViews
import Derived.JoinedTies
import Derived.KernelRfl
namespace Go.Proofs.YtgcmogldiahdpaaGreatDoor
/- THE CELL 'sum', in the pinned program and in every row, IS THE sha256 OF THE DUMP (.gsa) THAT YtgcmogldiahdpaaGreatDoorProg.lean LOADS. Nothing in Lean hashes anything: it is a label: what it is worth is what the hold of that sum in a sandbox is worth. -/
noncomputable def Tryz.pinned : Pinned := { name := "ytgcmogldiahdpaagreatdoor", sum := "9bb3fb02f7587fa1962de9badb53f08e93006ce49d676c2840592aa9dc641dea", checked := Tryz.checked }
namespace Rows
def none {H : Type} : Left H := { results := [], args := [] }

/- WHAT THE LISTED PACKAGE-LEVEL VARIABLES READ AS WHEN THE CALL BEGINS. Each datum BY PROGRAM (the guide's laid-datum.mjs) off the statement by which the dump's own 'gosem.cut.vars' lays the variable. In a bare row this is a premise. The card (YtgcmogldiahdpaaGreatDoorCards.lean) ties it to the program's text. -/
def laid_math_bits_deBruijn32tab {H : Type} : DataW H := .agg [.lit (.int .u8 0), .lit (.int .u8 1), .lit (.int .u8 28), .lit (.int .u8 2), .lit (.int .u8 29), .lit (.int .u8 14), .lit (.int .u8 24), .lit (.int .u8 3), .lit (.int .u8 30), .lit (.int .u8 22), .lit (.int .u8 20), .lit (.int .u8 15), .lit (.int .u8 25), .lit (.int .u8 17), .lit (.int .u8 4), .lit (.int .u8 8), .lit (.int .u8 31), .lit (.int .u8 27), .lit (.int .u8 13), .lit (.int .u8 23), .lit (.int .u8 21), .lit (.int .u8 19), .lit (.int .u8 16), .lit (.int .u8 7), .lit (.int .u8 26), .lit (.int .u8 12), .lit (.int .u8 18), .lit (.int .u8 6), .lit (.int .u8 11), .lit (.int .u8 5), .lit (.int .u8 10), .lit (.int .u8 9)]
def laid_math_bits_deBruijn64tab {H : Type} : DataW H := .agg [.lit (.int .u8 0), .lit (.int .u8 1), .lit (.int .u8 56), .lit (.int .u8 2), .lit (.int .u8 57), .lit (.int .u8 49), .lit (.int .u8 28), .lit (.int .u8 3), .lit (.int .u8 61), .lit (.int .u8 58), .lit (.int .u8 42), .lit (.int .u8 50), .lit (.int .u8 38), .lit (.int .u8 29), .lit (.int .u8 17), .lit (.int .u8 4), .lit (.int .u8 62), .lit (.int .u8 47), .lit (.int .u8 59), .lit (.int .u8 36), .lit (.int .u8 45), .lit (.int .u8 43), .lit (.int .u8 51), .lit (.int .u8 22), .lit (.int .u8 53), .lit (.int .u8 39), .lit (.int .u8 33), .lit (.int .u8 30), .lit (.int .u8 24), .lit (.int .u8 18), .lit (.int .u8 12), .lit (.int .u8 5), .lit (.int .u8 63), .lit (.int .u8 55), .lit (.int .u8 48), .lit (.int .u8 27), .lit (.int .u8 60), .lit (.int .u8 41), .lit (.int .u8 37), .lit (.int .u8 16), .lit (.int .u8 46), .lit (.int .u8 35), .lit (.int .u8 44), .lit (.int .u8 21), .lit (.int .u8 52), .lit (.int .u8 32), .lit (.int .u8 23), .lit (.int .u8 11), .lit (.int .u8 54), .lit (.int .u8 26), .lit (.int .u8 40), .lit (.int .u8 15), .lit (.int .u8 34), .lit (.int .u8 20), .lit (.int .u8 31), .lit (.int .u8 10), .lit (.int .u8 25), .lit (.int .u8 14), .lit (.int .u8 19), .lit (.int .u8 9), .lit (.int .u8 13), .lit (.int .u8 8), .lit (.int .u8 7), .lit (.int .u8 6)]
def laid_internal_strconv_uint64pow10 {H : Type} : DataW H := .agg [.lit (.int .u64 1), .lit (.int .u64 10), .lit (.int .u64 100), .lit (.int .u64 1000), .lit (.int .u64 10000), .lit (.int .u64 100000), .lit (.int .u64 1000000), .lit (.int .u64 10000000), .lit (.int .u64 100000000), .lit (.int .u64 1000000000), .lit (.int .u64 10000000000), .lit (.int .u64 100000000000), .lit (.int .u64 1000000000000), .lit (.int .u64 10000000000000), .lit (.int .u64 100000000000000), .lit (.int .u64 1000000000000000), .lit (.int .u64 10000000000000000), .lit (.int .u64 100000000000000000), .lit (.int .u64 1000000000000000000), .lit (.int .u64 10000000000000000000)]
def laid_unicode_utf8_acceptRanges {H : Type} : DataW H := .agg [.agg [.lit (.int .u8 128), .lit (.int .u8 191)], .agg [.lit (.int .u8 160), .lit (.int .u8 191)], .agg [.lit (.int .u8 128), .lit (.int .u8 159)], .agg [.lit (.int .u8 144), .lit (.int .u8 191)], .agg [.lit (.int .u8 128), .lit (.int .u8 143)], .agg [.lit (.int .u8 0), .lit (.int .u8 0)], .agg [.lit (.int .u8 0), .lit (.int .u8 0)], .agg [.lit (.int .u8 0), .lit (.int .u8 0)], .agg [.lit (.int .u8 0), .lit (.int .u8 0)], .agg [.lit (.int .u8 0), .lit (.int .u8 0)], .agg [.lit (.int .u8 0), .lit (.int .u8 0)], .agg [.lit (.int .u8 0), .lit (.int .u8 0)], .agg [.lit (.int .u8 0), .lit (.int .u8 0)], .agg [.lit (.int .u8 0), .lit (.int .u8 0)], .agg [.lit (.int .u8 0), .lit (.int .u8 0)], .agg [.lit (.int .u8 0), .lit (.int .u8 0)]]
/-- One of Go's own tables, pinned by name: the form's constant. -/
def laid_unicode_utf8_first : DataW Unit := Go.Pinned.utf8First

/-- 'floodmarklaw01.NumTexts': WHATEVER THE INPUT: true; the input reads as it did. -/
def numTextsSpec : ChangeSpec := { name := "numTexts", fn := fun _ => fun
  | [d1, d2] => { results := [.lit (.bool true)], args := [d1, d2] }
  | _ => none }
def numTextsRow : OpenClaim := { program := "ytgcmogldiahdpaagreatdoor", sum := "9bb3fb02f7587fa1962de9badb53f08e93006ce49d676c2840592aa9dc641dea", func := "floodmark/floodmarklaw01.NumTexts", spec := "numTexts", inPlace := ["internal/bytealg.IndexByteString", "internal/bytealg.IndexString"], unfollowed := true, recurses := true, named := ["math/bits.overflowError", "math/bits.deBruijn32tab", "internal/strconv.uint64pow10", "math/bits.deBruijn64tab", "internal/bytealg.MaxLen", "unicode/utf8.first", "unicode/utf8.acceptRanges"], apart := false, laid := [("math/bits.deBruijn32tab", laid_math_bits_deBruijn32tab), ("math/bits.deBruijn64tab", laid_math_bits_deBruijn64tab), ("internal/strconv.uint64pow10", laid_internal_strconv_uint64pow10), ("unicode/utf8.acceptRanges", laid_unicode_utf8_acceptRanges), ("unicode/utf8.first", laid_unicode_utf8_first)] }
def NumTextsSaid : Prop := numTextsRow.holds Tryz.pinned (OpenSpec.ofChange numTextsSpec)

/-- ITS FALSE NEIGHBOUR: 'it returns false'. Refute it at one input. -/
def numTextsWrong : ChangeSpec := { name := "numTexts", fn := fun _ => fun
  | [d1, d2] => { results := [.lit (.bool false)], args := [d1, d2] }
  | _ => none }
def NumTextsWrongFalsely : Prop := numTextsRow.holds Tryz.pinned (OpenSpec.ofChange numTextsWrong)

/-- 'floodmarklaw02.LinForms': WHATEVER THE INPUT: true; the input reads as it did. -/
def linFormsSpec : ChangeSpec := { name := "linForms", fn := fun _ => fun
  | [d1, d2, d3] => { results := [.lit (.bool true)], args := [d1, d2, d3] }
  | _ => none }
def linFormsRow : OpenClaim := { program := "ytgcmogldiahdpaagreatdoor", sum := "9bb3fb02f7587fa1962de9badb53f08e93006ce49d676c2840592aa9dc641dea", func := "floodmark/floodmarklaw02.LinForms", spec := "linForms", recurses := true, named := ["math/bits.overflowError", "math/bits.deBruijn32tab"], apart := false, laid := [("math/bits.deBruijn32tab", laid_math_bits_deBruijn32tab)] }
def LinFormsSaid : Prop := linFormsRow.holds Tryz.pinned (OpenSpec.ofChange linFormsSpec)

/-- ITS FALSE NEIGHBOUR: 'it returns false'. Refute it at one input. -/
def linFormsWrong : ChangeSpec := { name := "linForms", fn := fun _ => fun
  | [d1, d2, d3] => { results := [.lit (.bool false)], args := [d1, d2, d3] }
  | _ => none }
def LinFormsWrongFalsely : Prop := linFormsRow.holds Tryz.pinned (OpenSpec.ofChange linFormsWrong)

/-- 'floodmarklaw02.LinCombines': WHATEVER THE INPUT: true; the input reads as it did. -/
def linCombinesSpec : ChangeSpec := { name := "linCombines", fn := fun _ => fun
  | [d1, d2, d3] => { results := [.lit (.bool true)], args := [d1, d2, d3] }
  | _ => none }
def linCombinesRow : OpenClaim := { program := "ytgcmogldiahdpaagreatdoor", sum := "9bb3fb02f7587fa1962de9badb53f08e93006ce49d676c2840592aa9dc641dea", func := "floodmark/floodmarklaw02.LinCombines", spec := "linCombines", recurses := true, named := ["math/bits.overflowError", "math/bits.deBruijn32tab"], apart := false, laid := [("math/bits.deBruijn32tab", laid_math_bits_deBruijn32tab)] }
def LinCombinesSaid : Prop := linCombinesRow.holds Tryz.pinned (OpenSpec.ofChange linCombinesSpec)

/-- ITS FALSE NEIGHBOUR: 'it returns false'. Refute it at one input. -/
def linCombinesWrong : ChangeSpec := { name := "linCombines", fn := fun _ => fun
  | [d1, d2, d3] => { results := [.lit (.bool false)], args := [d1, d2, d3] }
  | _ => none }
def LinCombinesWrongFalsely : Prop := linCombinesRow.holds Tryz.pinned (OpenSpec.ofChange linCombinesWrong)

/-- 'floodmarklaw02.LinEchelon': WHATEVER THE INPUT: true; the input reads as it did. -/
def linEchelonSpec : ChangeSpec := { name := "linEchelon", fn := fun _ => fun
  | [d1, d2] => { results := [.lit (.bool true)], args := [d1, d2] }
  | _ => none }
def linEchelonRow : OpenClaim := { program := "ytgcmogldiahdpaagreatdoor", sum := "9bb3fb02f7587fa1962de9badb53f08e93006ce49d676c2840592aa9dc641dea", func := "floodmark/floodmarklaw02.LinEchelon", spec := "linEchelon", named := ["math/bits.overflowError", "math/bits.deBruijn32tab"], apart := false, laid := [("math/bits.deBruijn32tab", laid_math_bits_deBruijn32tab)] }
def LinEchelonSaid : Prop := linEchelonRow.holds Tryz.pinned (OpenSpec.ofChange linEchelonSpec)

/-- ITS FALSE NEIGHBOUR: 'it returns false'. Refute it at one input. -/
def linEchelonWrong : ChangeSpec := { name := "linEchelon", fn := fun _ => fun
  | [d1, d2] => { results := [.lit (.bool false)], args := [d1, d2] }
  | _ => none }
def LinEchelonWrongFalsely : Prop := linEchelonRow.holds Tryz.pinned (OpenSpec.ofChange linEchelonWrong)

/-- 'floodmarklaw02.LinSame': WHATEVER THE INPUT: true; the input reads as it did. -/
def linSameSpec : ChangeSpec := { name := "linSame", fn := fun _ => fun
  | [d1, d2, d3] => { results := [.lit (.bool true)], args := [d1, d2, d3] }
  | _ => none }
def linSameRow : OpenClaim := { program := "ytgcmogldiahdpaagreatdoor", sum := "9bb3fb02f7587fa1962de9badb53f08e93006ce49d676c2840592aa9dc641dea", func := "floodmark/floodmarklaw02.LinSame", spec := "linSame", unfollowed := true, recurses := true, named := ["math/bits.overflowError", "math/bits.deBruijn32tab"], apart := false, laid := [("math/bits.deBruijn32tab", laid_math_bits_deBruijn32tab)] }
def LinSameSaid : Prop := linSameRow.holds Tryz.pinned (OpenSpec.ofChange linSameSpec)

/-- ITS FALSE NEIGHBOUR: 'it returns false'. Refute it at one input. -/
def linSameWrong : ChangeSpec := { name := "linSame", fn := fun _ => fun
  | [d1, d2, d3] => { results := [.lit (.bool false)], args := [d1, d2, d3] }
  | _ => none }
def LinSameWrongFalsely : Prop := linSameRow.holds Tryz.pinned (OpenSpec.ofChange linSameWrong)

/-- 'floodmarklaw02.LinSolutions': WHATEVER THE INPUT: true; the input reads as it did. -/
def linSolutionsSpec : ChangeSpec := { name := "linSolutions", fn := fun _ => fun
  | [d1, d2, d3] => { results := [.lit (.bool true)], args := [d1, d2, d3] }
  | _ => none }
def linSolutionsRow : OpenClaim := { program := "ytgcmogldiahdpaagreatdoor", sum := "9bb3fb02f7587fa1962de9badb53f08e93006ce49d676c2840592aa9dc641dea", func := "floodmark/floodmarklaw02.LinSolutions", spec := "linSolutions", unfollowed := true, recurses := true, named := ["math/bits.overflowError", "math/bits.deBruijn32tab"], apart := false, laid := [("math/bits.deBruijn32tab", laid_math_bits_deBruijn32tab)] }
def LinSolutionsSaid : Prop := linSolutionsRow.holds Tryz.pinned (OpenSpec.ofChange linSolutionsSpec)

/-- ITS FALSE NEIGHBOUR: 'it returns false'. Refute it at one input. -/
def linSolutionsWrong : ChangeSpec := { name := "linSolutions", fn := fun _ => fun
  | [d1, d2, d3] => { results := [.lit (.bool false)], args := [d1, d2, d3] }
  | _ => none }
def LinSolutionsWrongFalsely : Prop := linSolutionsRow.holds Tryz.pinned (OpenSpec.ofChange linSolutionsWrong)

/-- 'floodmarklaw02.LinLinear': WHATEVER THE INPUT: true; the input reads as it did. -/
def linLinearSpec : ChangeSpec := { name := "linLinear", fn := fun _ => fun
  | [d1, d2, d3, d4] => { results := [.lit (.bool true)], args := [d1, d2, d3, d4] }
  | _ => none }
def linLinearRow : OpenClaim := { program := "ytgcmogldiahdpaagreatdoor", sum := "9bb3fb02f7587fa1962de9badb53f08e93006ce49d676c2840592aa9dc641dea", func := "floodmark/floodmarklaw02.LinLinear", spec := "linLinear", recurses := true, named := ["math/bits.overflowError", "math/bits.deBruijn32tab"], apart := false, laid := [("math/bits.deBruijn32tab", laid_math_bits_deBruijn32tab)] }
def LinLinearSaid : Prop := linLinearRow.holds Tryz.pinned (OpenSpec.ofChange linLinearSpec)

/-- ITS FALSE NEIGHBOUR: 'it returns false'. Refute it at one input. -/
def linLinearWrong : ChangeSpec := { name := "linLinear", fn := fun _ => fun
  | [d1, d2, d3, d4] => { results := [.lit (.bool false)], args := [d1, d2, d3, d4] }
  | _ => none }
def LinLinearWrongFalsely : Prop := linLinearRow.holds Tryz.pinned (OpenSpec.ofChange linLinearWrong)

/-- 'floodmarklaw02.LinOwn': WHATEVER THE INPUT: true; the input reads as it did. -/
def linOwnSpec : ChangeSpec := { name := "linOwn", fn := fun _ => fun
  | [d1, d2, d3, d4, d5] => { results := [.lit (.bool true)], args := [d1, d2, d3, d4, d5] }
  | _ => none }
def linOwnRow : OpenClaim := { program := "ytgcmogldiahdpaagreatdoor", sum := "9bb3fb02f7587fa1962de9badb53f08e93006ce49d676c2840592aa9dc641dea", func := "floodmark/floodmarklaw02.LinOwn", spec := "linOwn", unfollowed := true, recurses := true, named := ["math/bits.overflowError", "math/bits.deBruijn32tab"], apart := false, laid := [("math/bits.deBruijn32tab", laid_math_bits_deBruijn32tab)] }
def LinOwnSaid : Prop := linOwnRow.holds Tryz.pinned (OpenSpec.ofChange linOwnSpec)

/-- ITS FALSE NEIGHBOUR: 'it returns false'. Refute it at one input. -/
def linOwnWrong : ChangeSpec := { name := "linOwn", fn := fun _ => fun
  | [d1, d2, d3, d4, d5] => { results := [.lit (.bool false)], args := [d1, d2, d3, d4, d5] }
  | _ => none }
def LinOwnWrongFalsely : Prop := linOwnRow.holds Tryz.pinned (OpenSpec.ofChange linOwnWrong)

/- THE SECOND FORM. 'bulk': how many values and letters a reading holds, each counted each time it is reached (what is shared counts as often as it is met; a slice's spare places count too). A statement '..UptoSaid' is the law's where the arguments, and the package variables that the reading takes, are together of bulk at most 1048576: NARROWER than '..Said'. Prove '..Said' where nothing that the law and all that it calls make is longer than what came in: it says more and counts as full. Else prove '..UptoSaid'. A law counts once. -/
mutual
def uptoBulk {H : Type} : DataW H → Nat
  | .lit (.string bytes) => bytes.length + 1
  | .lit _ => 1
  | .nil => 1
  | .ptr d => uptoBulk d + 1
  | .slice elems spare => uptoBulkAll elems + uptoBulkAll spare + 1
  | .agg parts => uptoBulkAll parts + 1
  | .iface _ d => uptoBulk d + 1
  | .map entries => uptoBulkEntries entries + 1
  | .held _ => 1
def uptoBulkAll {H : Type} : List (DataW H) → Nat
  | [] => 0
  | d :: r => uptoBulk d + uptoBulkAll r
def uptoBulkEntries {H : Type} : List (Lit × DataW H) → Nat
  | [] => 0
  | x :: r => uptoBulkEntry x + uptoBulkEntries r
def uptoBulkEntry {H : Type} : Lit × DataW H → Nat
  | (.string bytes, d) => bytes.length + uptoBulk d + 1
  | (_, d) => uptoBulk d + 1
 end
def uptoSmall : (H : Type) → List (DataW H) → Bool := fun _ ds => decide (uptoBulkAll ds ≤ 1048576)
def OpenSpec.upto (s : _root_.Go.ChangeSpec) : _root_.Go.OpenSpec := { _root_.Go.OpenSpec.ofChange s with cond := some uptoSmall }

/-- 'floodmarklaw01.NumTexts', WHERE WHAT IT READS IS OF BULK AT MOST 1048576: true; the input reads as it did. -/
def numTextsUptoRow : OpenClaim := { program := "ytgcmogldiahdpaagreatdoor", sum := "9bb3fb02f7587fa1962de9badb53f08e93006ce49d676c2840592aa9dc641dea", func := "floodmark/floodmarklaw01.NumTexts", spec := "numTexts", inPlace := ["internal/bytealg.IndexByteString", "internal/bytealg.IndexString"], unfollowed := true, recurses := true, named := ["math/bits.overflowError", "math/bits.deBruijn32tab", "internal/strconv.uint64pow10", "math/bits.deBruijn64tab", "internal/bytealg.MaxLen", "unicode/utf8.first", "unicode/utf8.acceptRanges"], apart := false, laid := [("math/bits.deBruijn32tab", laid_math_bits_deBruijn32tab), ("math/bits.deBruijn64tab", laid_math_bits_deBruijn64tab), ("internal/strconv.uint64pow10", laid_internal_strconv_uint64pow10), ("unicode/utf8.acceptRanges", laid_unicode_utf8_acceptRanges), ("unicode/utf8.first", laid_unicode_utf8_first)], narrowed := true }
def NumTextsUptoSaid : Prop := numTextsUptoRow.holds Tryz.pinned (OpenSpec.upto numTextsSpec)

/-- 'floodmarklaw02.LinForms', WHERE WHAT IT READS IS OF BULK AT MOST 1048576: true; the input reads as it did. -/
def linFormsUptoRow : OpenClaim := { program := "ytgcmogldiahdpaagreatdoor", sum := "9bb3fb02f7587fa1962de9badb53f08e93006ce49d676c2840592aa9dc641dea", func := "floodmark/floodmarklaw02.LinForms", spec := "linForms", recurses := true, named := ["math/bits.overflowError", "math/bits.deBruijn32tab"], apart := false, laid := [("math/bits.deBruijn32tab", laid_math_bits_deBruijn32tab)], narrowed := true }
def LinFormsUptoSaid : Prop := linFormsUptoRow.holds Tryz.pinned (OpenSpec.upto linFormsSpec)

/-- 'floodmarklaw02.LinCombines', WHERE WHAT IT READS IS OF BULK AT MOST 1048576: true; the input reads as it did. -/
def linCombinesUptoRow : OpenClaim := { program := "ytgcmogldiahdpaagreatdoor", sum := "9bb3fb02f7587fa1962de9badb53f08e93006ce49d676c2840592aa9dc641dea", func := "floodmark/floodmarklaw02.LinCombines", spec := "linCombines", recurses := true, named := ["math/bits.overflowError", "math/bits.deBruijn32tab"], apart := false, laid := [("math/bits.deBruijn32tab", laid_math_bits_deBruijn32tab)], narrowed := true }
def LinCombinesUptoSaid : Prop := linCombinesUptoRow.holds Tryz.pinned (OpenSpec.upto linCombinesSpec)

/-- 'floodmarklaw02.LinEchelon', WHERE WHAT IT READS IS OF BULK AT MOST 1048576: true; the input reads as it did. -/
def linEchelonUptoRow : OpenClaim := { program := "ytgcmogldiahdpaagreatdoor", sum := "9bb3fb02f7587fa1962de9badb53f08e93006ce49d676c2840592aa9dc641dea", func := "floodmark/floodmarklaw02.LinEchelon", spec := "linEchelon", named := ["math/bits.overflowError", "math/bits.deBruijn32tab"], apart := false, laid := [("math/bits.deBruijn32tab", laid_math_bits_deBruijn32tab)], narrowed := true }
def LinEchelonUptoSaid : Prop := linEchelonUptoRow.holds Tryz.pinned (OpenSpec.upto linEchelonSpec)

/-- 'floodmarklaw02.LinSame', WHERE WHAT IT READS IS OF BULK AT MOST 1048576: true; the input reads as it did. -/
def linSameUptoRow : OpenClaim := { program := "ytgcmogldiahdpaagreatdoor", sum := "9bb3fb02f7587fa1962de9badb53f08e93006ce49d676c2840592aa9dc641dea", func := "floodmark/floodmarklaw02.LinSame", spec := "linSame", unfollowed := true, recurses := true, named := ["math/bits.overflowError", "math/bits.deBruijn32tab"], apart := false, laid := [("math/bits.deBruijn32tab", laid_math_bits_deBruijn32tab)], narrowed := true }
def LinSameUptoSaid : Prop := linSameUptoRow.holds Tryz.pinned (OpenSpec.upto linSameSpec)

/-- 'floodmarklaw02.LinSolutions', WHERE WHAT IT READS IS OF BULK AT MOST 1048576: true; the input reads as it did. -/
def linSolutionsUptoRow : OpenClaim := { program := "ytgcmogldiahdpaagreatdoor", sum := "9bb3fb02f7587fa1962de9badb53f08e93006ce49d676c2840592aa9dc641dea", func := "floodmark/floodmarklaw02.LinSolutions", spec := "linSolutions", unfollowed := true, recurses := true, named := ["math/bits.overflowError", "math/bits.deBruijn32tab"], apart := false, laid := [("math/bits.deBruijn32tab", laid_math_bits_deBruijn32tab)], narrowed := true }
def LinSolutionsUptoSaid : Prop := linSolutionsUptoRow.holds Tryz.pinned (OpenSpec.upto linSolutionsSpec)

/-- 'floodmarklaw02.LinLinear', WHERE WHAT IT READS IS OF BULK AT MOST 1048576: true; the input reads as it did. -/
def linLinearUptoRow : OpenClaim := { program := "ytgcmogldiahdpaagreatdoor", sum := "9bb3fb02f7587fa1962de9badb53f08e93006ce49d676c2840592aa9dc641dea", func := "floodmark/floodmarklaw02.LinLinear", spec := "linLinear", recurses := true, named := ["math/bits.overflowError", "math/bits.deBruijn32tab"], apart := false, laid := [("math/bits.deBruijn32tab", laid_math_bits_deBruijn32tab)], narrowed := true }
def LinLinearUptoSaid : Prop := linLinearUptoRow.holds Tryz.pinned (OpenSpec.upto linLinearSpec)

/-- 'floodmarklaw02.LinOwn', WHERE WHAT IT READS IS OF BULK AT MOST 1048576: true; the input reads as it did. -/
def linOwnUptoRow : OpenClaim := { program := "ytgcmogldiahdpaagreatdoor", sum := "9bb3fb02f7587fa1962de9badb53f08e93006ce49d676c2840592aa9dc641dea", func := "floodmark/floodmarklaw02.LinOwn", spec := "linOwn", unfollowed := true, recurses := true, named := ["math/bits.overflowError", "math/bits.deBruijn32tab"], apart := false, laid := [("math/bits.deBruijn32tab", laid_math_bits_deBruijn32tab)], narrowed := true }
def LinOwnUptoSaid : Prop := linOwnUptoRow.holds Tryz.pinned (OpenSpec.upto linOwnSpec)

end Rows
end Go.Proofs.YtgcmogldiahdpaaGreatDoor
