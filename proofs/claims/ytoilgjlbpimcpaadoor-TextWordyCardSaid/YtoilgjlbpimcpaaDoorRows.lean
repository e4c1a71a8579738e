/-
  NARROWER THAN 'FOR EVERY INPUT', by the rows' own cells (each row's printed sentence says how): TextPads: laid · TextParts: laid · TextSearches: laid · TextCompares: laid · TextWords: laid · TextSpaces: laid · TextTables: laid · TextBits: laid · TextDigits: laid · TextSplits: laid · TextOccurs: laid · TextWordy: laid · TextConverts: laid.
  DERIVED. THE GIVEN ROWS OF THIS SEAT. 13 by the template 'for every input the law returns true; each argument reads behind the call as it read before'; 0 by the template 'total and deterministic' (their statements: YtoilgjlbpimcpaaDoorTotals.lean).
  GIVEN WITH THE SEED: the statements are not yours to turn. If you find one false, say at which input.
  Laid BY PROGRAM, IN A SANDBOX (cutbox-rows.mjs): the forced cells as the released guide's own fill.sh prints them over the translation be01cbb01ef0d21e… (all of the seat's roots in one cut). By AI agents, Wed Nov 11 2026. No macro, syntax, notation, axiom, sorry.
-/
import Derived.Test.YtoilgjlbpimcpaaDoorChecked
import GoSem.PinnedTables
import GoSem.Claim
import GoSem.ClaimJoined
import GoSem.ClaimMapViews
import Derived.JoinedTies
import Derived.KernelRfl
namespace Go.Proofs.YtoilgjlbpimcpaaDoor
/- THE CELL 'sum', in the pinned program and in every row, IS THE sha256 OF THE DUMP (.gsa) THAT YtoilgjlbpimcpaaDoorProg.lean LOADS. Nothing in Lean hashes anything: it is a label: what it is worth is what the hold of that sum in a sandbox is worth. -/
noncomputable def Tryd.pinned : Pinned := { name := "ytoilgjlbpimcpaadoor", sum := "be01cbb01ef0d21e9c6d89db5ca352377b96360dfdfa023b47f776298fe326ab", checked := Tryd.checked }
namespace Rows
def none {H : Type} : Left H := { results := [], args := [] }

/- WHAT THE LISTED PACKAGE-LEVEL VARIABLES READ AS WHEN THE CALL BEGINS. Each datum BY PROGRAM (the guide's laid-datum.mjs) off the statement by which the dump's own 'gosem.cut.vars' lays the variable. In a bare row this is a premise. The card (YtoilgjlbpimcpaaDoorCards.lean) ties it to the program's text. -/
def laid_unicode_utf8_acceptRanges {H : Type} : DataW H := .agg [.agg [.lit (.int .u8 128), .lit (.int .u8 191)], .agg [.lit (.int .u8 160), .lit (.int .u8 191)], .agg [.lit (.int .u8 128), .lit (.int .u8 159)], .agg [.lit (.int .u8 144), .lit (.int .u8 191)], .agg [.lit (.int .u8 128), .lit (.int .u8 143)], .agg [.lit (.int .u8 0), .lit (.int .u8 0)], .agg [.lit (.int .u8 0), .lit (.int .u8 0)], .agg [.lit (.int .u8 0), .lit (.int .u8 0)], .agg [.lit (.int .u8 0), .lit (.int .u8 0)], .agg [.lit (.int .u8 0), .lit (.int .u8 0)], .agg [.lit (.int .u8 0), .lit (.int .u8 0)], .agg [.lit (.int .u8 0), .lit (.int .u8 0)], .agg [.lit (.int .u8 0), .lit (.int .u8 0)], .agg [.lit (.int .u8 0), .lit (.int .u8 0)], .agg [.lit (.int .u8 0), .lit (.int .u8 0)], .agg [.lit (.int .u8 0), .lit (.int .u8 0)]]
/-- One of Go's own tables, pinned by name: the form's constant. -/
def laid_unicode_utf8_first : DataW Unit := Go.Pinned.utf8First

/-- 'qanatlaw02.TextPads': WHATEVER THE INPUT: true; the input reads as it did. -/
def textPadsSpec : ChangeSpec := { name := "textPads", fn := fun _ => fun
  | [d1, d2, d3, d4] => { results := [.lit (.bool true)], args := [d1, d2, d3, d4] }
  | _ => none }
def textPadsRow : OpenClaim := { program := "ytoilgjlbpimcpaadoor", sum := "be01cbb01ef0d21e9c6d89db5ca352377b96360dfdfa023b47f776298fe326ab", func := "qanat/qanatlaw02.TextPads", spec := "textPads", inPlace := ["internal/bytealg.IndexByteString", "internal/bytealg.IndexString", "internal/abi.NoEscape", "internal/bytealg.MakeNoZero"], unfollowed := true, recurses := true, named := ["unicode/utf8.first", "unicode/utf8.acceptRanges", "internal/bytealg.MaxLen"], apart := false, laid := [("unicode/utf8.acceptRanges", laid_unicode_utf8_acceptRanges), ("unicode/utf8.first", laid_unicode_utf8_first)] }
def TextPadsSaid : Prop := textPadsRow.holds Tryd.pinned (OpenSpec.ofChange textPadsSpec)

/-- ITS FALSE NEIGHBOUR: 'it returns false'. Refute it at one input. -/
def textPadsWrong : ChangeSpec := { name := "textPads", fn := fun _ => fun
  | [d1, d2, d3, d4] => { results := [.lit (.bool false)], args := [d1, d2, d3, d4] }
  | _ => none }
def TextPadsWrongFalsely : Prop := textPadsRow.holds Tryd.pinned (OpenSpec.ofChange textPadsWrong)

/-- 'qanatlaw02.TextParts': WHATEVER THE INPUT: true; the input reads as it did. -/
def textPartsSpec : ChangeSpec := { name := "textParts", fn := fun _ => fun
  | [d1, d2, d3, d4, d5] => { results := [.lit (.bool true)], args := [d1, d2, d3, d4, d5] }
  | _ => none }
def textPartsRow : OpenClaim := { program := "ytoilgjlbpimcpaadoor", sum := "be01cbb01ef0d21e9c6d89db5ca352377b96360dfdfa023b47f776298fe326ab", func := "qanat/qanatlaw02.TextParts", spec := "textParts", inPlace := ["internal/bytealg.IndexByteString", "internal/bytealg.IndexString"], unfollowed := true, recurses := true, named := ["unicode/utf8.first", "unicode/utf8.acceptRanges", "internal/bytealg.MaxLen"], apart := false, laid := [("unicode/utf8.acceptRanges", laid_unicode_utf8_acceptRanges), ("unicode/utf8.first", laid_unicode_utf8_first)] }
def TextPartsSaid : Prop := textPartsRow.holds Tryd.pinned (OpenSpec.ofChange textPartsSpec)

/-- ITS FALSE NEIGHBOUR: 'it returns false'. Refute it at one input. -/
def textPartsWrong : ChangeSpec := { name := "textParts", fn := fun _ => fun
  | [d1, d2, d3, d4, d5] => { results := [.lit (.bool false)], args := [d1, d2, d3, d4, d5] }
  | _ => none }
def TextPartsWrongFalsely : Prop := textPartsRow.holds Tryd.pinned (OpenSpec.ofChange textPartsWrong)

/-- 'qanatlaw02.TextSearches': WHATEVER THE INPUT: true; the input reads as it did. -/
def textSearchesSpec : ChangeSpec := { name := "textSearches", fn := fun _ => fun
  | [d1, d2, d3, d4] => { results := [.lit (.bool true)], args := [d1, d2, d3, d4] }
  | _ => none }
def textSearchesRow : OpenClaim := { program := "ytoilgjlbpimcpaadoor", sum := "be01cbb01ef0d21e9c6d89db5ca352377b96360dfdfa023b47f776298fe326ab", func := "qanat/qanatlaw02.TextSearches", spec := "textSearches", inPlace := ["internal/bytealg.IndexByteString", "internal/bytealg.IndexString", "internal/abi.NoEscape"], unfollowed := true, recurses := true, named := ["unicode/utf8.first", "unicode/utf8.acceptRanges", "internal/bytealg.MaxLen"], apart := false, laid := [("unicode/utf8.acceptRanges", laid_unicode_utf8_acceptRanges), ("unicode/utf8.first", laid_unicode_utf8_first)] }
def TextSearchesSaid : Prop := textSearchesRow.holds Tryd.pinned (OpenSpec.ofChange textSearchesSpec)

/-- ITS FALSE NEIGHBOUR: 'it returns false'. Refute it at one input. -/
def textSearchesWrong : ChangeSpec := { name := "textSearches", fn := fun _ => fun
  | [d1, d2, d3, d4] => { results := [.lit (.bool false)], args := [d1, d2, d3, d4] }
  | _ => none }
def TextSearchesWrongFalsely : Prop := textSearchesRow.holds Tryd.pinned (OpenSpec.ofChange textSearchesWrong)

/-- 'qanatlaw02.TextCompares': WHATEVER THE INPUT: true; the input reads as it did. -/
def textComparesSpec : ChangeSpec := { name := "textCompares", fn := fun _ => fun
  | [d1, d2, d3, d4, d5] => { results := [.lit (.bool true)], args := [d1, d2, d3, d4, d5] }
  | _ => none }
def textComparesRow : OpenClaim := { program := "ytoilgjlbpimcpaadoor", sum := "be01cbb01ef0d21e9c6d89db5ca352377b96360dfdfa023b47f776298fe326ab", func := "qanat/qanatlaw02.TextCompares", spec := "textCompares", inPlace := ["internal/bytealg.IndexByteString", "internal/bytealg.IndexString"], unfollowed := true, recurses := true, named := ["unicode/utf8.first", "unicode/utf8.acceptRanges", "internal/bytealg.MaxLen"], apart := false, laid := [("unicode/utf8.acceptRanges", laid_unicode_utf8_acceptRanges), ("unicode/utf8.first", laid_unicode_utf8_first)] }
def TextComparesSaid : Prop := textComparesRow.holds Tryd.pinned (OpenSpec.ofChange textComparesSpec)

/-- ITS FALSE NEIGHBOUR: 'it returns false'. Refute it at one input. -/
def textComparesWrong : ChangeSpec := { name := "textCompares", fn := fun _ => fun
  | [d1, d2, d3, d4, d5] => { results := [.lit (.bool false)], args := [d1, d2, d3, d4, d5] }
  | _ => none }
def TextComparesWrongFalsely : Prop := textComparesRow.holds Tryd.pinned (OpenSpec.ofChange textComparesWrong)

/-- 'qanatlaw02.TextWords': WHATEVER THE INPUT: true; the input reads as it did. -/
def textWordsSpec : ChangeSpec := { name := "textWords", fn := fun _ => fun
  | [d1, d2, d3] => { results := [.lit (.bool true)], args := [d1, d2, d3] }
  | _ => none }
def textWordsRow : OpenClaim := { program := "ytoilgjlbpimcpaadoor", sum := "be01cbb01ef0d21e9c6d89db5ca352377b96360dfdfa023b47f776298fe326ab", func := "qanat/qanatlaw02.TextWords", spec := "textWords", inPlace := ["internal/bytealg.IndexByteString", "internal/bytealg.IndexString"], unfollowed := true, recurses := true, named := ["unicode/utf8.first", "unicode/utf8.acceptRanges", "internal/bytealg.MaxLen"], apart := false, laid := [("unicode/utf8.acceptRanges", laid_unicode_utf8_acceptRanges), ("unicode/utf8.first", laid_unicode_utf8_first)] }
def TextWordsSaid : Prop := textWordsRow.holds Tryd.pinned (OpenSpec.ofChange textWordsSpec)

/-- ITS FALSE NEIGHBOUR: 'it returns false'. Refute it at one input. -/
def textWordsWrong : ChangeSpec := { name := "textWords", fn := fun _ => fun
  | [d1, d2, d3] => { results := [.lit (.bool false)], args := [d1, d2, d3] }
  | _ => none }
def TextWordsWrongFalsely : Prop := textWordsRow.holds Tryd.pinned (OpenSpec.ofChange textWordsWrong)

/-- 'qanatlaw02.TextSpaces': WHATEVER THE INPUT: true; the input reads as it did. -/
def textSpacesSpec : ChangeSpec := { name := "textSpaces", fn := fun _ => fun
  | [d1, d2, d3, d4] => { results := [.lit (.bool true)], args := [d1, d2, d3, d4] }
  | _ => none }
def textSpacesRow : OpenClaim := { program := "ytoilgjlbpimcpaadoor", sum := "be01cbb01ef0d21e9c6d89db5ca352377b96360dfdfa023b47f776298fe326ab", func := "qanat/qanatlaw02.TextSpaces", spec := "textSpaces", inPlace := ["internal/bytealg.IndexByteString", "internal/bytealg.IndexString", "internal/abi.NoEscape", "internal/bytealg.MakeNoZero"], unfollowed := true, recurses := true, named := ["unicode/utf8.first", "unicode/utf8.acceptRanges", "internal/bytealg.MaxLen"], apart := false, laid := [("unicode/utf8.acceptRanges", laid_unicode_utf8_acceptRanges), ("unicode/utf8.first", laid_unicode_utf8_first)] }
def TextSpacesSaid : Prop := textSpacesRow.holds Tryd.pinned (OpenSpec.ofChange textSpacesSpec)

/-- ITS FALSE NEIGHBOUR: 'it returns false'. Refute it at one input. -/
def textSpacesWrong : ChangeSpec := { name := "textSpaces", fn := fun _ => fun
  | [d1, d2, d3, d4] => { results := [.lit (.bool false)], args := [d1, d2, d3, d4] }
  | _ => none }
def TextSpacesWrongFalsely : Prop := textSpacesRow.holds Tryd.pinned (OpenSpec.ofChange textSpacesWrong)

/-- 'qanatlaw02.TextTables': WHATEVER THE INPUT: true; the input reads as it did. -/
def textTablesSpec : ChangeSpec := { name := "textTables", fn := fun _ => fun
  | [d1, d2, d3, d4, d5] => { results := [.lit (.bool true)], args := [d1, d2, d3, d4, d5] }
  | _ => none }
def textTablesRow : OpenClaim := { program := "ytoilgjlbpimcpaadoor", sum := "be01cbb01ef0d21e9c6d89db5ca352377b96360dfdfa023b47f776298fe326ab", func := "qanat/qanatlaw02.TextTables", spec := "textTables", inPlace := ["internal/bytealg.IndexByteString", "internal/bytealg.IndexString"], unfollowed := true, recurses := true, named := ["unicode/utf8.first", "unicode/utf8.acceptRanges", "internal/bytealg.MaxLen"], apart := false, laid := [("unicode/utf8.acceptRanges", laid_unicode_utf8_acceptRanges), ("unicode/utf8.first", laid_unicode_utf8_first)] }
def TextTablesSaid : Prop := textTablesRow.holds Tryd.pinned (OpenSpec.ofChange textTablesSpec)

/-- ITS FALSE NEIGHBOUR: 'it returns false'. Refute it at one input. -/
def textTablesWrong : ChangeSpec := { name := "textTables", fn := fun _ => fun
  | [d1, d2, d3, d4, d5] => { results := [.lit (.bool false)], args := [d1, d2, d3, d4, d5] }
  | _ => none }
def TextTablesWrongFalsely : Prop := textTablesRow.holds Tryd.pinned (OpenSpec.ofChange textTablesWrong)

/-- 'qanatlaw02.TextBits': WHATEVER THE INPUT: true; the input reads as it did. -/
def textBitsSpec : ChangeSpec := { name := "textBits", fn := fun _ => fun
  | [d1, d2, d3] => { results := [.lit (.bool true)], args := [d1, d2, d3] }
  | _ => none }
def textBitsRow : OpenClaim := { program := "ytoilgjlbpimcpaadoor", sum := "be01cbb01ef0d21e9c6d89db5ca352377b96360dfdfa023b47f776298fe326ab", func := "qanat/qanatlaw02.TextBits", spec := "textBits", inPlace := ["internal/bytealg.IndexByteString", "internal/bytealg.IndexString"], unfollowed := true, recurses := true, named := ["unicode/utf8.first", "unicode/utf8.acceptRanges", "internal/bytealg.MaxLen"], apart := false, laid := [("unicode/utf8.acceptRanges", laid_unicode_utf8_acceptRanges), ("unicode/utf8.first", laid_unicode_utf8_first)] }
def TextBitsSaid : Prop := textBitsRow.holds Tryd.pinned (OpenSpec.ofChange textBitsSpec)

/-- ITS FALSE NEIGHBOUR: 'it returns false'. Refute it at one input. -/
def textBitsWrong : ChangeSpec := { name := "textBits", fn := fun _ => fun
  | [d1, d2, d3] => { results := [.lit (.bool false)], args := [d1, d2, d3] }
  | _ => none }
def TextBitsWrongFalsely : Prop := textBitsRow.holds Tryd.pinned (OpenSpec.ofChange textBitsWrong)

/-- 'qanatlaw02.TextDigits': WHATEVER THE INPUT: true; the input reads as it did. -/
def textDigitsSpec : ChangeSpec := { name := "textDigits", fn := fun _ => fun
  | [d] => { results := [.lit (.bool true)], args := [d] }
  | _ => none }
def textDigitsRow : OpenClaim := { program := "ytoilgjlbpimcpaadoor", sum := "be01cbb01ef0d21e9c6d89db5ca352377b96360dfdfa023b47f776298fe326ab", func := "qanat/qanatlaw02.TextDigits", spec := "textDigits", inPlace := ["internal/bytealg.IndexByteString", "internal/bytealg.IndexString"], unfollowed := true, recurses := true, named := ["unicode/utf8.first", "unicode/utf8.acceptRanges", "internal/bytealg.MaxLen"], apart := false, laid := [("unicode/utf8.acceptRanges", laid_unicode_utf8_acceptRanges), ("unicode/utf8.first", laid_unicode_utf8_first)] }
def TextDigitsSaid : Prop := textDigitsRow.holds Tryd.pinned (OpenSpec.ofChange textDigitsSpec)

/-- ITS FALSE NEIGHBOUR: 'it returns false'. Refute it at one input. -/
def textDigitsWrong : ChangeSpec := { name := "textDigits", fn := fun _ => fun
  | [d] => { results := [.lit (.bool false)], args := [d] }
  | _ => none }
def TextDigitsWrongFalsely : Prop := textDigitsRow.holds Tryd.pinned (OpenSpec.ofChange textDigitsWrong)

/-- 'qanatlaw02.TextSplits': WHATEVER THE INPUT: true; the input reads as it did. -/
def textSplitsSpec : ChangeSpec := { name := "textSplits", fn := fun _ => fun
  | [d1, d2, d3] => { results := [.lit (.bool true)], args := [d1, d2, d3] }
  | _ => none }
def textSplitsRow : OpenClaim := { program := "ytoilgjlbpimcpaadoor", sum := "be01cbb01ef0d21e9c6d89db5ca352377b96360dfdfa023b47f776298fe326ab", func := "qanat/qanatlaw02.TextSplits", spec := "textSplits", inPlace := ["internal/bytealg.IndexByteString", "internal/bytealg.IndexString"], unfollowed := true, recurses := true, named := ["unicode/utf8.first", "unicode/utf8.acceptRanges", "internal/bytealg.MaxLen"], apart := false, laid := [("unicode/utf8.acceptRanges", laid_unicode_utf8_acceptRanges), ("unicode/utf8.first", laid_unicode_utf8_first)] }
def TextSplitsSaid : Prop := textSplitsRow.holds Tryd.pinned (OpenSpec.ofChange textSplitsSpec)

/-- ITS FALSE NEIGHBOUR: 'it returns false'. Refute it at one input. -/
def textSplitsWrong : ChangeSpec := { name := "textSplits", fn := fun _ => fun
  | [d1, d2, d3] => { results := [.lit (.bool false)], args := [d1, d2, d3] }
  | _ => none }
def TextSplitsWrongFalsely : Prop := textSplitsRow.holds Tryd.pinned (OpenSpec.ofChange textSplitsWrong)

/-- 'qanatlaw02.TextOccurs': WHATEVER THE INPUT: true; the input reads as it did. -/
def textOccursSpec : ChangeSpec := { name := "textOccurs", fn := fun _ => fun
  | [d1, d2, d3, d4] => { results := [.lit (.bool true)], args := [d1, d2, d3, d4] }
  | _ => none }
def textOccursRow : OpenClaim := { program := "ytoilgjlbpimcpaadoor", sum := "be01cbb01ef0d21e9c6d89db5ca352377b96360dfdfa023b47f776298fe326ab", func := "qanat/qanatlaw02.TextOccurs", spec := "textOccurs", inPlace := ["internal/bytealg.IndexByteString", "internal/bytealg.IndexString", "internal/abi.NoEscape"], unfollowed := true, recurses := true, named := ["unicode/utf8.first", "unicode/utf8.acceptRanges", "internal/bytealg.MaxLen"], apart := false, laid := [("unicode/utf8.acceptRanges", laid_unicode_utf8_acceptRanges), ("unicode/utf8.first", laid_unicode_utf8_first)] }
def TextOccursSaid : Prop := textOccursRow.holds Tryd.pinned (OpenSpec.ofChange textOccursSpec)

/-- ITS FALSE NEIGHBOUR: 'it returns false'. Refute it at one input. -/
def textOccursWrong : ChangeSpec := { name := "textOccurs", fn := fun _ => fun
  | [d1, d2, d3, d4] => { results := [.lit (.bool false)], args := [d1, d2, d3, d4] }
  | _ => none }
def TextOccursWrongFalsely : Prop := textOccursRow.holds Tryd.pinned (OpenSpec.ofChange textOccursWrong)

/-- 'qanatlaw02.TextWordy': WHATEVER THE INPUT: true; the input reads as it did. -/
def textWordySpec : ChangeSpec := { name := "textWordy", fn := fun _ => fun
  | [d1, d2, d3] => { results := [.lit (.bool true)], args := [d1, d2, d3] }
  | _ => none }
def textWordyRow : OpenClaim := { program := "ytoilgjlbpimcpaadoor", sum := "be01cbb01ef0d21e9c6d89db5ca352377b96360dfdfa023b47f776298fe326ab", func := "qanat/qanatlaw02.TextWordy", spec := "textWordy", inPlace := ["internal/bytealg.IndexByteString", "internal/bytealg.IndexString", "internal/abi.NoEscape", "internal/bytealg.MakeNoZero"], unfollowed := true, recurses := true, named := ["unicode/utf8.first", "unicode/utf8.acceptRanges", "internal/bytealg.MaxLen"], apart := false, laid := [("unicode/utf8.acceptRanges", laid_unicode_utf8_acceptRanges), ("unicode/utf8.first", laid_unicode_utf8_first)] }
def TextWordySaid : Prop := textWordyRow.holds Tryd.pinned (OpenSpec.ofChange textWordySpec)

/-- ITS FALSE NEIGHBOUR: 'it returns false'. Refute it at one input. -/
def textWordyWrong : ChangeSpec := { name := "textWordy", fn := fun _ => fun
  | [d1, d2, d3] => { results := [.lit (.bool false)], args := [d1, d2, d3] }
  | _ => none }
def TextWordyWrongFalsely : Prop := textWordyRow.holds Tryd.pinned (OpenSpec.ofChange textWordyWrong)

/-- 'qanatlaw02.TextConverts': WHATEVER THE INPUT: true; the input reads as it did. -/
def textConvertsSpec : ChangeSpec := { name := "textConverts", fn := fun _ => fun
  | [d1, d2, d3, d4] => { results := [.lit (.bool true)], args := [d1, d2, d3, d4] }
  | _ => none }
def textConvertsRow : OpenClaim := { program := "ytoilgjlbpimcpaadoor", sum := "be01cbb01ef0d21e9c6d89db5ca352377b96360dfdfa023b47f776298fe326ab", func := "qanat/qanatlaw02.TextConverts", spec := "textConverts", inPlace := ["internal/bytealg.IndexByteString", "internal/bytealg.IndexString"], unfollowed := true, recurses := true, named := ["unicode/utf8.first", "unicode/utf8.acceptRanges", "internal/bytealg.MaxLen"], apart := false, laid := [("unicode/utf8.acceptRanges", laid_unicode_utf8_acceptRanges), ("unicode/utf8.first", laid_unicode_utf8_first)] }
def TextConvertsSaid : Prop := textConvertsRow.holds Tryd.pinned (OpenSpec.ofChange textConvertsSpec)

/-- ITS FALSE NEIGHBOUR: 'it returns false'. Refute it at one input. -/
def textConvertsWrong : ChangeSpec := { name := "textConverts", fn := fun _ => fun
  | [d1, d2, d3, d4] => { results := [.lit (.bool false)], args := [d1, d2, d3, d4] }
  | _ => none }
def TextConvertsWrongFalsely : Prop := textConvertsRow.holds Tryd.pinned (OpenSpec.ofChange textConvertsWrong)

/- THE SECOND FORM. 'bulk': how many values and letters a reading holds, each counted each time it is reached (what is shared counts as often as it is met; a slice's spare places count too). A statement '..UptoSaid' is the law's where the arguments, and the package variables that the reading takes, are together of bulk at most 1048576: NARROWER than '..Said'. Prove '..Said' where nothing that the law and all that it calls make is longer than what came in: it says more and counts as full. Else prove '..UptoSaid'. A law counts once. -/
mutual
def uptoBulk {H : Type} : DataW H → Nat
  | .lit (.string bytes) => bytes.length + 1
  | .lit _ => 1
  | .nil => 1
  | .ptr d => uptoBulk d + 1
  | .slice elems spare => uptoBulkAll elems + uptoBulkAll spare + 1
  | .agg parts => uptoBulkAll parts + 1
  | .iface _ d => uptoBulk d + 1
  | .map entries => uptoBulkEntries entries + 1
  | .held _ => 1
def uptoBulkAll {H : Type} : List (DataW H) → Nat
  | [] => 0
  | d :: r => uptoBulk d + uptoBulkAll r
def uptoBulkEntries {H : Type} : List (Lit × DataW H) → Nat
  | [] => 0
  | x :: r => uptoBulkEntry x + uptoBulkEntries r
def uptoBulkEntry {H : Type} : Lit × DataW H → Nat
  | (.string bytes, d) => bytes.length + uptoBulk d + 1
  | (_, d) => uptoBulk d + 1
 end
def uptoSmall : (H : Type) → List (DataW H) → Bool := fun _ ds => decide (uptoBulkAll ds ≤ 1048576)
def OpenSpec.upto (s : _root_.Go.ChangeSpec) : _root_.Go.OpenSpec := { _root_.Go.OpenSpec.ofChange s with cond := some uptoSmall }

/-- 'qanatlaw02.TextPads', WHERE WHAT IT READS IS OF BULK AT MOST 1048576: true; the input reads as it did. -/
def textPadsUptoRow : OpenClaim := { program := "ytoilgjlbpimcpaadoor", sum := "be01cbb01ef0d21e9c6d89db5ca352377b96360dfdfa023b47f776298fe326ab", func := "qanat/qanatlaw02.TextPads", spec := "textPads", inPlace := ["internal/bytealg.IndexByteString", "internal/bytealg.IndexString", "internal/abi.NoEscape", "internal/bytealg.MakeNoZero"], unfollowed := true, recurses := true, named := ["unicode/utf8.first", "unicode/utf8.acceptRanges", "internal/bytealg.MaxLen"], apart := false, laid := [("unicode/utf8.acceptRanges", laid_unicode_utf8_acceptRanges), ("unicode/utf8.first", laid_unicode_utf8_first)], narrowed := true }
def TextPadsUptoSaid : Prop := textPadsUptoRow.holds Tryd.pinned (OpenSpec.upto textPadsSpec)

/-- 'qanatlaw02.TextParts', WHERE WHAT IT READS IS OF BULK AT MOST 1048576: true; the input reads as it did. -/
def textPartsUptoRow : OpenClaim := { program := "ytoilgjlbpimcpaadoor", sum := "be01cbb01ef0d21e9c6d89db5ca352377b96360dfdfa023b47f776298fe326ab", func := "qanat/qanatlaw02.TextParts", spec := "textParts", inPlace := ["internal/bytealg.IndexByteString", "internal/bytealg.IndexString"], unfollowed := true, recurses := true, named := ["unicode/utf8.first", "unicode/utf8.acceptRanges", "internal/bytealg.MaxLen"], apart := false, laid := [("unicode/utf8.acceptRanges", laid_unicode_utf8_acceptRanges), ("unicode/utf8.first", laid_unicode_utf8_first)], narrowed := true }
def TextPartsUptoSaid : Prop := textPartsUptoRow.holds Tryd.pinned (OpenSpec.upto textPartsSpec)

/-- 'qanatlaw02.TextSearches', WHERE WHAT IT READS IS OF BULK AT MOST 1048576: true; the input reads as it did. -/
def textSearchesUptoRow : OpenClaim := { program := "ytoilgjlbpimcpaadoor", sum := "be01cbb01ef0d21e9c6d89db5ca352377b96360dfdfa023b47f776298fe326ab", func := "qanat/qanatlaw02.TextSearches", spec := "textSearches", inPlace := ["internal/bytealg.IndexByteString", "internal/bytealg.IndexString", "internal/abi.NoEscape"], unfollowed := true, recurses := true, named := ["unicode/utf8.first", "unicode/utf8.acceptRanges", "internal/bytealg.MaxLen"], apart := false, laid := [("unicode/utf8.acceptRanges", laid_unicode_utf8_acceptRanges), ("unicode/utf8.first", laid_unicode_utf8_first)], narrowed := true }
def TextSearchesUptoSaid : Prop := textSearchesUptoRow.holds Tryd.pinned (OpenSpec.upto textSearchesSpec)

/-- 'qanatlaw02.TextCompares', WHERE WHAT IT READS IS OF BULK AT MOST 1048576: true; the input reads as it did. -/
def textComparesUptoRow : OpenClaim := { program := "ytoilgjlbpimcpaadoor", sum := "be01cbb01ef0d21e9c6d89db5ca352377b96360dfdfa023b47f776298fe326ab", func := "qanat/qanatlaw02.TextCompares", spec := "textCompares", inPlace := ["internal/bytealg.IndexByteString", "internal/bytealg.IndexString"], unfollowed := true, recurses := true, named := ["unicode/utf8.first", "unicode/utf8.acceptRanges", "internal/bytealg.MaxLen"], apart := false, laid := [("unicode/utf8.acceptRanges", laid_unicode_utf8_acceptRanges), ("unicode/utf8.first", laid_unicode_utf8_first)], narrowed := true }
def TextComparesUptoSaid : Prop := textComparesUptoRow.holds Tryd.pinned (OpenSpec.upto textComparesSpec)

/-- 'qanatlaw02.TextWords', WHERE WHAT IT READS IS OF BULK AT MOST 1048576: true; the input reads as it did. -/
def textWordsUptoRow : OpenClaim := { program := "ytoilgjlbpimcpaadoor", sum := "be01cbb01ef0d21e9c6d89db5ca352377b96360dfdfa023b47f776298fe326ab", func := "qanat/qanatlaw02.TextWords", spec := "textWords", inPlace := ["internal/bytealg.IndexByteString", "internal/bytealg.IndexString"], unfollowed := true, recurses := true, named := ["unicode/utf8.first", "unicode/utf8.acceptRanges", "internal/bytealg.MaxLen"], apart := false, laid := [("unicode/utf8.acceptRanges", laid_unicode_utf8_acceptRanges), ("unicode/utf8.first", laid_unicode_utf8_first)], narrowed := true }
def TextWordsUptoSaid : Prop := textWordsUptoRow.holds Tryd.pinned (OpenSpec.upto textWordsSpec)

/-- 'qanatlaw02.TextSpaces', WHERE WHAT IT READS IS OF BULK AT MOST 1048576: true; the input reads as it did. -/
def textSpacesUptoRow : OpenClaim := { program := "ytoilgjlbpimcpaadoor", sum := "be01cbb01ef0d21e9c6d89db5ca352377b96360dfdfa023b47f776298fe326ab", func := "qanat/qanatlaw02.TextSpaces", spec := "textSpaces", inPlace := ["internal/bytealg.IndexByteString", "internal/bytealg.IndexString", "internal/abi.NoEscape", "internal/bytealg.MakeNoZero"], unfollowed := true, recurses := true, named := ["unicode/utf8.first", "unicode/utf8.acceptRanges", "internal/bytealg.MaxLen"], apart := false, laid := [("unicode/utf8.acceptRanges", laid_unicode_utf8_acceptRanges), ("unicode/utf8.first", laid_unicode_utf8_first)], narrowed := true }
def TextSpacesUptoSaid : Prop := textSpacesUptoRow.holds Tryd.pinned (OpenSpec.upto textSpacesSpec)

/-- 'qanatlaw02.TextTables', WHERE WHAT IT READS IS OF BULK AT MOST 1048576: true; the input reads as it did. -/
def textTablesUptoRow : OpenClaim := { program := "ytoilgjlbpimcpaadoor", sum := "be01cbb01ef0d21e9c6d89db5ca352377b96360dfdfa023b47f776298fe326ab", func := "qanat/qanatlaw02.TextTables", spec := "textTables", inPlace := ["internal/bytealg.IndexByteString", "internal/bytealg.IndexString"], unfollowed := true, recurses := true, named := ["unicode/utf8.first", "unicode/utf8.acceptRanges", "internal/bytealg.MaxLen"], apart := false, laid := [("unicode/utf8.acceptRanges", laid_unicode_utf8_acceptRanges), ("unicode/utf8.first", laid_unicode_utf8_first)], narrowed := true }
def TextTablesUptoSaid : Prop := textTablesUptoRow.holds Tryd.pinned (OpenSpec.upto textTablesSpec)

/-- 'qanatlaw02.TextBits', WHERE WHAT IT READS IS OF BULK AT MOST 1048576: true; the input reads as it did. -/
def textBitsUptoRow : OpenClaim := { program := "ytoilgjlbpimcpaadoor", sum := "be01cbb01ef0d21e9c6d89db5ca352377b96360dfdfa023b47f776298fe326ab", func := "qanat/qanatlaw02.TextBits", spec := "textBits", inPlace := ["internal/bytealg.IndexByteString", "internal/bytealg.IndexString"], unfollowed := true, recurses := true, named := ["unicode/utf8.first", "unicode/utf8.acceptRanges", "internal/bytealg.MaxLen"], apart := false, laid := [("unicode/utf8.acceptRanges", laid_unicode_utf8_acceptRanges), ("unicode/utf8.first", laid_unicode_utf8_first)], narrowed := true }
def TextBitsUptoSaid : Prop := textBitsUptoRow.holds Tryd.pinned (OpenSpec.upto textBitsSpec)

/-- 'qanatlaw02.TextDigits', WHERE WHAT IT READS IS OF BULK AT MOST 1048576: true; the input reads as it did. -/
def textDigitsUptoRow : OpenClaim := { program := "ytoilgjlbpimcpaadoor", sum := "be01cbb01ef0d21e9c6d89db5ca352377b96360dfdfa023b47f776298fe326ab", func := "qanat/qanatlaw02.TextDigits", spec := "textDigits", inPlace := ["internal/bytealg.IndexByteString", "internal/bytealg.IndexString"], unfollowed := true, recurses := true, named := ["unicode/utf8.first", "unicode/utf8.acceptRanges", "internal/bytealg.MaxLen"], apart := false, laid := [("unicode/utf8.acceptRanges", laid_unicode_utf8_acceptRanges), ("unicode/utf8.first", laid_unicode_utf8_first)], narrowed := true }
def TextDigitsUptoSaid : Prop := textDigitsUptoRow.holds Tryd.pinned (OpenSpec.upto textDigitsSpec)

/-- 'qanatlaw02.TextSplits', WHERE WHAT IT READS IS OF BULK AT MOST 1048576: true; the input reads as it did. -/
def textSplitsUptoRow : OpenClaim := { program := "ytoilgjlbpimcpaadoor", sum := "be01cbb01ef0d21e9c6d89db5ca352377b96360dfdfa023b47f776298fe326ab", func := "qanat/qanatlaw02.TextSplits", spec := "textSplits", inPlace := ["internal/bytealg.IndexByteString", "internal/bytealg.IndexString"], unfollowed := true, recurses := true, named := ["unicode/utf8.first", "unicode/utf8.acceptRanges", "internal/bytealg.MaxLen"], apart := false, laid := [("unicode/utf8.acceptRanges", laid_unicode_utf8_acceptRanges), ("unicode/utf8.first", laid_unicode_utf8_first)], narrowed := true }
def TextSplitsUptoSaid : Prop := textSplitsUptoRow.holds Tryd.pinned (OpenSpec.upto textSplitsSpec)

/-- 'qanatlaw02.TextOccurs', WHERE WHAT IT READS IS OF BULK AT MOST 1048576: true; the input reads as it did. -/
def textOccursUptoRow : OpenClaim := { program := "ytoilgjlbpimcpaadoor", sum := "be01cbb01ef0d21e9c6d89db5ca352377b96360dfdfa023b47f776298fe326ab", func := "qanat/qanatlaw02.TextOccurs", spec := "textOccurs", inPlace := ["internal/bytealg.IndexByteString", "internal/bytealg.IndexString", "internal/abi.NoEscape"], unfollowed := true, recurses := true, named := ["unicode/utf8.first", "unicode/utf8.acceptRanges", "internal/bytealg.MaxLen"], apart := false, laid := [("unicode/utf8.acceptRanges", laid_unicode_utf8_acceptRanges), ("unicode/utf8.first", laid_unicode_utf8_first)], narrowed := true }
def TextOccursUptoSaid : Prop := textOccursUptoRow.holds Tryd.pinned (OpenSpec.upto textOccursSpec)

/-- 'qanatlaw02.TextWordy', WHERE WHAT IT READS IS OF BULK AT MOST 1048576: true; the input reads as it did. -/
def textWordyUptoRow : OpenClaim := { program := "ytoilgjlbpimcpaadoor", sum := "be01cbb01ef0d21e9c6d89db5ca352377b96360dfdfa023b47f776298fe326ab", func := "qanat/qanatlaw02.TextWordy", spec := "textWordy", inPlace := ["internal/bytealg.IndexByteString", "internal/bytealg.IndexString", "internal/abi.NoEscape", "internal/bytealg.MakeNoZero"], unfollowed := true, recurses := true, named := ["unicode/utf8.first", "unicode/utf8.acceptRanges", "internal/bytealg.MaxLen"], apart := false, laid := [("unicode/utf8.acceptRanges", laid_unicode_utf8_acceptRanges), ("unicode/utf8.first", laid_unicode_utf8_first)], narrowed := true }
def TextWordyUptoSaid : Prop := textWordyUptoRow.holds Tryd.pinned (OpenSpec.upto textWordySpec)

/-- 'qanatlaw02.TextConverts', WHERE WHAT IT READS IS OF BULK AT MOST 1048576: true; the input reads as it did. -/
def textConvertsUptoRow : OpenClaim := { program := "ytoilgjlbpimcpaadoor", sum := "be01cbb01ef0d21e9c6d89db5ca352377b96360dfdfa023b47f776298fe326ab", func := "qanat/qanatlaw02.TextConverts", spec := "textConverts", inPlace := ["internal/bytealg.IndexByteString", "internal/bytealg.IndexString"], unfollowed := true, recurses := true, named := ["unicode/utf8.first", "unicode/utf8.acceptRanges", "internal/bytealg.MaxLen"], apart := false, laid := [("unicode/utf8.acceptRanges", laid_unicode_utf8_acceptRanges), ("unicode/utf8.first", laid_unicode_utf8_first)], narrowed := true }
def TextConvertsUptoSaid : Prop := textConvertsUptoRow.holds Tryd.pinned (OpenSpec.upto textConvertsSpec)

end Rows
end Go.Proofs.YtoilgjlbpimcpaaDoor
