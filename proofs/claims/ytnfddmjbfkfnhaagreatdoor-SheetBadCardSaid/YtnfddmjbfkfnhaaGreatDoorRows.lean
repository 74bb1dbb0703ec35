/-
  NARROWER THAN 'FOR EVERY INPUT', by the rows' own cells (each row's printed sentence says how): SheetNames: laid · SheetReads: laid · SheetBad: laid · SheetKept: laid · SheetValid: laid · SheetOne: laid.
  DERIVED. THE GIVEN ROWS OF THIS SEAT. 6 by the template 'for every input the law returns true; each argument reads behind the call as it read before'; 0 by the template 'total and deterministic' (their statements: YtnfddmjbfkfnhaaGreatDoorTotals.lean).
  GIVEN WITH THE SEED: the statements are not yours to turn. If you find one false, say at which input.
  Laid BY PROGRAM, IN A SANDBOX (cutbox-rows.mjs): the forced cells as the released guide's own fill.sh prints them over the translation 1f965a30bf236ae6… (all of the seat's roots in one cut). By AI agents, Wed Nov 11 2026. No macro, syntax, notation, axiom, sorry.
-/
import Derived.Test.YtnfddmjbfkfnhaaGreatDoorChecked
import GoSem.PinnedTables
import GoSem.Claim
import GoSem.ClaimJoined
import GoSem.ClaimMapViews
import Derived.JoinedTies
import Derived.KernelRfl
namespace Go.Proofs.YtnfddmjbfkfnhaaGreatDoor
/- THE CELL 'sum', in the pinned program and in every row, IS THE sha256 OF THE DUMP (.gsa) THAT YtnfddmjbfkfnhaaGreatDoorProg.lean LOADS. Nothing in Lean hashes anything: it is a label: what it is worth is what the hold of that sum in a sandbox is worth. -/
noncomputable def Tryz.pinned : Pinned := { name := "ytnfddmjbfkfnhaagreatdoor", sum := "1f965a30bf236ae69accad9e9e08b5709e53d4734b04df8747eb9d9eb4323a7f", checked := Tryz.checked }
namespace Rows
def none {H : Type} : Left H := { results := [], args := [] }

/- WHAT THE LISTED PACKAGE-LEVEL VARIABLES READ AS WHEN THE CALL BEGINS. Each datum BY PROGRAM (the guide's laid-datum.mjs) off the statement by which the dump's own 'gosem.cut.vars' lays the variable. In a bare row this is a premise. The card (YtnfddmjbfkfnhaaGreatDoorCards.lean) ties it to the program's text. -/
def laid_unicode_utf8_acceptRanges {H : Type} : DataW H := .agg [.agg [.lit (.int .u8 128), .lit (.int .u8 191)], .agg [.lit (.int .u8 160), .lit (.int .u8 191)], .agg [.lit (.int .u8 128), .lit (.int .u8 159)], .agg [.lit (.int .u8 144), .lit (.int .u8 191)], .agg [.lit (.int .u8 128), .lit (.int .u8 143)], .agg [.lit (.int .u8 0), .lit (.int .u8 0)], .agg [.lit (.int .u8 0), .lit (.int .u8 0)], .agg [.lit (.int .u8 0), .lit (.int .u8 0)], .agg [.lit (.int .u8 0), .lit (.int .u8 0)], .agg [.lit (.int .u8 0), .lit (.int .u8 0)], .agg [.lit (.int .u8 0), .lit (.int .u8 0)], .agg [.lit (.int .u8 0), .lit (.int .u8 0)], .agg [.lit (.int .u8 0), .lit (.int .u8 0)], .agg [.lit (.int .u8 0), .lit (.int .u8 0)], .agg [.lit (.int .u8 0), .lit (.int .u8 0)], .agg [.lit (.int .u8 0), .lit (.int .u8 0)]]
def laid_vitrine_token_marks {H : Type} : DataW H := .agg [.lit (.int .u8 0), .lit (.int .u8 0), .lit (.int .u8 0), .lit (.int .u8 0), .lit (.int .u8 0), .lit (.int .u8 0), .lit (.int .u8 0), .lit (.int .u8 0), .lit (.int .u8 0), .lit (.int .u8 0), .lit (.int .u8 0), .lit (.int .u8 0), .lit (.int .u8 0), .lit (.int .u8 0), .lit (.int .u8 0), .lit (.int .u8 0), .lit (.int .u8 0), .lit (.int .u8 0), .lit (.int .u8 0), .lit (.int .u8 0), .lit (.int .u8 0), .lit (.int .u8 0), .lit (.int .u8 0), .lit (.int .u8 0), .lit (.int .u8 0), .lit (.int .u8 0), .lit (.int .u8 0), .lit (.int .u8 0), .lit (.int .u8 0), .lit (.int .u8 0), .lit (.int .u8 0), .lit (.int .u8 0), .lit (.int .u8 0), .lit (.int .u8 0), .lit (.int .u8 0), .lit (.int .u8 0), .lit (.int .u8 0), .lit (.int .u8 0), .lit (.int .u8 0), .lit (.int .u8 0), .lit (.int .u8 21), .lit (.int .u8 22), .lit (.int .u8 0), .lit (.int .u8 0), .lit (.int .u8 18), .lit (.int .u8 0), .lit (.int .u8 0), .lit (.int .u8 0), .lit (.int .u8 0), .lit (.int .u8 0), .lit (.int .u8 0), .lit (.int .u8 0), .lit (.int .u8 0), .lit (.int .u8 0), .lit (.int .u8 0), .lit (.int .u8 0), .lit (.int .u8 0), .lit (.int .u8 0), .lit (.int .u8 16), .lit (.int .u8 17), .lit (.int .u8 0), .lit (.int .u8 0), .lit (.int .u8 0), .lit (.int .u8 0), .lit (.int .u8 0), .lit (.int .u8 0), .lit (.int .u8 0), .lit (.int .u8 0), .lit (.int .u8 0), .lit (.int .u8 0), .lit (.int .u8 0), .lit (.int .u8 0), .lit (.int .u8 0), .lit (.int .u8 0), .lit (.int .u8 0), .lit (.int .u8 0), .lit (.int .u8 0), .lit (.int .u8 0), .lit (.int .u8 0), .lit (.int .u8 0), .lit (.int .u8 0), .lit (.int .u8 0), .lit (.int .u8 0), .lit (.int .u8 0), .lit (.int .u8 0), .lit (.int .u8 0), .lit (.int .u8 0), .lit (.int .u8 0), .lit (.int .u8 0), .lit (.int .u8 0), .lit (.int .u8 0), .lit (.int .u8 19), .lit (.int .u8 0), .lit (.int .u8 20), .lit (.int .u8 0), .lit (.int .u8 0), .lit (.int .u8 0), .lit (.int .u8 0), .lit (.int .u8 0), .lit (.int .u8 0), .lit (.int .u8 0), .lit (.int .u8 0), .lit (.int .u8 0), .lit (.int .u8 0), .lit (.int .u8 0), .lit (.int .u8 0), .lit (.int .u8 0), .lit (.int .u8 0), .lit (.int .u8 0), .lit (.int .u8 0), .lit (.int .u8 0), .lit (.int .u8 0), .lit (.int .u8 0), .lit (.int .u8 0), .lit (.int .u8 0), .lit (.int .u8 0), .lit (.int .u8 0), .lit (.int .u8 0), .lit (.int .u8 0), .lit (.int .u8 0), .lit (.int .u8 0), .lit (.int .u8 0), .lit (.int .u8 0), .lit (.int .u8 23), .lit (.int .u8 0), .lit (.int .u8 24)]
def laid_vitrine_seltext_names {H : Type} : DataW H := .agg [.lit (.string [108, 105, 110, 107]), .lit (.string [118, 105, 115, 105, 116, 101, 100]), .lit (.string [97, 110, 121, 45, 108, 105, 110, 107]), .lit (.string [114, 111, 111, 116]), .lit (.string [101, 109, 112, 116, 121]), .lit (.string [110, 116, 104, 45, 99, 104, 105, 108, 100]), .lit (.string [110, 116, 104, 45, 108, 97, 115, 116, 45, 99, 104, 105, 108, 100]), .lit (.string [105, 115]), .lit (.string [119, 104, 101, 114, 101]), .lit (.string [110, 111, 116]), .lit (.string [104, 97, 115])]
/-- One of Go's own tables, pinned by name: the form's constant. -/
def laid_unicode_utf8_first : DataW Unit := Go.Pinned.utf8First

/-- 'vitrinelaw11.SheetNames': WHATEVER THE INPUT: true; the input reads as it did. -/
def sheetNamesSpec : ChangeSpec := { name := "sheetNames", fn := fun _ => fun
  | [] => { results := [.lit (.bool true)], args := [] }
  | _ => none }
def sheetNamesRow : OpenClaim := { program := "ytnfddmjbfkfnhaagreatdoor", sum := "1f965a30bf236ae69accad9e9e08b5709e53d4734b04df8747eb9d9eb4323a7f", func := "vitrine/vitrinelaw11.SheetNames", spec := "sheetNames", inPlace := ["internal/bytealg.IndexByteString", "internal/bytealg.IndexString"], unfollowed := true, recurses := true, named := ["internal/bytealg.MaxLen", "vitrine/token.marks", "unicode/utf8.first", "unicode/utf8.acceptRanges", "vitrine/seltext.names"], plainKeys := false, apart := false, laid := [("unicode/utf8.acceptRanges", laid_unicode_utf8_acceptRanges), ("vitrine/token.marks", laid_vitrine_token_marks), ("vitrine/seltext.names", laid_vitrine_seltext_names), ("unicode/utf8.first", laid_unicode_utf8_first)] }
def SheetNamesSaid : Prop := sheetNamesRow.holds Tryz.pinned (OpenSpec.ofChange sheetNamesSpec)

/-- ITS FALSE NEIGHBOUR: 'it returns false'. Refute it at one input. -/
def sheetNamesWrong : ChangeSpec := { name := "sheetNames", fn := fun _ => fun
  | [] => { results := [.lit (.bool false)], args := [] }
  | _ => none }
def SheetNamesWrongFalsely : Prop := sheetNamesRow.holds Tryz.pinned (OpenSpec.ofChange sheetNamesWrong)

/-- 'vitrinelaw11.SheetReads': WHATEVER THE INPUT: true; the input reads as it did. -/
def sheetReadsSpec : ChangeSpec := { name := "sheetReads", fn := fun _ => fun
  | [d] => { results := [.lit (.bool true)], args := [d] }
  | _ => none }
def sheetReadsRow : OpenClaim := { program := "ytnfddmjbfkfnhaagreatdoor", sum := "1f965a30bf236ae69accad9e9e08b5709e53d4734b04df8747eb9d9eb4323a7f", func := "vitrine/vitrinelaw11.SheetReads", spec := "sheetReads", inPlace := ["internal/bytealg.IndexByteString", "internal/bytealg.IndexString"], unfollowed := true, recurses := true, named := ["internal/bytealg.MaxLen", "vitrine/token.marks", "unicode/utf8.first", "unicode/utf8.acceptRanges", "vitrine/seltext.names"], plainKeys := false, apart := false, laid := [("unicode/utf8.acceptRanges", laid_unicode_utf8_acceptRanges), ("vitrine/token.marks", laid_vitrine_token_marks), ("vitrine/seltext.names", laid_vitrine_seltext_names), ("unicode/utf8.first", laid_unicode_utf8_first)] }
def SheetReadsSaid : Prop := sheetReadsRow.holds Tryz.pinned (OpenSpec.ofChange sheetReadsSpec)

/-- ITS FALSE NEIGHBOUR: 'it returns false'. Refute it at one input. -/
def sheetReadsWrong : ChangeSpec := { name := "sheetReads", fn := fun _ => fun
  | [d] => { results := [.lit (.bool false)], args := [d] }
  | _ => none }
def SheetReadsWrongFalsely : Prop := sheetReadsRow.holds Tryz.pinned (OpenSpec.ofChange sheetReadsWrong)

/-- 'vitrinelaw11.SheetBad': WHATEVER THE INPUT: true; the input reads as it did. -/
def sheetBadSpec : ChangeSpec := { name := "sheetBad", fn := fun _ => fun
  | [d] => { results := [.lit (.bool true)], args := [d] }
  | _ => none }
def sheetBadRow : OpenClaim := { program := "ytnfddmjbfkfnhaagreatdoor", sum := "1f965a30bf236ae69accad9e9e08b5709e53d4734b04df8747eb9d9eb4323a7f", func := "vitrine/vitrinelaw11.SheetBad", spec := "sheetBad", inPlace := ["internal/bytealg.IndexByteString", "internal/bytealg.IndexString"], unfollowed := true, recurses := true, named := ["internal/bytealg.MaxLen", "vitrine/token.marks", "unicode/utf8.first", "unicode/utf8.acceptRanges", "vitrine/seltext.names"], plainKeys := false, apart := false, laid := [("unicode/utf8.acceptRanges", laid_unicode_utf8_acceptRanges), ("vitrine/token.marks", laid_vitrine_token_marks), ("vitrine/seltext.names", laid_vitrine_seltext_names), ("unicode/utf8.first", laid_unicode_utf8_first)] }
def SheetBadSaid : Prop := sheetBadRow.holds Tryz.pinned (OpenSpec.ofChange sheetBadSpec)

/-- ITS FALSE NEIGHBOUR: 'it returns false'. Refute it at one input. -/
def sheetBadWrong : ChangeSpec := { name := "sheetBad", fn := fun _ => fun
  | [d] => { results := [.lit (.bool false)], args := [d] }
  | _ => none }
def SheetBadWrongFalsely : Prop := sheetBadRow.holds Tryz.pinned (OpenSpec.ofChange sheetBadWrong)

/-- 'vitrinelaw11.SheetKept': WHATEVER THE INPUT: true; the input reads as it did. -/
def sheetKeptSpec : ChangeSpec := { name := "sheetKept", fn := fun _ => fun
  | [d1, d2, d3] => { results := [.lit (.bool true)], args := [d1, d2, d3] }
  | _ => none }
def sheetKeptRow : OpenClaim := { program := "ytnfddmjbfkfnhaagreatdoor", sum := "1f965a30bf236ae69accad9e9e08b5709e53d4734b04df8747eb9d9eb4323a7f", func := "vitrine/vitrinelaw11.SheetKept", spec := "sheetKept", inPlace := ["internal/bytealg.IndexByteString", "internal/bytealg.IndexString"], unfollowed := true, recurses := true, named := ["internal/bytealg.MaxLen", "vitrine/token.marks", "unicode/utf8.first", "unicode/utf8.acceptRanges", "vitrine/seltext.names"], plainKeys := false, apart := false, laid := [("unicode/utf8.acceptRanges", laid_unicode_utf8_acceptRanges), ("vitrine/token.marks", laid_vitrine_token_marks), ("vitrine/seltext.names", laid_vitrine_seltext_names), ("unicode/utf8.first", laid_unicode_utf8_first)] }
def SheetKeptSaid : Prop := sheetKeptRow.holds Tryz.pinned (OpenSpec.ofChange sheetKeptSpec)

/-- ITS FALSE NEIGHBOUR: 'it returns false'. Refute it at one input. -/
def sheetKeptWrong : ChangeSpec := { name := "sheetKept", fn := fun _ => fun
  | [d1, d2, d3] => { results := [.lit (.bool false)], args := [d1, d2, d3] }
  | _ => none }
def SheetKeptWrongFalsely : Prop := sheetKeptRow.holds Tryz.pinned (OpenSpec.ofChange sheetKeptWrong)

/-- 'vitrinelaw11.SheetValid': WHATEVER THE INPUT: true; the input reads as it did. -/
def sheetValidSpec : ChangeSpec := { name := "sheetValid", fn := fun _ => fun
  | [d] => { results := [.lit (.bool true)], args := [d] }
  | _ => none }
def sheetValidRow : OpenClaim := { program := "ytnfddmjbfkfnhaagreatdoor", sum := "1f965a30bf236ae69accad9e9e08b5709e53d4734b04df8747eb9d9eb4323a7f", func := "vitrine/vitrinelaw11.SheetValid", spec := "sheetValid", inPlace := ["internal/bytealg.IndexByteString", "internal/bytealg.IndexString"], unfollowed := true, recurses := true, named := ["internal/bytealg.MaxLen", "vitrine/token.marks", "unicode/utf8.first", "unicode/utf8.acceptRanges", "vitrine/seltext.names"], plainKeys := false, apart := false, laid := [("unicode/utf8.acceptRanges", laid_unicode_utf8_acceptRanges), ("vitrine/token.marks", laid_vitrine_token_marks), ("vitrine/seltext.names", laid_vitrine_seltext_names), ("unicode/utf8.first", laid_unicode_utf8_first)] }
def SheetValidSaid : Prop := sheetValidRow.holds Tryz.pinned (OpenSpec.ofChange sheetValidSpec)

/-- ITS FALSE NEIGHBOUR: 'it returns false'. Refute it at one input. -/
def sheetValidWrong : ChangeSpec := { name := "sheetValid", fn := fun _ => fun
  | [d] => { results := [.lit (.bool false)], args := [d] }
  | _ => none }
def SheetValidWrongFalsely : Prop := sheetValidRow.holds Tryz.pinned (OpenSpec.ofChange sheetValidWrong)

/-- 'vitrinelaw11.SheetOne': WHATEVER THE INPUT: true; the input reads as it did. -/
def sheetOneSpec : ChangeSpec := { name := "sheetOne", fn := fun _ => fun
  | [d] => { results := [.lit (.bool true)], args := [d] }
  | _ => none }
def sheetOneRow : OpenClaim := { program := "ytnfddmjbfkfnhaagreatdoor", sum := "1f965a30bf236ae69accad9e9e08b5709e53d4734b04df8747eb9d9eb4323a7f", func := "vitrine/vitrinelaw11.SheetOne", spec := "sheetOne", inPlace := ["internal/bytealg.IndexByteString", "internal/bytealg.IndexString"], unfollowed := true, recurses := true, named := ["internal/bytealg.MaxLen", "vitrine/token.marks", "unicode/utf8.first", "unicode/utf8.acceptRanges", "vitrine/seltext.names"], plainKeys := false, apart := false, laid := [("unicode/utf8.acceptRanges", laid_unicode_utf8_acceptRanges), ("vitrine/token.marks", laid_vitrine_token_marks), ("vitrine/seltext.names", laid_vitrine_seltext_names), ("unicode/utf8.first", laid_unicode_utf8_first)] }
def SheetOneSaid : Prop := sheetOneRow.holds Tryz.pinned (OpenSpec.ofChange sheetOneSpec)

/-- ITS FALSE NEIGHBOUR: 'it returns false'. Refute it at one input. -/
def sheetOneWrong : ChangeSpec := { name := "sheetOne", fn := fun _ => fun
  | [d] => { results := [.lit (.bool false)], args := [d] }
  | _ => none }
def SheetOneWrongFalsely : Prop := sheetOneRow.holds Tryz.pinned (OpenSpec.ofChange sheetOneWrong)

/- THE SECOND FORM. 'bulk': how many values and letters a reading holds, each counted each time it is reached (what is shared counts as often as it is met; a slice's spare places count too). A statement '..UptoSaid' is the law's where the arguments, and the package variables that the reading takes, are together of bulk at most 1048576: NARROWER than '..Said'. Prove '..Said' where nothing that the law and all that it calls make is longer than what came in: it says more and counts as full. Else prove '..UptoSaid'. A law counts once. -/
mutual
def uptoBulk {H : Type} : DataW H → Nat
  | .lit (.string bytes) => bytes.length + 1
  | .lit _ => 1
  | .nil => 1
  | .ptr d => uptoBulk d + 1
  | .slice elems spare => uptoBulkAll elems + uptoBulkAll spare + 1
  | .agg parts => uptoBulkAll parts + 1
  | .iface _ d => uptoBulk d + 1
  | .map entries => uptoBulkEntries entries + 1
  | .held _ => 1
def uptoBulkAll {H : Type} : List (DataW H) → Nat
  | [] => 0
  | d :: r => uptoBulk d + uptoBulkAll r
def uptoBulkEntries {H : Type} : List (Lit × DataW H) → Nat
  | [] => 0
  | x :: r => uptoBulkEntry x + uptoBulkEntries r
def uptoBulkEntry {H : Type} : Lit × DataW H → Nat
  | (.string bytes, d) => bytes.length + uptoBulk d + 1
  | (_, d) => uptoBulk d + 1
 end
def uptoSmall : (H : Type) → List (DataW H) → Bool := fun _ ds => decide (uptoBulkAll ds ≤ 1048576)
def OpenSpec.upto (s : _root_.Go.ChangeSpec) : _root_.Go.OpenSpec := { _root_.Go.OpenSpec.ofChange s with cond := some uptoSmall }

/-- 'vitrinelaw11.SheetNames', WHERE WHAT IT READS IS OF BULK AT MOST 1048576: true; the input reads as it did. -/
def sheetNamesUptoRow : OpenClaim := { program := "ytnfddmjbfkfnhaagreatdoor", sum := "1f965a30bf236ae69accad9e9e08b5709e53d4734b04df8747eb9d9eb4323a7f", func := "vitrine/vitrinelaw11.SheetNames", spec := "sheetNames", inPlace := ["internal/bytealg.IndexByteString", "internal/bytealg.IndexString"], unfollowed := true, recurses := true, named := ["internal/bytealg.MaxLen", "vitrine/token.marks", "unicode/utf8.first", "unicode/utf8.acceptRanges", "vitrine/seltext.names"], plainKeys := false, apart := false, laid := [("unicode/utf8.acceptRanges", laid_unicode_utf8_acceptRanges), ("vitrine/token.marks", laid_vitrine_token_marks), ("vitrine/seltext.names", laid_vitrine_seltext_names), ("unicode/utf8.first", laid_unicode_utf8_first)], narrowed := true }
def SheetNamesUptoSaid : Prop := sheetNamesUptoRow.holds Tryz.pinned (OpenSpec.upto sheetNamesSpec)

/-- 'vitrinelaw11.SheetReads', WHERE WHAT IT READS IS OF BULK AT MOST 1048576: true; the input reads as it did. -/
def sheetReadsUptoRow : OpenClaim := { program := "ytnfddmjbfkfnhaagreatdoor", sum := "1f965a30bf236ae69accad9e9e08b5709e53d4734b04df8747eb9d9eb4323a7f", func := "vitrine/vitrinelaw11.SheetReads", spec := "sheetReads", inPlace := ["internal/bytealg.IndexByteString", "internal/bytealg.IndexString"], unfollowed := true, recurses := true, named := ["internal/bytealg.MaxLen", "vitrine/token.marks", "unicode/utf8.first", "unicode/utf8.acceptRanges", "vitrine/seltext.names"], plainKeys := false, apart := false, laid := [("unicode/utf8.acceptRanges", laid_unicode_utf8_acceptRanges), ("vitrine/token.marks", laid_vitrine_token_marks), ("vitrine/seltext.names", laid_vitrine_seltext_names), ("unicode/utf8.first", laid_unicode_utf8_first)], narrowed := true }
def SheetReadsUptoSaid : Prop := sheetReadsUptoRow.holds Tryz.pinned (OpenSpec.upto sheetReadsSpec)

/-- 'vitrinelaw11.SheetBad', WHERE WHAT IT READS IS OF BULK AT MOST 1048576: true; the input reads as it did. -/
def sheetBadUptoRow : OpenClaim := { program := "ytnfddmjbfkfnhaagreatdoor", sum := "1f965a30bf236ae69accad9e9e08b5709e53d4734b04df8747eb9d9eb4323a7f", func := "vitrine/vitrinelaw11.SheetBad", spec := "sheetBad", inPlace := ["internal/bytealg.IndexByteString", "internal/bytealg.IndexString"], unfollowed := true, recurses := true, named := ["internal/bytealg.MaxLen", "vitrine/token.marks", "unicode/utf8.first", "unicode/utf8.acceptRanges", "vitrine/seltext.names"], plainKeys := false, apart := false, laid := [("unicode/utf8.acceptRanges", laid_unicode_utf8_acceptRanges), ("vitrine/token.marks", laid_vitrine_token_marks), ("vitrine/seltext.names", laid_vitrine_seltext_names), ("unicode/utf8.first", laid_unicode_utf8_first)], narrowed := true }
def SheetBadUptoSaid : Prop := sheetBadUptoRow.holds Tryz.pinned (OpenSpec.upto sheetBadSpec)

/-- 'vitrinelaw11.SheetKept', WHERE WHAT IT READS IS OF BULK AT MOST 1048576: true; the input reads as it did. -/
def sheetKeptUptoRow : OpenClaim := { program := "ytnfddmjbfkfnhaagreatdoor", sum := "1f965a30bf236ae69accad9e9e08b5709e53d4734b04df8747eb9d9eb4323a7f", func := "vitrine/vitrinelaw11.SheetKept", spec := "sheetKept", inPlace := ["internal/bytealg.IndexByteString", "internal/bytealg.IndexString"], unfollowed := true, recurses := true, named := ["internal/bytealg.MaxLen", "vitrine/token.marks", "unicode/utf8.first", "unicode/utf8.acceptRanges", "vitrine/seltext.names"], plainKeys := false, apart := false, laid := [("unicode/utf8.acceptRanges", laid_unicode_utf8_acceptRanges), ("vitrine/token.marks", laid_vitrine_token_marks), ("vitrine/seltext.names", laid_vitrine_seltext_names), ("unicode/utf8.first", laid_unicode_utf8_first)], narrowed := true }
def SheetKeptUptoSaid : Prop := sheetKeptUptoRow.holds Tryz.pinned (OpenSpec.upto sheetKeptSpec)

/-- 'vitrinelaw11.SheetValid', WHERE WHAT IT READS IS OF BULK AT MOST 1048576: true; the input reads as it did. -/
def sheetValidUptoRow : OpenClaim := { program := "ytnfddmjbfkfnhaagreatdoor", sum := "1f965a30bf236ae69accad9e9e08b5709e53d4734b04df8747eb9d9eb4323a7f", func := "vitrine/vitrinelaw11.SheetValid", spec := "sheetValid", inPlace := ["internal/bytealg.IndexByteString", "internal/bytealg.IndexString"], unfollowed := true, recurses := true, named := ["internal/bytealg.MaxLen", "vitrine/token.marks", "unicode/utf8.first", "unicode/utf8.acceptRanges", "vitrine/seltext.names"], plainKeys := false, apart := false, laid := [("unicode/utf8.acceptRanges", laid_unicode_utf8_acceptRanges), ("vitrine/token.marks", laid_vitrine_token_marks), ("vitrine/seltext.names", laid_vitrine_seltext_names), ("unicode/utf8.first", laid_unicode_utf8_first)], narrowed := true }
def SheetValidUptoSaid : Prop := sheetValidUptoRow.holds Tryz.pinned (OpenSpec.upto sheetValidSpec)

/-- 'vitrinelaw11.SheetOne', WHERE WHAT IT READS IS OF BULK AT MOST 1048576: true; the input reads as it did. -/
def sheetOneUptoRow : OpenClaim := { program := "ytnfddmjbfkfnhaagreatdoor", sum := "1f965a30bf236ae69accad9e9e08b5709e53d4734b04df8747eb9d9eb4323a7f", func := "vitrine/vitrinelaw11.SheetOne", spec := "sheetOne", inPlace := ["internal/bytealg.IndexByteString", "internal/bytealg.IndexString"], unfollowed := true, recurses := true, named := ["internal/bytealg.MaxLen", "vitrine/token.marks", "unicode/utf8.first", "unicode/utf8.acceptRanges", "vitrine/seltext.names"], plainKeys := false, apart := false, laid := [("unicode/utf8.acceptRanges", laid_unicode_utf8_acceptRanges), ("vitrine/token.marks", laid_vitrine_token_marks), ("vitrine/seltext.names", laid_vitrine_seltext_names), ("unicode/utf8.first", laid_unicode_utf8_first)], narrowed := true }
def SheetOneUptoSaid : Prop := sheetOneUptoRow.holds Tryz.pinned (OpenSpec.upto sheetOneSpec)

end Rows
end Go.Proofs.YtnfddmjbfkfnhaaGreatDoor
