/-
  NARROWER THAN 'FOR EVERY INPUT', by the rows' own cells (each row's printed sentence says how): FnNoGap: laid · FnFlowBack: laid · FnExactRegisterOk: laid · FnExactIssue: laid · FnExactVoid: laid · FnExactShowPaper: laid · FnExactFindPaper: laid · FnExactParseFlow: laid · FnExactShowFlow: laid · FnExactNeeded: laid.
  DERIVED. THE GIVEN ROWS OF THIS SEAT. 10 by the template 'for every input the law returns true; each argument reads behind the call as it read before'; 0 by the template 'total and deterministic' (their statements: YtdhpadcihlmhiaaDoorTotals.lean).
  GIVEN WITH THE SEED: the statements are not yours to turn. If you find one false, say at which input.
  Laid BY PROGRAM, IN A SANDBOX (cutbox-rows.mjs): the forced cells as the released guide's own fill.sh prints them over the translation e53585579f0f0f60… (all of the seat's roots in one cut). By AI agents, Wed Nov 11 2026. No macro, syntax, notation, axiom, sorry.
-/
import Derived.Test.YtdhpadcihlmhiaaDoorChecked
import GoSem.PinnedTables
import GoSem.Claim
import GoSem.ClaimJoined
import GoSem.ClaimMapViews
import Derived.JoinedTies
import Derived.KernelRfl
namespace Go.Proofs.YtdhpadcihlmhiaaDoor
/- THE CELL 'sum', in the pinned program and in every row, IS THE sha256 OF THE DUMP (.gsa) THAT YtdhpadcihlmhiaaDoorProg.lean LOADS. Nothing in Lean hashes anything: it is a label: what it is worth is what the hold of that sum in a sandbox is worth. -/
noncomputable def Tryd.pinned : Pinned := { name := "ytdhpadcihlmhiaadoor", sum := "e53585579f0f0f605b454f7f57ca33f6e340151a926ac8d9431983dc17827c8b", checked := Tryd.checked }
namespace Rows
def none {H : Type} : Left H := { results := [], args := [] }

/- WHAT THE LISTED PACKAGE-LEVEL VARIABLES READ AS WHEN THE CALL BEGINS. Each datum BY PROGRAM (the guide's laid-datum.mjs) off the statement by which the dump's own 'gosem.cut.vars' lays the variable. In a bare row this is a premise. The card (YtdhpadcihlmhiaaDoorCards.lean) ties it to the program's text. -/
def laid_math_bits_deBruijn32tab {H : Type} : DataW H := .agg [.lit (.int .u8 0), .lit (.int .u8 1), .lit (.int .u8 28), .lit (.int .u8 2), .lit (.int .u8 29), .lit (.int .u8 14), .lit (.int .u8 24), .lit (.int .u8 3), .lit (.int .u8 30), .lit (.int .u8 22), .lit (.int .u8 20), .lit (.int .u8 15), .lit (.int .u8 25), .lit (.int .u8 17), .lit (.int .u8 4), .lit (.int .u8 8), .lit (.int .u8 31), .lit (.int .u8 27), .lit (.int .u8 13), .lit (.int .u8 23), .lit (.int .u8 21), .lit (.int .u8 19), .lit (.int .u8 16), .lit (.int .u8 7), .lit (.int .u8 26), .lit (.int .u8 12), .lit (.int .u8 18), .lit (.int .u8 6), .lit (.int .u8 11), .lit (.int .u8 5), .lit (.int .u8 10), .lit (.int .u8 9)]
def laid_math_bits_deBruijn64tab {H : Type} : DataW H := .agg [.lit (.int .u8 0), .lit (.int .u8 1), .lit (.int .u8 56), .lit (.int .u8 2), .lit (.int .u8 57), .lit (.int .u8 49), .lit (.int .u8 28), .lit (.int .u8 3), .lit (.int .u8 61), .lit (.int .u8 58), .lit (.int .u8 42), .lit (.int .u8 50), .lit (.int .u8 38), .lit (.int .u8 29), .lit (.int .u8 17), .lit (.int .u8 4), .lit (.int .u8 62), .lit (.int .u8 47), .lit (.int .u8 59), .lit (.int .u8 36), .lit (.int .u8 45), .lit (.int .u8 43), .lit (.int .u8 51), .lit (.int .u8 22), .lit (.int .u8 53), .lit (.int .u8 39), .lit (.int .u8 33), .lit (.int .u8 30), .lit (.int .u8 24), .lit (.int .u8 18), .lit (.int .u8 12), .lit (.int .u8 5), .lit (.int .u8 63), .lit (.int .u8 55), .lit (.int .u8 48), .lit (.int .u8 27), .lit (.int .u8 60), .lit (.int .u8 41), .lit (.int .u8 37), .lit (.int .u8 16), .lit (.int .u8 46), .lit (.int .u8 35), .lit (.int .u8 44), .lit (.int .u8 21), .lit (.int .u8 52), .lit (.int .u8 32), .lit (.int .u8 23), .lit (.int .u8 11), .lit (.int .u8 54), .lit (.int .u8 26), .lit (.int .u8 40), .lit (.int .u8 15), .lit (.int .u8 34), .lit (.int .u8 20), .lit (.int .u8 31), .lit (.int .u8 10), .lit (.int .u8 25), .lit (.int .u8 14), .lit (.int .u8 19), .lit (.int .u8 9), .lit (.int .u8 13), .lit (.int .u8 8), .lit (.int .u8 7), .lit (.int .u8 6)]
def laid_internal_strconv_uint64pow10 {H : Type} : DataW H := .agg [.lit (.int .u64 1), .lit (.int .u64 10), .lit (.int .u64 100), .lit (.int .u64 1000), .lit (.int .u64 10000), .lit (.int .u64 100000), .lit (.int .u64 1000000), .lit (.int .u64 10000000), .lit (.int .u64 100000000), .lit (.int .u64 1000000000), .lit (.int .u64 10000000000), .lit (.int .u64 100000000000), .lit (.int .u64 1000000000000), .lit (.int .u64 10000000000000), .lit (.int .u64 100000000000000), .lit (.int .u64 1000000000000000), .lit (.int .u64 10000000000000000), .lit (.int .u64 100000000000000000), .lit (.int .u64 1000000000000000000), .lit (.int .u64 10000000000000000000)]
def laid_unicode_utf8_acceptRanges {H : Type} : DataW H := .agg [.agg [.lit (.int .u8 128), .lit (.int .u8 191)], .agg [.lit (.int .u8 160), .lit (.int .u8 191)], .agg [.lit (.int .u8 128), .lit (.int .u8 159)], .agg [.lit (.int .u8 144), .lit (.int .u8 191)], .agg [.lit (.int .u8 128), .lit (.int .u8 143)], .agg [.lit (.int .u8 0), .lit (.int .u8 0)], .agg [.lit (.int .u8 0), .lit (.int .u8 0)], .agg [.lit (.int .u8 0), .lit (.int .u8 0)], .agg [.lit (.int .u8 0), .lit (.int .u8 0)], .agg [.lit (.int .u8 0), .lit (.int .u8 0)], .agg [.lit (.int .u8 0), .lit (.int .u8 0)], .agg [.lit (.int .u8 0), .lit (.int .u8 0)], .agg [.lit (.int .u8 0), .lit (.int .u8 0)], .agg [.lit (.int .u8 0), .lit (.int .u8 0)], .agg [.lit (.int .u8 0), .lit (.int .u8 0)], .agg [.lit (.int .u8 0), .lit (.int .u8 0)]]
/-- One of Go's own tables, pinned by name: the form's constant. -/
def laid_unicode_utf8_first : DataW Unit := Go.Pinned.utf8First

/-- 'laws.FnNoGap': WHATEVER THE INPUT: true; the input reads as it did. -/
def fnNoGapSpec : ChangeSpec := { name := "fnNoGap", fn := fun _ => fun
  | [d] => { results := [.lit (.bool true)], args := [d] }
  | _ => none }
def fnNoGapRow : OpenClaim := { program := "ytdhpadcihlmhiaadoor", sum := "e53585579f0f0f605b454f7f57ca33f6e340151a926ac8d9431983dc17827c8b", func := "loop.example/g00040/laws.FnNoGap", spec := "fnNoGap", inPlace := ["internal/abi.NoEscape", "internal/bytealg.MakeNoZero"], unfollowed := true, recurses := true, named := ["internal/strconv.uint64pow10", "math/bits.deBruijn32tab", "math/bits.deBruijn64tab"], apart := false, laid := [("math/bits.deBruijn32tab", laid_math_bits_deBruijn32tab), ("math/bits.deBruijn64tab", laid_math_bits_deBruijn64tab), ("internal/strconv.uint64pow10", laid_internal_strconv_uint64pow10)] }
def FnNoGapSaid : Prop := fnNoGapRow.holds Tryd.pinned (OpenSpec.ofChange fnNoGapSpec)

/-- ITS FALSE NEIGHBOUR: 'it returns false'. Refute it at one input. -/
def fnNoGapWrong : ChangeSpec := { name := "fnNoGap", fn := fun _ => fun
  | [d] => { results := [.lit (.bool false)], args := [d] }
  | _ => none }
def FnNoGapWrongFalsely : Prop := fnNoGapRow.holds Tryd.pinned (OpenSpec.ofChange fnNoGapWrong)

/-- 'laws.FnFlowBack': WHATEVER THE INPUT: true; the input reads as it did. -/
def fnFlowBackSpec : ChangeSpec := { name := "fnFlowBack", fn := fun _ => fun
  | [d] => { results := [.lit (.bool true)], args := [d] }
  | _ => none }
def fnFlowBackRow : OpenClaim := { program := "ytdhpadcihlmhiaadoor", sum := "e53585579f0f0f605b454f7f57ca33f6e340151a926ac8d9431983dc17827c8b", func := "loop.example/g00040/laws.FnFlowBack", spec := "fnFlowBack", inPlace := ["internal/abi.NoEscape", "internal/bytealg.MakeNoZero", "internal/bytealg.IndexByteString", "internal/bytealg.IndexString", "internal/bytealg.CountString"], unfollowed := true, recurses := true, named := ["internal/strconv.uint64pow10", "math/bits.deBruijn32tab", "math/bits.deBruijn64tab", "internal/bytealg.MaxLen", "unicode/utf8.first", "unicode/utf8.acceptRanges"], apart := false, laid := [("math/bits.deBruijn32tab", laid_math_bits_deBruijn32tab), ("math/bits.deBruijn64tab", laid_math_bits_deBruijn64tab), ("internal/strconv.uint64pow10", laid_internal_strconv_uint64pow10), ("unicode/utf8.acceptRanges", laid_unicode_utf8_acceptRanges), ("unicode/utf8.first", laid_unicode_utf8_first)] }
def FnFlowBackSaid : Prop := fnFlowBackRow.holds Tryd.pinned (OpenSpec.ofChange fnFlowBackSpec)

/-- ITS FALSE NEIGHBOUR: 'it returns false'. Refute it at one input. -/
def fnFlowBackWrong : ChangeSpec := { name := "fnFlowBack", fn := fun _ => fun
  | [d] => { results := [.lit (.bool false)], args := [d] }
  | _ => none }
def FnFlowBackWrongFalsely : Prop := fnFlowBackRow.holds Tryd.pinned (OpenSpec.ofChange fnFlowBackWrong)

/-- 'laws.FnExactRegisterOk': WHATEVER THE INPUT: true; the input reads as it did. -/
def fnExactRegisterOkSpec : ChangeSpec := { name := "fnExactRegisterOk", fn := fun _ => fun
  | [d] => { results := [.lit (.bool true)], args := [d] }
  | _ => none }
def fnExactRegisterOkRow : OpenClaim := { program := "ytdhpadcihlmhiaadoor", sum := "e53585579f0f0f605b454f7f57ca33f6e340151a926ac8d9431983dc17827c8b", func := "loop.example/g00040/laws.FnExactRegisterOk", spec := "fnExactRegisterOk", unfollowed := true, recurses := true, named := ["internal/strconv.uint64pow10", "math/bits.deBruijn32tab", "math/bits.deBruijn64tab"], apart := false, laid := [("math/bits.deBruijn32tab", laid_math_bits_deBruijn32tab), ("math/bits.deBruijn64tab", laid_math_bits_deBruijn64tab), ("internal/strconv.uint64pow10", laid_internal_strconv_uint64pow10)] }
def FnExactRegisterOkSaid : Prop := fnExactRegisterOkRow.holds Tryd.pinned (OpenSpec.ofChange fnExactRegisterOkSpec)

/-- ITS FALSE NEIGHBOUR: 'it returns false'. Refute it at one input. -/
def fnExactRegisterOkWrong : ChangeSpec := { name := "fnExactRegisterOk", fn := fun _ => fun
  | [d] => { results := [.lit (.bool false)], args := [d] }
  | _ => none }
def FnExactRegisterOkWrongFalsely : Prop := fnExactRegisterOkRow.holds Tryd.pinned (OpenSpec.ofChange fnExactRegisterOkWrong)

/-- 'laws.FnExactIssue': WHATEVER THE INPUT: true; the input reads as it did. -/
def fnExactIssueSpec : ChangeSpec := { name := "fnExactIssue", fn := fun _ => fun
  | [d1, d2, d3] => { results := [.lit (.bool true)], args := [d1, d2, d3] }
  | _ => none }
def fnExactIssueRow : OpenClaim := { program := "ytdhpadcihlmhiaadoor", sum := "e53585579f0f0f605b454f7f57ca33f6e340151a926ac8d9431983dc17827c8b", func := "loop.example/g00040/laws.FnExactIssue", spec := "fnExactIssue", unfollowed := true, recurses := true, named := ["internal/strconv.uint64pow10", "math/bits.deBruijn32tab", "math/bits.deBruijn64tab"], apart := false, laid := [("math/bits.deBruijn32tab", laid_math_bits_deBruijn32tab), ("math/bits.deBruijn64tab", laid_math_bits_deBruijn64tab), ("internal/strconv.uint64pow10", laid_internal_strconv_uint64pow10)] }
def FnExactIssueSaid : Prop := fnExactIssueRow.holds Tryd.pinned (OpenSpec.ofChange fnExactIssueSpec)

/-- ITS FALSE NEIGHBOUR: 'it returns false'. Refute it at one input. -/
def fnExactIssueWrong : ChangeSpec := { name := "fnExactIssue", fn := fun _ => fun
  | [d1, d2, d3] => { results := [.lit (.bool false)], args := [d1, d2, d3] }
  | _ => none }
def FnExactIssueWrongFalsely : Prop := fnExactIssueRow.holds Tryd.pinned (OpenSpec.ofChange fnExactIssueWrong)

/-- 'laws.FnExactVoid': WHATEVER THE INPUT: true; the input reads as it did. -/
def fnExactVoidSpec : ChangeSpec := { name := "fnExactVoid", fn := fun _ => fun
  | [d1, d2] => { results := [.lit (.bool true)], args := [d1, d2] }
  | _ => none }
def fnExactVoidRow : OpenClaim := { program := "ytdhpadcihlmhiaadoor", sum := "e53585579f0f0f605b454f7f57ca33f6e340151a926ac8d9431983dc17827c8b", func := "loop.example/g00040/laws.FnExactVoid", spec := "fnExactVoid", unfollowed := true, recurses := true, named := ["internal/strconv.uint64pow10", "math/bits.deBruijn32tab", "math/bits.deBruijn64tab"], apart := false, laid := [("math/bits.deBruijn32tab", laid_math_bits_deBruijn32tab), ("math/bits.deBruijn64tab", laid_math_bits_deBruijn64tab), ("internal/strconv.uint64pow10", laid_internal_strconv_uint64pow10)] }
def FnExactVoidSaid : Prop := fnExactVoidRow.holds Tryd.pinned (OpenSpec.ofChange fnExactVoidSpec)

/-- ITS FALSE NEIGHBOUR: 'it returns false'. Refute it at one input. -/
def fnExactVoidWrong : ChangeSpec := { name := "fnExactVoid", fn := fun _ => fun
  | [d1, d2] => { results := [.lit (.bool false)], args := [d1, d2] }
  | _ => none }
def FnExactVoidWrongFalsely : Prop := fnExactVoidRow.holds Tryd.pinned (OpenSpec.ofChange fnExactVoidWrong)

/-- 'laws.FnExactShowPaper': WHATEVER THE INPUT: true; the input reads as it did. -/
def fnExactShowPaperSpec : ChangeSpec := { name := "fnExactShowPaper", fn := fun _ => fun
  | [d1, d2] => { results := [.lit (.bool true)], args := [d1, d2] }
  | _ => none }
def fnExactShowPaperRow : OpenClaim := { program := "ytdhpadcihlmhiaadoor", sum := "e53585579f0f0f605b454f7f57ca33f6e340151a926ac8d9431983dc17827c8b", func := "loop.example/g00040/laws.FnExactShowPaper", spec := "fnExactShowPaper", inPlace := ["internal/abi.NoEscape", "internal/bytealg.MakeNoZero"], unfollowed := true, recurses := true, named := ["internal/strconv.uint64pow10", "math/bits.deBruijn32tab", "math/bits.deBruijn64tab"], apart := false, laid := [("math/bits.deBruijn32tab", laid_math_bits_deBruijn32tab), ("math/bits.deBruijn64tab", laid_math_bits_deBruijn64tab), ("internal/strconv.uint64pow10", laid_internal_strconv_uint64pow10)] }
def FnExactShowPaperSaid : Prop := fnExactShowPaperRow.holds Tryd.pinned (OpenSpec.ofChange fnExactShowPaperSpec)

/-- ITS FALSE NEIGHBOUR: 'it returns false'. Refute it at one input. -/
def fnExactShowPaperWrong : ChangeSpec := { name := "fnExactShowPaper", fn := fun _ => fun
  | [d1, d2] => { results := [.lit (.bool false)], args := [d1, d2] }
  | _ => none }
def FnExactShowPaperWrongFalsely : Prop := fnExactShowPaperRow.holds Tryd.pinned (OpenSpec.ofChange fnExactShowPaperWrong)

/-- 'laws.FnExactFindPaper': WHATEVER THE INPUT: true; the input reads as it did. -/
def fnExactFindPaperSpec : ChangeSpec := { name := "fnExactFindPaper", fn := fun _ => fun
  | [d1, d2] => { results := [.lit (.bool true)], args := [d1, d2] }
  | _ => none }
def fnExactFindPaperRow : OpenClaim := { program := "ytdhpadcihlmhiaadoor", sum := "e53585579f0f0f605b454f7f57ca33f6e340151a926ac8d9431983dc17827c8b", func := "loop.example/g00040/laws.FnExactFindPaper", spec := "fnExactFindPaper", inPlace := ["internal/abi.NoEscape", "internal/bytealg.MakeNoZero"], unfollowed := true, recurses := true, named := ["internal/strconv.uint64pow10", "math/bits.deBruijn32tab", "math/bits.deBruijn64tab"], apart := false, laid := [("math/bits.deBruijn32tab", laid_math_bits_deBruijn32tab), ("math/bits.deBruijn64tab", laid_math_bits_deBruijn64tab), ("internal/strconv.uint64pow10", laid_internal_strconv_uint64pow10)] }
def FnExactFindPaperSaid : Prop := fnExactFindPaperRow.holds Tryd.pinned (OpenSpec.ofChange fnExactFindPaperSpec)

/-- ITS FALSE NEIGHBOUR: 'it returns false'. Refute it at one input. -/
def fnExactFindPaperWrong : ChangeSpec := { name := "fnExactFindPaper", fn := fun _ => fun
  | [d1, d2] => { results := [.lit (.bool false)], args := [d1, d2] }
  | _ => none }
def FnExactFindPaperWrongFalsely : Prop := fnExactFindPaperRow.holds Tryd.pinned (OpenSpec.ofChange fnExactFindPaperWrong)

/-- 'laws.FnExactParseFlow': WHATEVER THE INPUT: true; the input reads as it did. -/
def fnExactParseFlowSpec : ChangeSpec := { name := "fnExactParseFlow", fn := fun _ => fun
  | [d] => { results := [.lit (.bool true)], args := [d] }
  | _ => none }
def fnExactParseFlowRow : OpenClaim := { program := "ytdhpadcihlmhiaadoor", sum := "e53585579f0f0f605b454f7f57ca33f6e340151a926ac8d9431983dc17827c8b", func := "loop.example/g00040/laws.FnExactParseFlow", spec := "fnExactParseFlow", inPlace := ["internal/bytealg.IndexByteString", "internal/bytealg.IndexString", "internal/abi.NoEscape", "internal/bytealg.MakeNoZero", "internal/bytealg.CountString"], unfollowed := true, recurses := true, named := ["internal/bytealg.MaxLen", "internal/strconv.uint64pow10", "math/bits.deBruijn32tab", "math/bits.deBruijn64tab", "unicode/utf8.first", "unicode/utf8.acceptRanges"], apart := false, laid := [("math/bits.deBruijn32tab", laid_math_bits_deBruijn32tab), ("math/bits.deBruijn64tab", laid_math_bits_deBruijn64tab), ("internal/strconv.uint64pow10", laid_internal_strconv_uint64pow10), ("unicode/utf8.acceptRanges", laid_unicode_utf8_acceptRanges), ("unicode/utf8.first", laid_unicode_utf8_first)] }
def FnExactParseFlowSaid : Prop := fnExactParseFlowRow.holds Tryd.pinned (OpenSpec.ofChange fnExactParseFlowSpec)

/-- ITS FALSE NEIGHBOUR: 'it returns false'. Refute it at one input. -/
def fnExactParseFlowWrong : ChangeSpec := { name := "fnExactParseFlow", fn := fun _ => fun
  | [d] => { results := [.lit (.bool false)], args := [d] }
  | _ => none }
def FnExactParseFlowWrongFalsely : Prop := fnExactParseFlowRow.holds Tryd.pinned (OpenSpec.ofChange fnExactParseFlowWrong)

/-- 'laws.FnExactShowFlow': WHATEVER THE INPUT: true; the input reads as it did. -/
def fnExactShowFlowSpec : ChangeSpec := { name := "fnExactShowFlow", fn := fun _ => fun
  | [d] => { results := [.lit (.bool true)], args := [d] }
  | _ => none }
def fnExactShowFlowRow : OpenClaim := { program := "ytdhpadcihlmhiaadoor", sum := "e53585579f0f0f605b454f7f57ca33f6e340151a926ac8d9431983dc17827c8b", func := "loop.example/g00040/laws.FnExactShowFlow", spec := "fnExactShowFlow", inPlace := ["internal/abi.NoEscape", "internal/bytealg.MakeNoZero"], unfollowed := true, recurses := true, named := ["internal/strconv.uint64pow10", "math/bits.deBruijn32tab", "math/bits.deBruijn64tab"], apart := false, laid := [("math/bits.deBruijn32tab", laid_math_bits_deBruijn32tab), ("math/bits.deBruijn64tab", laid_math_bits_deBruijn64tab), ("internal/strconv.uint64pow10", laid_internal_strconv_uint64pow10)] }
def FnExactShowFlowSaid : Prop := fnExactShowFlowRow.holds Tryd.pinned (OpenSpec.ofChange fnExactShowFlowSpec)

/-- ITS FALSE NEIGHBOUR: 'it returns false'. Refute it at one input. -/
def fnExactShowFlowWrong : ChangeSpec := { name := "fnExactShowFlow", fn := fun _ => fun
  | [d] => { results := [.lit (.bool false)], args := [d] }
  | _ => none }
def FnExactShowFlowWrongFalsely : Prop := fnExactShowFlowRow.holds Tryd.pinned (OpenSpec.ofChange fnExactShowFlowWrong)

/-- 'laws.FnExactNeeded': WHATEVER THE INPUT: true; the input reads as it did. -/
def fnExactNeededSpec : ChangeSpec := { name := "fnExactNeeded", fn := fun _ => fun
  | [d1, d2] => { results := [.lit (.bool true)], args := [d1, d2] }
  | _ => none }
def fnExactNeededRow : OpenClaim := { program := "ytdhpadcihlmhiaadoor", sum := "e53585579f0f0f605b454f7f57ca33f6e340151a926ac8d9431983dc17827c8b", func := "loop.example/g00040/laws.FnExactNeeded", spec := "fnExactNeeded", inPlace := ["internal/abi.NoEscape", "internal/bytealg.MakeNoZero"], unfollowed := true, recurses := true, named := ["internal/strconv.uint64pow10", "math/bits.deBruijn32tab", "math/bits.deBruijn64tab"], apart := false, laid := [("math/bits.deBruijn32tab", laid_math_bits_deBruijn32tab), ("math/bits.deBruijn64tab", laid_math_bits_deBruijn64tab), ("internal/strconv.uint64pow10", laid_internal_strconv_uint64pow10)] }
def FnExactNeededSaid : Prop := fnExactNeededRow.holds Tryd.pinned (OpenSpec.ofChange fnExactNeededSpec)

/-- ITS FALSE NEIGHBOUR: 'it returns false'. Refute it at one input. -/
def fnExactNeededWrong : ChangeSpec := { name := "fnExactNeeded", fn := fun _ => fun
  | [d1, d2] => { results := [.lit (.bool false)], args := [d1, d2] }
  | _ => none }
def FnExactNeededWrongFalsely : Prop := fnExactNeededRow.holds Tryd.pinned (OpenSpec.ofChange fnExactNeededWrong)

/- THE SECOND FORM. 'bulk': how many values and letters a reading holds, each counted each time it is reached (what is shared counts as often as it is met; a slice's spare places count too). A statement '..UptoSaid' is the law's where the arguments, and the package variables that the reading takes, are together of bulk at most 1048576: NARROWER than '..Said'. Prove '..Said' where nothing that the law and all that it calls make is longer than what came in: it says more and counts as full. Else prove '..UptoSaid'. A law counts once. -/
mutual
def uptoBulk {H : Type} : DataW H → Nat
  | .lit (.string bytes) => bytes.length + 1
  | .lit _ => 1
  | .nil => 1
  | .ptr d => uptoBulk d + 1
  | .slice elems spare => uptoBulkAll elems + uptoBulkAll spare + 1
  | .agg parts => uptoBulkAll parts + 1
  | .iface _ d => uptoBulk d + 1
  | .map entries => uptoBulkEntries entries + 1
  | .held _ => 1
def uptoBulkAll {H : Type} : List (DataW H) → Nat
  | [] => 0
  | d :: r => uptoBulk d + uptoBulkAll r
def uptoBulkEntries {H : Type} : List (Lit × DataW H) → Nat
  | [] => 0
  | x :: r => uptoBulkEntry x + uptoBulkEntries r
def uptoBulkEntry {H : Type} : Lit × DataW H → Nat
  | (.string bytes, d) => bytes.length + uptoBulk d + 1
  | (_, d) => uptoBulk d + 1
 end
def uptoSmall : (H : Type) → List (DataW H) → Bool := fun _ ds => decide (uptoBulkAll ds ≤ 1048576)
def OpenSpec.upto (s : _root_.Go.ChangeSpec) : _root_.Go.OpenSpec := { _root_.Go.OpenSpec.ofChange s with cond := some uptoSmall }

/-- 'laws.FnNoGap', WHERE WHAT IT READS IS OF BULK AT MOST 1048576: true; the input reads as it did. -/
def fnNoGapUptoRow : OpenClaim := { program := "ytdhpadcihlmhiaadoor", sum := "e53585579f0f0f605b454f7f57ca33f6e340151a926ac8d9431983dc17827c8b", func := "loop.example/g00040/laws.FnNoGap", spec := "fnNoGap", inPlace := ["internal/abi.NoEscape", "internal/bytealg.MakeNoZero"], unfollowed := true, recurses := true, named := ["internal/strconv.uint64pow10", "math/bits.deBruijn32tab", "math/bits.deBruijn64tab"], apart := false, laid := [("math/bits.deBruijn32tab", laid_math_bits_deBruijn32tab), ("math/bits.deBruijn64tab", laid_math_bits_deBruijn64tab), ("internal/strconv.uint64pow10", laid_internal_strconv_uint64pow10)], narrowed := true }
def FnNoGapUptoSaid : Prop := fnNoGapUptoRow.holds Tryd.pinned (OpenSpec.upto fnNoGapSpec)

/-- 'laws.FnFlowBack', WHERE WHAT IT READS IS OF BULK AT MOST 1048576: true; the input reads as it did. -/
def fnFlowBackUptoRow : OpenClaim := { program := "ytdhpadcihlmhiaadoor", sum := "e53585579f0f0f605b454f7f57ca33f6e340151a926ac8d9431983dc17827c8b", func := "loop.example/g00040/laws.FnFlowBack", spec := "fnFlowBack", inPlace := ["internal/abi.NoEscape", "internal/bytealg.MakeNoZero", "internal/bytealg.IndexByteString", "internal/bytealg.IndexString", "internal/bytealg.CountString"], unfollowed := true, recurses := true, named := ["internal/strconv.uint64pow10", "math/bits.deBruijn32tab", "math/bits.deBruijn64tab", "internal/bytealg.MaxLen", "unicode/utf8.first", "unicode/utf8.acceptRanges"], apart := false, laid := [("math/bits.deBruijn32tab", laid_math_bits_deBruijn32tab), ("math/bits.deBruijn64tab", laid_math_bits_deBruijn64tab), ("internal/strconv.uint64pow10", laid_internal_strconv_uint64pow10), ("unicode/utf8.acceptRanges", laid_unicode_utf8_acceptRanges), ("unicode/utf8.first", laid_unicode_utf8_first)], narrowed := true }
def FnFlowBackUptoSaid : Prop := fnFlowBackUptoRow.holds Tryd.pinned (OpenSpec.upto fnFlowBackSpec)

/-- 'laws.FnExactRegisterOk', WHERE WHAT IT READS IS OF BULK AT MOST 1048576: true; the input reads as it did. -/
def fnExactRegisterOkUptoRow : OpenClaim := { program := "ytdhpadcihlmhiaadoor", sum := "e53585579f0f0f605b454f7f57ca33f6e340151a926ac8d9431983dc17827c8b", func := "loop.example/g00040/laws.FnExactRegisterOk", spec := "fnExactRegisterOk", unfollowed := true, recurses := true, named := ["internal/strconv.uint64pow10", "math/bits.deBruijn32tab", "math/bits.deBruijn64tab"], apart := false, laid := [("math/bits.deBruijn32tab", laid_math_bits_deBruijn32tab), ("math/bits.deBruijn64tab", laid_math_bits_deBruijn64tab), ("internal/strconv.uint64pow10", laid_internal_strconv_uint64pow10)], narrowed := true }
def FnExactRegisterOkUptoSaid : Prop := fnExactRegisterOkUptoRow.holds Tryd.pinned (OpenSpec.upto fnExactRegisterOkSpec)

/-- 'laws.FnExactIssue', WHERE WHAT IT READS IS OF BULK AT MOST 1048576: true; the input reads as it did. -/
def fnExactIssueUptoRow : OpenClaim := { program := "ytdhpadcihlmhiaadoor", sum := "e53585579f0f0f605b454f7f57ca33f6e340151a926ac8d9431983dc17827c8b", func := "loop.example/g00040/laws.FnExactIssue", spec := "fnExactIssue", unfollowed := true, recurses := true, named := ["internal/strconv.uint64pow10", "math/bits.deBruijn32tab", "math/bits.deBruijn64tab"], apart := false, laid := [("math/bits.deBruijn32tab", laid_math_bits_deBruijn32tab), ("math/bits.deBruijn64tab", laid_math_bits_deBruijn64tab), ("internal/strconv.uint64pow10", laid_internal_strconv_uint64pow10)], narrowed := true }
def FnExactIssueUptoSaid : Prop := fnExactIssueUptoRow.holds Tryd.pinned (OpenSpec.upto fnExactIssueSpec)

/-- 'laws.FnExactVoid', WHERE WHAT IT READS IS OF BULK AT MOST 1048576: true; the input reads as it did. -/
def fnExactVoidUptoRow : OpenClaim := { program := "ytdhpadcihlmhiaadoor", sum := "e53585579f0f0f605b454f7f57ca33f6e340151a926ac8d9431983dc17827c8b", func := "loop.example/g00040/laws.FnExactVoid", spec := "fnExactVoid", unfollowed := true, recurses := true, named := ["internal/strconv.uint64pow10", "math/bits.deBruijn32tab", "math/bits.deBruijn64tab"], apart := false, laid := [("math/bits.deBruijn32tab", laid_math_bits_deBruijn32tab), ("math/bits.deBruijn64tab", laid_math_bits_deBruijn64tab), ("internal/strconv.uint64pow10", laid_internal_strconv_uint64pow10)], narrowed := true }
def FnExactVoidUptoSaid : Prop := fnExactVoidUptoRow.holds Tryd.pinned (OpenSpec.upto fnExactVoidSpec)

/-- 'laws.FnExactShowPaper', WHERE WHAT IT READS IS OF BULK AT MOST 1048576: true; the input reads as it did. -/
def fnExactShowPaperUptoRow : OpenClaim := { program := "ytdhpadcihlmhiaadoor", sum := "e53585579f0f0f605b454f7f57ca33f6e340151a926ac8d9431983dc17827c8b", func := "loop.example/g00040/laws.FnExactShowPaper", spec := "fnExactShowPaper", inPlace := ["internal/abi.NoEscape", "internal/bytealg.MakeNoZero"], unfollowed := true, recurses := true, named := ["internal/strconv.uint64pow10", "math/bits.deBruijn32tab", "math/bits.deBruijn64tab"], apart := false, laid := [("math/bits.deBruijn32tab", laid_math_bits_deBruijn32tab), ("math/bits.deBruijn64tab", laid_math_bits_deBruijn64tab), ("internal/strconv.uint64pow10", laid_internal_strconv_uint64pow10)], narrowed := true }
def FnExactShowPaperUptoSaid : Prop := fnExactShowPaperUptoRow.holds Tryd.pinned (OpenSpec.upto fnExactShowPaperSpec)

/-- 'laws.FnExactFindPaper', WHERE WHAT IT READS IS OF BULK AT MOST 1048576: true; the input reads as it did. -/
def fnExactFindPaperUptoRow : OpenClaim := { program := "ytdhpadcihlmhiaadoor", sum := "e53585579f0f0f605b454f7f57ca33f6e340151a926ac8d9431983dc17827c8b", func := "loop.example/g00040/laws.FnExactFindPaper", spec := "fnExactFindPaper", inPlace := ["internal/abi.NoEscape", "internal/bytealg.MakeNoZero"], unfollowed := true, recurses := true, named := ["internal/strconv.uint64pow10", "math/bits.deBruijn32tab", "math/bits.deBruijn64tab"], apart := false, laid := [("math/bits.deBruijn32tab", laid_math_bits_deBruijn32tab), ("math/bits.deBruijn64tab", laid_math_bits_deBruijn64tab), ("internal/strconv.uint64pow10", laid_internal_strconv_uint64pow10)], narrowed := true }
def FnExactFindPaperUptoSaid : Prop := fnExactFindPaperUptoRow.holds Tryd.pinned (OpenSpec.upto fnExactFindPaperSpec)

/-- 'laws.FnExactParseFlow', WHERE WHAT IT READS IS OF BULK AT MOST 1048576: true; the input reads as it did. -/
def fnExactParseFlowUptoRow : OpenClaim := { program := "ytdhpadcihlmhiaadoor", sum := "e53585579f0f0f605b454f7f57ca33f6e340151a926ac8d9431983dc17827c8b", func := "loop.example/g00040/laws.FnExactParseFlow", spec := "fnExactParseFlow", inPlace := ["internal/bytealg.IndexByteString", "internal/bytealg.IndexString", "internal/abi.NoEscape", "internal/bytealg.MakeNoZero", "internal/bytealg.CountString"], unfollowed := true, recurses := true, named := ["internal/bytealg.MaxLen", "internal/strconv.uint64pow10", "math/bits.deBruijn32tab", "math/bits.deBruijn64tab", "unicode/utf8.first", "unicode/utf8.acceptRanges"], apart := false, laid := [("math/bits.deBruijn32tab", laid_math_bits_deBruijn32tab), ("math/bits.deBruijn64tab", laid_math_bits_deBruijn64tab), ("internal/strconv.uint64pow10", laid_internal_strconv_uint64pow10), ("unicode/utf8.acceptRanges", laid_unicode_utf8_acceptRanges), ("unicode/utf8.first", laid_unicode_utf8_first)], narrowed := true }
def FnExactParseFlowUptoSaid : Prop := fnExactParseFlowUptoRow.holds Tryd.pinned (OpenSpec.upto fnExactParseFlowSpec)

/-- 'laws.FnExactShowFlow', WHERE WHAT IT READS IS OF BULK AT MOST 1048576: true; the input reads as it did. -/
def fnExactShowFlowUptoRow : OpenClaim := { program := "ytdhpadcihlmhiaadoor", sum := "e53585579f0f0f605b454f7f57ca33f6e340151a926ac8d9431983dc17827c8b", func := "loop.example/g00040/laws.FnExactShowFlow", spec := "fnExactShowFlow", inPlace := ["internal/abi.NoEscape", "internal/bytealg.MakeNoZero"], unfollowed := true, recurses := true, named := ["internal/strconv.uint64pow10", "math/bits.deBruijn32tab", "math/bits.deBruijn64tab"], apart := false, laid := [("math/bits.deBruijn32tab", laid_math_bits_deBruijn32tab), ("math/bits.deBruijn64tab", laid_math_bits_deBruijn64tab), ("internal/strconv.uint64pow10", laid_internal_strconv_uint64pow10)], narrowed := true }
def FnExactShowFlowUptoSaid : Prop := fnExactShowFlowUptoRow.holds Tryd.pinned (OpenSpec.upto fnExactShowFlowSpec)

/-- 'laws.FnExactNeeded', WHERE WHAT IT READS IS OF BULK AT MOST 1048576: true; the input reads as it did. -/
def fnExactNeededUptoRow : OpenClaim := { program := "ytdhpadcihlmhiaadoor", sum := "e53585579f0f0f605b454f7f57ca33f6e340151a926ac8d9431983dc17827c8b", func := "loop.example/g00040/laws.FnExactNeeded", spec := "fnExactNeeded", inPlace := ["internal/abi.NoEscape", "internal/bytealg.MakeNoZero"], unfollowed := true, recurses := true, named := ["internal/strconv.uint64pow10", "math/bits.deBruijn32tab", "math/bits.deBruijn64tab"], apart := false, laid := [("math/bits.deBruijn32tab", laid_math_bits_deBruijn32tab), ("math/bits.deBruijn64tab", laid_math_bits_deBruijn64tab), ("internal/strconv.uint64pow10", laid_internal_strconv_uint64pow10)], narrowed := true }
def FnExactNeededUptoSaid : Prop := fnExactNeededUptoRow.holds Tryd.pinned (OpenSpec.upto fnExactNeededSpec)

end Rows
end Go.Proofs.YtdhpadcihlmhiaaDoor
