/-
  NARROWER THAN 'FOR EVERY INPUT', by the rows' own cells (each row's printed sentence says how): RunsPairs: laid · RunsOne: laid · RunsText: laid · RunsParse: laid · RunsKnown: laid · RunsetsOf: laid · RunsetsPairs: laid · RunsetsOne: laid · RunsetsPlain: laid · RunsetsText: laid · RunsetsKnown: laid.
  DERIVED. THE GIVEN ROWS OF THIS SEAT. 11 by the template 'for every input the law returns true; each argument reads behind the call as it read before'; 0 by the template 'total and deterministic' (their statements: YtndjcmclmhoigaaGreatDoorTotals.lean).
  GIVEN WITH THE SEED: the statements are not yours to turn. If you find one false, say at which input.
  Laid BY PROGRAM, IN A SANDBOX (cutbox-rows.mjs): the forced cells as the released guide's own fill.sh prints them over the translation 1cc0f0935f48c7f3… (all of the seat's roots in one cut). By AI agents, Wed Nov 11 2026. No macro, syntax, notation, axiom, sorry.
-/
import Derived.Test.YtndjcmclmhoigaaGreatDoorChecked
import GoSem.PinnedTables
import GoSem.Claim
import GoSem.ClaimJoined
import GoSem.ClaimMapViews
import Derived.JoinedTies
import Derived.KernelRfl
namespace Go.Proofs.YtndjcmclmhoigaaGreatDoor
/- THE CELL 'sum', in the pinned program and in every row, IS THE sha256 OF THE DUMP (.gsa) THAT YtndjcmclmhoigaaGreatDoorProg.lean LOADS. Nothing in Lean hashes anything: it is a label: what it is worth is what the hold of that sum in a sandbox is worth. -/
noncomputable def Tryz.pinned : Pinned := { name := "ytndjcmclmhoigaagreatdoor", sum := "1cc0f0935f48c7f349d0954fb299ede796245886e6a34ce6f22f060bbd5641f6", checked := Tryz.checked }
namespace Rows
def none {H : Type} : Left H := { results := [], args := [] }

/- WHAT THE LISTED PACKAGE-LEVEL VARIABLES READ AS WHEN THE CALL BEGINS. Each datum BY PROGRAM (the guide's laid-datum.mjs) off the statement by which the dump's own 'gosem.cut.vars' lays the variable. In a bare row this is a premise. The card (YtndjcmclmhoigaaGreatDoorCards.lean) ties it to the program's text. -/
def laid_math_bits_deBruijn32tab {H : Type} : DataW H := .agg [.lit (.int .u8 0), .lit (.int .u8 1), .lit (.int .u8 28), .lit (.int .u8 2), .lit (.int .u8 29), .lit (.int .u8 14), .lit (.int .u8 24), .lit (.int .u8 3), .lit (.int .u8 30), .lit (.int .u8 22), .lit (.int .u8 20), .lit (.int .u8 15), .lit (.int .u8 25), .lit (.int .u8 17), .lit (.int .u8 4), .lit (.int .u8 8), .lit (.int .u8 31), .lit (.int .u8 27), .lit (.int .u8 13), .lit (.int .u8 23), .lit (.int .u8 21), .lit (.int .u8 19), .lit (.int .u8 16), .lit (.int .u8 7), .lit (.int .u8 26), .lit (.int .u8 12), .lit (.int .u8 18), .lit (.int .u8 6), .lit (.int .u8 11), .lit (.int .u8 5), .lit (.int .u8 10), .lit (.int .u8 9)]
def laid_math_bits_deBruijn64tab {H : Type} : DataW H := .agg [.lit (.int .u8 0), .lit (.int .u8 1), .lit (.int .u8 56), .lit (.int .u8 2), .lit (.int .u8 57), .lit (.int .u8 49), .lit (.int .u8 28), .lit (.int .u8 3), .lit (.int .u8 61), .lit (.int .u8 58), .lit (.int .u8 42), .lit (.int .u8 50), .lit (.int .u8 38), .lit (.int .u8 29), .lit (.int .u8 17), .lit (.int .u8 4), .lit (.int .u8 62), .lit (.int .u8 47), .lit (.int .u8 59), .lit (.int .u8 36), .lit (.int .u8 45), .lit (.int .u8 43), .lit (.int .u8 51), .lit (.int .u8 22), .lit (.int .u8 53), .lit (.int .u8 39), .lit (.int .u8 33), .lit (.int .u8 30), .lit (.int .u8 24), .lit (.int .u8 18), .lit (.int .u8 12), .lit (.int .u8 5), .lit (.int .u8 63), .lit (.int .u8 55), .lit (.int .u8 48), .lit (.int .u8 27), .lit (.int .u8 60), .lit (.int .u8 41), .lit (.int .u8 37), .lit (.int .u8 16), .lit (.int .u8 46), .lit (.int .u8 35), .lit (.int .u8 44), .lit (.int .u8 21), .lit (.int .u8 52), .lit (.int .u8 32), .lit (.int .u8 23), .lit (.int .u8 11), .lit (.int .u8 54), .lit (.int .u8 26), .lit (.int .u8 40), .lit (.int .u8 15), .lit (.int .u8 34), .lit (.int .u8 20), .lit (.int .u8 31), .lit (.int .u8 10), .lit (.int .u8 25), .lit (.int .u8 14), .lit (.int .u8 19), .lit (.int .u8 9), .lit (.int .u8 13), .lit (.int .u8 8), .lit (.int .u8 7), .lit (.int .u8 6)]
def laid_internal_strconv_uint64pow10 {H : Type} : DataW H := .agg [.lit (.int .u64 1), .lit (.int .u64 10), .lit (.int .u64 100), .lit (.int .u64 1000), .lit (.int .u64 10000), .lit (.int .u64 100000), .lit (.int .u64 1000000), .lit (.int .u64 10000000), .lit (.int .u64 100000000), .lit (.int .u64 1000000000), .lit (.int .u64 10000000000), .lit (.int .u64 100000000000), .lit (.int .u64 1000000000000), .lit (.int .u64 10000000000000), .lit (.int .u64 100000000000000), .lit (.int .u64 1000000000000000), .lit (.int .u64 10000000000000000), .lit (.int .u64 100000000000000000), .lit (.int .u64 1000000000000000000), .lit (.int .u64 10000000000000000000)]
def laid_unicode_utf8_acceptRanges {H : Type} : DataW H := .agg [.agg [.lit (.int .u8 128), .lit (.int .u8 191)], .agg [.lit (.int .u8 160), .lit (.int .u8 191)], .agg [.lit (.int .u8 128), .lit (.int .u8 159)], .agg [.lit (.int .u8 144), .lit (.int .u8 191)], .agg [.lit (.int .u8 128), .lit (.int .u8 143)], .agg [.lit (.int .u8 0), .lit (.int .u8 0)], .agg [.lit (.int .u8 0), .lit (.int .u8 0)], .agg [.lit (.int .u8 0), .lit (.int .u8 0)], .agg [.lit (.int .u8 0), .lit (.int .u8 0)], .agg [.lit (.int .u8 0), .lit (.int .u8 0)], .agg [.lit (.int .u8 0), .lit (.int .u8 0)], .agg [.lit (.int .u8 0), .lit (.int .u8 0)], .agg [.lit (.int .u8 0), .lit (.int .u8 0)], .agg [.lit (.int .u8 0), .lit (.int .u8 0)], .agg [.lit (.int .u8 0), .lit (.int .u8 0)], .agg [.lit (.int .u8 0), .lit (.int .u8 0)]]
def laid_strconv_ErrRange {H : Type} : DataW H := .iface "*errors.errorString" (.ptr (.agg [.lit (.string [118, 97, 108, 117, 101, 32, 111, 117, 116, 32, 111, 102, 32, 114, 97, 110, 103, 101])]))
def laid_strconv_ErrSyntax {H : Type} : DataW H := .iface "*errors.errorString" (.ptr (.agg [.lit (.string [105, 110, 118, 97, 108, 105, 100, 32, 115, 121, 110, 116, 97, 120])]))
def laid_circa_ends_least {H : Type} : DataW H := .agg [.lit (.int .i8 (-1)), .lit (.int .i64 0)]
def laid_circa_ends_greatest {H : Type} : DataW H := .agg [.lit (.int .i8 1), .lit (.int .i64 0)]
/-- One of Go's own tables, pinned by name: the form's constant. -/
def laid_unicode_utf8_first : DataW Unit := Go.Pinned.utf8First
def laid_circa_runsets_first {H : Type} : DataW H := .agg [.lit (.int .i8 (-1)), .lit (.int .i64 0)]
def laid_circa_runsets_last {H : Type} : DataW H := .agg [.lit (.int .i8 1), .lit (.int .i64 0)]

/-- 'circalaw09.RunsPairs': WHATEVER THE INPUT: true; the input reads as it did. -/
def runsPairsSpec : ChangeSpec := { name := "runsPairs", fn := fun _ => fun
  | [d1, d2, d3] => { results := [.lit (.bool true)], args := [d1, d2, d3] }
  | _ => none }
def runsPairsRow : OpenClaim := { program := "ytndjcmclmhoigaagreatdoor", sum := "1cc0f0935f48c7f349d0954fb299ede796245886e6a34ce6f22f060bbd5641f6", func := "circa/circalaw09.RunsPairs", spec := "runsPairs", inPlace := ["internal/bytealg.IndexByteString", "internal/bytealg.IndexString"], unfollowed := true, recurses := true, named := ["circa/ends.least", "circa/ends.greatest", "internal/bytealg.MaxLen", "unicode/utf8.first", "unicode/utf8.acceptRanges", "strconv.ErrSyntax", "strconv.ErrRange", "internal/strconv.uint64pow10", "math/bits.deBruijn32tab", "math/bits.deBruijn64tab"], plainKeys := false, apart := false, laid := [("math/bits.deBruijn32tab", laid_math_bits_deBruijn32tab), ("math/bits.deBruijn64tab", laid_math_bits_deBruijn64tab), ("internal/strconv.uint64pow10", laid_internal_strconv_uint64pow10), ("unicode/utf8.acceptRanges", laid_unicode_utf8_acceptRanges), ("strconv.ErrRange", laid_strconv_ErrRange), ("strconv.ErrSyntax", laid_strconv_ErrSyntax), ("circa/ends.least", laid_circa_ends_least), ("circa/ends.greatest", laid_circa_ends_greatest), ("unicode/utf8.first", laid_unicode_utf8_first)] }
def RunsPairsSaid : Prop := runsPairsRow.holds Tryz.pinned (OpenSpec.ofChange runsPairsSpec)

/-- ITS FALSE NEIGHBOUR: 'it returns false'. Refute it at one input. -/
def runsPairsWrong : ChangeSpec := { name := "runsPairs", fn := fun _ => fun
  | [d1, d2, d3] => { results := [.lit (.bool false)], args := [d1, d2, d3] }
  | _ => none }
def RunsPairsWrongFalsely : Prop := runsPairsRow.holds Tryz.pinned (OpenSpec.ofChange runsPairsWrong)

/-- 'circalaw09.RunsOne': WHATEVER THE INPUT: true; the input reads as it did. -/
def runsOneSpec : ChangeSpec := { name := "runsOne", fn := fun _ => fun
  | [d1, d2, d3] => { results := [.lit (.bool true)], args := [d1, d2, d3] }
  | _ => none }
def runsOneRow : OpenClaim := { program := "ytndjcmclmhoigaagreatdoor", sum := "1cc0f0935f48c7f349d0954fb299ede796245886e6a34ce6f22f060bbd5641f6", func := "circa/circalaw09.RunsOne", spec := "runsOne", inPlace := ["internal/bytealg.IndexByteString", "internal/bytealg.IndexString"], unfollowed := true, recurses := true, named := ["circa/ends.least", "circa/ends.greatest", "internal/bytealg.MaxLen", "unicode/utf8.first", "unicode/utf8.acceptRanges", "strconv.ErrSyntax", "strconv.ErrRange", "internal/strconv.uint64pow10", "math/bits.deBruijn32tab", "math/bits.deBruijn64tab"], plainKeys := false, apart := false, laid := [("math/bits.deBruijn32tab", laid_math_bits_deBruijn32tab), ("math/bits.deBruijn64tab", laid_math_bits_deBruijn64tab), ("internal/strconv.uint64pow10", laid_internal_strconv_uint64pow10), ("unicode/utf8.acceptRanges", laid_unicode_utf8_acceptRanges), ("strconv.ErrRange", laid_strconv_ErrRange), ("strconv.ErrSyntax", laid_strconv_ErrSyntax), ("circa/ends.least", laid_circa_ends_least), ("circa/ends.greatest", laid_circa_ends_greatest), ("unicode/utf8.first", laid_unicode_utf8_first)] }
def RunsOneSaid : Prop := runsOneRow.holds Tryz.pinned (OpenSpec.ofChange runsOneSpec)

/-- ITS FALSE NEIGHBOUR: 'it returns false'. Refute it at one input. -/
def runsOneWrong : ChangeSpec := { name := "runsOne", fn := fun _ => fun
  | [d1, d2, d3] => { results := [.lit (.bool false)], args := [d1, d2, d3] }
  | _ => none }
def RunsOneWrongFalsely : Prop := runsOneRow.holds Tryz.pinned (OpenSpec.ofChange runsOneWrong)

/-- 'circalaw09.RunsText': WHATEVER THE INPUT: true; the input reads as it did. -/
def runsTextSpec : ChangeSpec := { name := "runsText", fn := fun _ => fun
  | [d] => { results := [.lit (.bool true)], args := [d] }
  | _ => none }
def runsTextRow : OpenClaim := { program := "ytndjcmclmhoigaagreatdoor", sum := "1cc0f0935f48c7f349d0954fb299ede796245886e6a34ce6f22f060bbd5641f6", func := "circa/circalaw09.RunsText", spec := "runsText", inPlace := ["internal/bytealg.IndexByteString", "internal/bytealg.IndexString"], unfollowed := true, recurses := true, named := ["circa/ends.least", "circa/ends.greatest", "internal/strconv.uint64pow10", "math/bits.deBruijn32tab", "math/bits.deBruijn64tab", "internal/bytealg.MaxLen", "unicode/utf8.first", "unicode/utf8.acceptRanges", "strconv.ErrSyntax", "strconv.ErrRange"], plainKeys := false, apart := false, laid := [("math/bits.deBruijn32tab", laid_math_bits_deBruijn32tab), ("math/bits.deBruijn64tab", laid_math_bits_deBruijn64tab), ("internal/strconv.uint64pow10", laid_internal_strconv_uint64pow10), ("unicode/utf8.acceptRanges", laid_unicode_utf8_acceptRanges), ("strconv.ErrRange", laid_strconv_ErrRange), ("strconv.ErrSyntax", laid_strconv_ErrSyntax), ("circa/ends.least", laid_circa_ends_least), ("circa/ends.greatest", laid_circa_ends_greatest), ("unicode/utf8.first", laid_unicode_utf8_first)] }
def RunsTextSaid : Prop := runsTextRow.holds Tryz.pinned (OpenSpec.ofChange runsTextSpec)

/-- ITS FALSE NEIGHBOUR: 'it returns false'. Refute it at one input. -/
def runsTextWrong : ChangeSpec := { name := "runsText", fn := fun _ => fun
  | [d] => { results := [.lit (.bool false)], args := [d] }
  | _ => none }
def RunsTextWrongFalsely : Prop := runsTextRow.holds Tryz.pinned (OpenSpec.ofChange runsTextWrong)

/-- 'circalaw09.RunsParse': WHATEVER THE INPUT: true; the input reads as it did. -/
def runsParseSpec : ChangeSpec := { name := "runsParse", fn := fun _ => fun
  | [d] => { results := [.lit (.bool true)], args := [d] }
  | _ => none }
def runsParseRow : OpenClaim := { program := "ytndjcmclmhoigaagreatdoor", sum := "1cc0f0935f48c7f349d0954fb299ede796245886e6a34ce6f22f060bbd5641f6", func := "circa/circalaw09.RunsParse", spec := "runsParse", inPlace := ["internal/bytealg.IndexByteString", "internal/bytealg.IndexString"], unfollowed := true, recurses := true, named := ["circa/ends.least", "circa/ends.greatest", "internal/bytealg.MaxLen", "unicode/utf8.first", "unicode/utf8.acceptRanges", "strconv.ErrSyntax", "strconv.ErrRange", "internal/strconv.uint64pow10", "math/bits.deBruijn32tab", "math/bits.deBruijn64tab"], plainKeys := false, apart := false, laid := [("math/bits.deBruijn32tab", laid_math_bits_deBruijn32tab), ("math/bits.deBruijn64tab", laid_math_bits_deBruijn64tab), ("internal/strconv.uint64pow10", laid_internal_strconv_uint64pow10), ("unicode/utf8.acceptRanges", laid_unicode_utf8_acceptRanges), ("strconv.ErrRange", laid_strconv_ErrRange), ("strconv.ErrSyntax", laid_strconv_ErrSyntax), ("circa/ends.least", laid_circa_ends_least), ("circa/ends.greatest", laid_circa_ends_greatest), ("unicode/utf8.first", laid_unicode_utf8_first)] }
def RunsParseSaid : Prop := runsParseRow.holds Tryz.pinned (OpenSpec.ofChange runsParseSpec)

/-- ITS FALSE NEIGHBOUR: 'it returns false'. Refute it at one input. -/
def runsParseWrong : ChangeSpec := { name := "runsParse", fn := fun _ => fun
  | [d] => { results := [.lit (.bool false)], args := [d] }
  | _ => none }
def RunsParseWrongFalsely : Prop := runsParseRow.holds Tryz.pinned (OpenSpec.ofChange runsParseWrong)

/-- 'circalaw09.RunsKnown': WHATEVER THE INPUT: true; the input reads as it did. -/
def runsKnownSpec : ChangeSpec := { name := "runsKnown", fn := fun _ => fun
  | [] => { results := [.lit (.bool true)], args := [] }
  | _ => none }
def runsKnownRow : OpenClaim := { program := "ytndjcmclmhoigaagreatdoor", sum := "1cc0f0935f48c7f349d0954fb299ede796245886e6a34ce6f22f060bbd5641f6", func := "circa/circalaw09.RunsKnown", spec := "runsKnown", inPlace := ["internal/bytealg.IndexByteString", "internal/bytealg.IndexString"], unfollowed := true, recurses := true, named := ["circa/ends.least", "circa/ends.greatest", "internal/bytealg.MaxLen", "unicode/utf8.first", "unicode/utf8.acceptRanges", "strconv.ErrSyntax", "strconv.ErrRange", "internal/strconv.uint64pow10", "math/bits.deBruijn32tab", "math/bits.deBruijn64tab"], plainKeys := false, apart := false, laid := [("math/bits.deBruijn32tab", laid_math_bits_deBruijn32tab), ("math/bits.deBruijn64tab", laid_math_bits_deBruijn64tab), ("internal/strconv.uint64pow10", laid_internal_strconv_uint64pow10), ("unicode/utf8.acceptRanges", laid_unicode_utf8_acceptRanges), ("strconv.ErrRange", laid_strconv_ErrRange), ("strconv.ErrSyntax", laid_strconv_ErrSyntax), ("circa/ends.least", laid_circa_ends_least), ("circa/ends.greatest", laid_circa_ends_greatest), ("unicode/utf8.first", laid_unicode_utf8_first)] }
def RunsKnownSaid : Prop := runsKnownRow.holds Tryz.pinned (OpenSpec.ofChange runsKnownSpec)

/-- ITS FALSE NEIGHBOUR: 'it returns false'. Refute it at one input. -/
def runsKnownWrong : ChangeSpec := { name := "runsKnown", fn := fun _ => fun
  | [] => { results := [.lit (.bool false)], args := [] }
  | _ => none }
def RunsKnownWrongFalsely : Prop := runsKnownRow.holds Tryz.pinned (OpenSpec.ofChange runsKnownWrong)

/-- 'circalaw10.RunsetsOf': WHATEVER THE INPUT: true; the input reads as it did. -/
def runsetsOfSpec : ChangeSpec := { name := "runsetsOf", fn := fun _ => fun
  | [d1, d2, d3] => { results := [.lit (.bool true)], args := [d1, d2, d3] }
  | _ => none }
def runsetsOfRow : OpenClaim := { program := "ytndjcmclmhoigaagreatdoor", sum := "1cc0f0935f48c7f349d0954fb299ede796245886e6a34ce6f22f060bbd5641f6", func := "circa/circalaw10.RunsetsOf", spec := "runsetsOf", inPlace := ["internal/bytealg.IndexByteString", "internal/bytealg.IndexString"], unfollowed := true, recurses := true, named := ["circa/ends.least", "circa/ends.greatest", "circa/runsets.first", "circa/runsets.last", "unicode/utf8.first", "unicode/utf8.acceptRanges", "internal/bytealg.MaxLen", "strconv.ErrSyntax", "strconv.ErrRange", "internal/strconv.uint64pow10", "math/bits.deBruijn32tab", "math/bits.deBruijn64tab"], plainKeys := false, apart := false, laid := [("math/bits.deBruijn32tab", laid_math_bits_deBruijn32tab), ("math/bits.deBruijn64tab", laid_math_bits_deBruijn64tab), ("internal/strconv.uint64pow10", laid_internal_strconv_uint64pow10), ("unicode/utf8.acceptRanges", laid_unicode_utf8_acceptRanges), ("strconv.ErrRange", laid_strconv_ErrRange), ("strconv.ErrSyntax", laid_strconv_ErrSyntax), ("circa/ends.least", laid_circa_ends_least), ("circa/ends.greatest", laid_circa_ends_greatest), ("circa/runsets.first", laid_circa_runsets_first), ("circa/runsets.last", laid_circa_runsets_last), ("unicode/utf8.first", laid_unicode_utf8_first)] }
def RunsetsOfSaid : Prop := runsetsOfRow.holds Tryz.pinned (OpenSpec.ofChange runsetsOfSpec)

/-- ITS FALSE NEIGHBOUR: 'it returns false'. Refute it at one input. -/
def runsetsOfWrong : ChangeSpec := { name := "runsetsOf", fn := fun _ => fun
  | [d1, d2, d3] => { results := [.lit (.bool false)], args := [d1, d2, d3] }
  | _ => none }
def RunsetsOfWrongFalsely : Prop := runsetsOfRow.holds Tryz.pinned (OpenSpec.ofChange runsetsOfWrong)

/-- 'circalaw10.RunsetsPairs': WHATEVER THE INPUT: true; the input reads as it did. -/
def runsetsPairsSpec : ChangeSpec := { name := "runsetsPairs", fn := fun _ => fun
  | [d1, d2, d3] => { results := [.lit (.bool true)], args := [d1, d2, d3] }
  | _ => none }
def runsetsPairsRow : OpenClaim := { program := "ytndjcmclmhoigaagreatdoor", sum := "1cc0f0935f48c7f349d0954fb299ede796245886e6a34ce6f22f060bbd5641f6", func := "circa/circalaw10.RunsetsPairs", spec := "runsetsPairs", inPlace := ["internal/bytealg.IndexByteString", "internal/bytealg.IndexString"], unfollowed := true, recurses := true, named := ["circa/ends.least", "circa/ends.greatest", "circa/runsets.first", "circa/runsets.last", "unicode/utf8.first", "unicode/utf8.acceptRanges", "internal/bytealg.MaxLen", "strconv.ErrSyntax", "strconv.ErrRange", "internal/strconv.uint64pow10", "math/bits.deBruijn32tab", "math/bits.deBruijn64tab"], plainKeys := false, apart := false, laid := [("math/bits.deBruijn32tab", laid_math_bits_deBruijn32tab), ("math/bits.deBruijn64tab", laid_math_bits_deBruijn64tab), ("internal/strconv.uint64pow10", laid_internal_strconv_uint64pow10), ("unicode/utf8.acceptRanges", laid_unicode_utf8_acceptRanges), ("strconv.ErrRange", laid_strconv_ErrRange), ("strconv.ErrSyntax", laid_strconv_ErrSyntax), ("circa/ends.least", laid_circa_ends_least), ("circa/ends.greatest", laid_circa_ends_greatest), ("circa/runsets.first", laid_circa_runsets_first), ("circa/runsets.last", laid_circa_runsets_last), ("unicode/utf8.first", laid_unicode_utf8_first)] }
def RunsetsPairsSaid : Prop := runsetsPairsRow.holds Tryz.pinned (OpenSpec.ofChange runsetsPairsSpec)

/-- ITS FALSE NEIGHBOUR: 'it returns false'. Refute it at one input. -/
def runsetsPairsWrong : ChangeSpec := { name := "runsetsPairs", fn := fun _ => fun
  | [d1, d2, d3] => { results := [.lit (.bool false)], args := [d1, d2, d3] }
  | _ => none }
def RunsetsPairsWrongFalsely : Prop := runsetsPairsRow.holds Tryz.pinned (OpenSpec.ofChange runsetsPairsWrong)

/-- 'circalaw10.RunsetsOne': WHATEVER THE INPUT: true; the input reads as it did. -/
def runsetsOneSpec : ChangeSpec := { name := "runsetsOne", fn := fun _ => fun
  | [d1, d2] => { results := [.lit (.bool true)], args := [d1, d2] }
  | _ => none }
def runsetsOneRow : OpenClaim := { program := "ytndjcmclmhoigaagreatdoor", sum := "1cc0f0935f48c7f349d0954fb299ede796245886e6a34ce6f22f060bbd5641f6", func := "circa/circalaw10.RunsetsOne", spec := "runsetsOne", inPlace := ["internal/bytealg.IndexByteString", "internal/bytealg.IndexString"], unfollowed := true, recurses := true, named := ["circa/ends.least", "circa/ends.greatest", "circa/runsets.first", "circa/runsets.last", "unicode/utf8.first", "unicode/utf8.acceptRanges", "internal/bytealg.MaxLen", "strconv.ErrSyntax", "strconv.ErrRange", "internal/strconv.uint64pow10", "math/bits.deBruijn32tab", "math/bits.deBruijn64tab"], plainKeys := false, apart := false, laid := [("math/bits.deBruijn32tab", laid_math_bits_deBruijn32tab), ("math/bits.deBruijn64tab", laid_math_bits_deBruijn64tab), ("internal/strconv.uint64pow10", laid_internal_strconv_uint64pow10), ("unicode/utf8.acceptRanges", laid_unicode_utf8_acceptRanges), ("strconv.ErrRange", laid_strconv_ErrRange), ("strconv.ErrSyntax", laid_strconv_ErrSyntax), ("circa/ends.least", laid_circa_ends_least), ("circa/ends.greatest", laid_circa_ends_greatest), ("circa/runsets.first", laid_circa_runsets_first), ("circa/runsets.last", laid_circa_runsets_last), ("unicode/utf8.first", laid_unicode_utf8_first)] }
def RunsetsOneSaid : Prop := runsetsOneRow.holds Tryz.pinned (OpenSpec.ofChange runsetsOneSpec)

/-- ITS FALSE NEIGHBOUR: 'it returns false'. Refute it at one input. -/
def runsetsOneWrong : ChangeSpec := { name := "runsetsOne", fn := fun _ => fun
  | [d1, d2] => { results := [.lit (.bool false)], args := [d1, d2] }
  | _ => none }
def RunsetsOneWrongFalsely : Prop := runsetsOneRow.holds Tryz.pinned (OpenSpec.ofChange runsetsOneWrong)

/-- 'circalaw10.RunsetsPlain': WHATEVER THE INPUT: true; the input reads as it did. -/
def runsetsPlainSpec : ChangeSpec := { name := "runsetsPlain", fn := fun _ => fun
  | [d1, d2] => { results := [.lit (.bool true)], args := [d1, d2] }
  | _ => none }
def runsetsPlainRow : OpenClaim := { program := "ytndjcmclmhoigaagreatdoor", sum := "1cc0f0935f48c7f349d0954fb299ede796245886e6a34ce6f22f060bbd5641f6", func := "circa/circalaw10.RunsetsPlain", spec := "runsetsPlain", inPlace := ["internal/bytealg.IndexByteString", "internal/bytealg.IndexString"], unfollowed := true, recurses := true, named := ["circa/ends.least", "circa/ends.greatest", "circa/runsets.first", "circa/runsets.last", "unicode/utf8.first", "unicode/utf8.acceptRanges", "internal/bytealg.MaxLen", "strconv.ErrSyntax", "strconv.ErrRange", "internal/strconv.uint64pow10", "math/bits.deBruijn32tab", "math/bits.deBruijn64tab"], plainKeys := false, apart := false, laid := [("math/bits.deBruijn32tab", laid_math_bits_deBruijn32tab), ("math/bits.deBruijn64tab", laid_math_bits_deBruijn64tab), ("internal/strconv.uint64pow10", laid_internal_strconv_uint64pow10), ("unicode/utf8.acceptRanges", laid_unicode_utf8_acceptRanges), ("strconv.ErrRange", laid_strconv_ErrRange), ("strconv.ErrSyntax", laid_strconv_ErrSyntax), ("circa/ends.least", laid_circa_ends_least), ("circa/ends.greatest", laid_circa_ends_greatest), ("circa/runsets.first", laid_circa_runsets_first), ("circa/runsets.last", laid_circa_runsets_last), ("unicode/utf8.first", laid_unicode_utf8_first)] }
def RunsetsPlainSaid : Prop := runsetsPlainRow.holds Tryz.pinned (OpenSpec.ofChange runsetsPlainSpec)

/-- ITS FALSE NEIGHBOUR: 'it returns false'. Refute it at one input. -/
def runsetsPlainWrong : ChangeSpec := { name := "runsetsPlain", fn := fun _ => fun
  | [d1, d2] => { results := [.lit (.bool false)], args := [d1, d2] }
  | _ => none }
def RunsetsPlainWrongFalsely : Prop := runsetsPlainRow.holds Tryz.pinned (OpenSpec.ofChange runsetsPlainWrong)

/-- 'circalaw10.RunsetsText': WHATEVER THE INPUT: true; the input reads as it did. -/
def runsetsTextSpec : ChangeSpec := { name := "runsetsText", fn := fun _ => fun
  | [d1, d2] => { results := [.lit (.bool true)], args := [d1, d2] }
  | _ => none }
def runsetsTextRow : OpenClaim := { program := "ytndjcmclmhoigaagreatdoor", sum := "1cc0f0935f48c7f349d0954fb299ede796245886e6a34ce6f22f060bbd5641f6", func := "circa/circalaw10.RunsetsText", spec := "runsetsText", inPlace := ["internal/bytealg.IndexByteString", "internal/bytealg.IndexString", "internal/abi.NoEscape", "internal/bytealg.MakeNoZero"], unfollowed := true, recurses := true, named := ["circa/ends.least", "circa/ends.greatest", "circa/runsets.first", "circa/runsets.last", "unicode/utf8.first", "unicode/utf8.acceptRanges", "internal/bytealg.MaxLen", "strconv.ErrSyntax", "strconv.ErrRange", "internal/strconv.uint64pow10", "math/bits.deBruijn32tab", "math/bits.deBruijn64tab"], plainKeys := false, apart := false, laid := [("math/bits.deBruijn32tab", laid_math_bits_deBruijn32tab), ("math/bits.deBruijn64tab", laid_math_bits_deBruijn64tab), ("internal/strconv.uint64pow10", laid_internal_strconv_uint64pow10), ("unicode/utf8.acceptRanges", laid_unicode_utf8_acceptRanges), ("strconv.ErrRange", laid_strconv_ErrRange), ("strconv.ErrSyntax", laid_strconv_ErrSyntax), ("circa/ends.least", laid_circa_ends_least), ("circa/ends.greatest", laid_circa_ends_greatest), ("circa/runsets.first", laid_circa_runsets_first), ("circa/runsets.last", laid_circa_runsets_last), ("unicode/utf8.first", laid_unicode_utf8_first)] }
def RunsetsTextSaid : Prop := runsetsTextRow.holds Tryz.pinned (OpenSpec.ofChange runsetsTextSpec)

/-- ITS FALSE NEIGHBOUR: 'it returns false'. Refute it at one input. -/
def runsetsTextWrong : ChangeSpec := { name := "runsetsText", fn := fun _ => fun
  | [d1, d2] => { results := [.lit (.bool false)], args := [d1, d2] }
  | _ => none }
def RunsetsTextWrongFalsely : Prop := runsetsTextRow.holds Tryz.pinned (OpenSpec.ofChange runsetsTextWrong)

/-- 'circalaw10.RunsetsKnown': WHATEVER THE INPUT: true; the input reads as it did. -/
def runsetsKnownSpec : ChangeSpec := { name := "runsetsKnown", fn := fun _ => fun
  | [] => { results := [.lit (.bool true)], args := [] }
  | _ => none }
def runsetsKnownRow : OpenClaim := { program := "ytndjcmclmhoigaagreatdoor", sum := "1cc0f0935f48c7f349d0954fb299ede796245886e6a34ce6f22f060bbd5641f6", func := "circa/circalaw10.RunsetsKnown", spec := "runsetsKnown", inPlace := ["internal/bytealg.IndexByteString", "internal/bytealg.IndexString", "internal/abi.NoEscape", "internal/bytealg.MakeNoZero"], unfollowed := true, recurses := true, named := ["circa/ends.least", "circa/ends.greatest", "circa/runsets.first", "circa/runsets.last", "unicode/utf8.first", "unicode/utf8.acceptRanges", "internal/bytealg.MaxLen", "strconv.ErrSyntax", "strconv.ErrRange", "internal/strconv.uint64pow10", "math/bits.deBruijn32tab", "math/bits.deBruijn64tab"], plainKeys := false, apart := false, laid := [("math/bits.deBruijn32tab", laid_math_bits_deBruijn32tab), ("math/bits.deBruijn64tab", laid_math_bits_deBruijn64tab), ("internal/strconv.uint64pow10", laid_internal_strconv_uint64pow10), ("unicode/utf8.acceptRanges", laid_unicode_utf8_acceptRanges), ("strconv.ErrRange", laid_strconv_ErrRange), ("strconv.ErrSyntax", laid_strconv_ErrSyntax), ("circa/ends.least", laid_circa_ends_least), ("circa/ends.greatest", laid_circa_ends_greatest), ("circa/runsets.first", laid_circa_runsets_first), ("circa/runsets.last", laid_circa_runsets_last), ("unicode/utf8.first", laid_unicode_utf8_first)] }
def RunsetsKnownSaid : Prop := runsetsKnownRow.holds Tryz.pinned (OpenSpec.ofChange runsetsKnownSpec)

/-- ITS FALSE NEIGHBOUR: 'it returns false'. Refute it at one input. -/
def runsetsKnownWrong : ChangeSpec := { name := "runsetsKnown", fn := fun _ => fun
  | [] => { results := [.lit (.bool false)], args := [] }
  | _ => none }
def RunsetsKnownWrongFalsely : Prop := runsetsKnownRow.holds Tryz.pinned (OpenSpec.ofChange runsetsKnownWrong)

/- THE SECOND FORM. 'bulk': how many values and letters a reading holds, each counted each time it is reached (what is shared counts as often as it is met; a slice's spare places count too). A statement '..UptoSaid' is the law's where the arguments, and the package variables that the reading takes, are together of bulk at most 1048576: NARROWER than '..Said'. Prove '..Said' where nothing that the law and all that it calls make is longer than what came in: it says more and counts as full. Else prove '..UptoSaid'. A law counts once. -/
mutual
def uptoBulk {H : Type} : DataW H → Nat
  | .lit (.string bytes) => bytes.length + 1
  | .lit _ => 1
  | .nil => 1
  | .ptr d => uptoBulk d + 1
  | .slice elems spare => uptoBulkAll elems + uptoBulkAll spare + 1
  | .agg parts => uptoBulkAll parts + 1
  | .iface _ d => uptoBulk d + 1
  | .map entries => uptoBulkEntries entries + 1
  | .held _ => 1
def uptoBulkAll {H : Type} : List (DataW H) → Nat
  | [] => 0
  | d :: r => uptoBulk d + uptoBulkAll r
def uptoBulkEntries {H : Type} : List (Lit × DataW H) → Nat
  | [] => 0
  | x :: r => uptoBulkEntry x + uptoBulkEntries r
def uptoBulkEntry {H : Type} : Lit × DataW H → Nat
  | (.string bytes, d) => bytes.length + uptoBulk d + 1
  | (_, d) => uptoBulk d + 1
 end
def uptoSmall : (H : Type) → List (DataW H) → Bool := fun _ ds => decide (uptoBulkAll ds ≤ 1048576)
def OpenSpec.upto (s : _root_.Go.ChangeSpec) : _root_.Go.OpenSpec := { _root_.Go.OpenSpec.ofChange s with cond := some uptoSmall }

/-- 'circalaw09.RunsPairs', WHERE WHAT IT READS IS OF BULK AT MOST 1048576: true; the input reads as it did. -/
def runsPairsUptoRow : OpenClaim := { program := "ytndjcmclmhoigaagreatdoor", sum := "1cc0f0935f48c7f349d0954fb299ede796245886e6a34ce6f22f060bbd5641f6", func := "circa/circalaw09.RunsPairs", spec := "runsPairs", inPlace := ["internal/bytealg.IndexByteString", "internal/bytealg.IndexString"], unfollowed := true, recurses := true, named := ["circa/ends.least", "circa/ends.greatest", "internal/bytealg.MaxLen", "unicode/utf8.first", "unicode/utf8.acceptRanges", "strconv.ErrSyntax", "strconv.ErrRange", "internal/strconv.uint64pow10", "math/bits.deBruijn32tab", "math/bits.deBruijn64tab"], plainKeys := false, apart := false, laid := [("math/bits.deBruijn32tab", laid_math_bits_deBruijn32tab), ("math/bits.deBruijn64tab", laid_math_bits_deBruijn64tab), ("internal/strconv.uint64pow10", laid_internal_strconv_uint64pow10), ("unicode/utf8.acceptRanges", laid_unicode_utf8_acceptRanges), ("strconv.ErrRange", laid_strconv_ErrRange), ("strconv.ErrSyntax", laid_strconv_ErrSyntax), ("circa/ends.least", laid_circa_ends_least), ("circa/ends.greatest", laid_circa_ends_greatest), ("unicode/utf8.first", laid_unicode_utf8_first)], narrowed := true }
def RunsPairsUptoSaid : Prop := runsPairsUptoRow.holds Tryz.pinned (OpenSpec.upto runsPairsSpec)

/-- 'circalaw09.RunsOne', WHERE WHAT IT READS IS OF BULK AT MOST 1048576: true; the input reads as it did. -/
def runsOneUptoRow : OpenClaim := { program := "ytndjcmclmhoigaagreatdoor", sum := "1cc0f0935f48c7f349d0954fb299ede796245886e6a34ce6f22f060bbd5641f6", func := "circa/circalaw09.RunsOne", spec := "runsOne", inPlace := ["internal/bytealg.IndexByteString", "internal/bytealg.IndexString"], unfollowed := true, recurses := true, named := ["circa/ends.least", "circa/ends.greatest", "internal/bytealg.MaxLen", "unicode/utf8.first", "unicode/utf8.acceptRanges", "strconv.ErrSyntax", "strconv.ErrRange", "internal/strconv.uint64pow10", "math/bits.deBruijn32tab", "math/bits.deBruijn64tab"], plainKeys := false, apart := false, laid := [("math/bits.deBruijn32tab", laid_math_bits_deBruijn32tab), ("math/bits.deBruijn64tab", laid_math_bits_deBruijn64tab), ("internal/strconv.uint64pow10", laid_internal_strconv_uint64pow10), ("unicode/utf8.acceptRanges", laid_unicode_utf8_acceptRanges), ("strconv.ErrRange", laid_strconv_ErrRange), ("strconv.ErrSyntax", laid_strconv_ErrSyntax), ("circa/ends.least", laid_circa_ends_least), ("circa/ends.greatest", laid_circa_ends_greatest), ("unicode/utf8.first", laid_unicode_utf8_first)], narrowed := true }
def RunsOneUptoSaid : Prop := runsOneUptoRow.holds Tryz.pinned (OpenSpec.upto runsOneSpec)

/-- 'circalaw09.RunsText', WHERE WHAT IT READS IS OF BULK AT MOST 1048576: true; the input reads as it did. -/
def runsTextUptoRow : OpenClaim := { program := "ytndjcmclmhoigaagreatdoor", sum := "1cc0f0935f48c7f349d0954fb299ede796245886e6a34ce6f22f060bbd5641f6", func := "circa/circalaw09.RunsText", spec := "runsText", inPlace := ["internal/bytealg.IndexByteString", "internal/bytealg.IndexString"], unfollowed := true, recurses := true, named := ["circa/ends.least", "circa/ends.greatest", "internal/strconv.uint64pow10", "math/bits.deBruijn32tab", "math/bits.deBruijn64tab", "internal/bytealg.MaxLen", "unicode/utf8.first", "unicode/utf8.acceptRanges", "strconv.ErrSyntax", "strconv.ErrRange"], plainKeys := false, apart := false, laid := [("math/bits.deBruijn32tab", laid_math_bits_deBruijn32tab), ("math/bits.deBruijn64tab", laid_math_bits_deBruijn64tab), ("internal/strconv.uint64pow10", laid_internal_strconv_uint64pow10), ("unicode/utf8.acceptRanges", laid_unicode_utf8_acceptRanges), ("strconv.ErrRange", laid_strconv_ErrRange), ("strconv.ErrSyntax", laid_strconv_ErrSyntax), ("circa/ends.least", laid_circa_ends_least), ("circa/ends.greatest", laid_circa_ends_greatest), ("unicode/utf8.first", laid_unicode_utf8_first)], narrowed := true }
def RunsTextUptoSaid : Prop := runsTextUptoRow.holds Tryz.pinned (OpenSpec.upto runsTextSpec)

/-- 'circalaw09.RunsParse', WHERE WHAT IT READS IS OF BULK AT MOST 1048576: true; the input reads as it did. -/
def runsParseUptoRow : OpenClaim := { program := "ytndjcmclmhoigaagreatdoor", sum := "1cc0f0935f48c7f349d0954fb299ede796245886e6a34ce6f22f060bbd5641f6", func := "circa/circalaw09.RunsParse", spec := "runsParse", inPlace := ["internal/bytealg.IndexByteString", "internal/bytealg.IndexString"], unfollowed := true, recurses := true, named := ["circa/ends.least", "circa/ends.greatest", "internal/bytealg.MaxLen", "unicode/utf8.first", "unicode/utf8.acceptRanges", "strconv.ErrSyntax", "strconv.ErrRange", "internal/strconv.uint64pow10", "math/bits.deBruijn32tab", "math/bits.deBruijn64tab"], plainKeys := false, apart := false, laid := [("math/bits.deBruijn32tab", laid_math_bits_deBruijn32tab), ("math/bits.deBruijn64tab", laid_math_bits_deBruijn64tab), ("internal/strconv.uint64pow10", laid_internal_strconv_uint64pow10), ("unicode/utf8.acceptRanges", laid_unicode_utf8_acceptRanges), ("strconv.ErrRange", laid_strconv_ErrRange), ("strconv.ErrSyntax", laid_strconv_ErrSyntax), ("circa/ends.least", laid_circa_ends_least), ("circa/ends.greatest", laid_circa_ends_greatest), ("unicode/utf8.first", laid_unicode_utf8_first)], narrowed := true }
def RunsParseUptoSaid : Prop := runsParseUptoRow.holds Tryz.pinned (OpenSpec.upto runsParseSpec)

/-- 'circalaw09.RunsKnown', WHERE WHAT IT READS IS OF BULK AT MOST 1048576: true; the input reads as it did. -/
def runsKnownUptoRow : OpenClaim := { program := "ytndjcmclmhoigaagreatdoor", sum := "1cc0f0935f48c7f349d0954fb299ede796245886e6a34ce6f22f060bbd5641f6", func := "circa/circalaw09.RunsKnown", spec := "runsKnown", inPlace := ["internal/bytealg.IndexByteString", "internal/bytealg.IndexString"], unfollowed := true, recurses := true, named := ["circa/ends.least", "circa/ends.greatest", "internal/bytealg.MaxLen", "unicode/utf8.first", "unicode/utf8.acceptRanges", "strconv.ErrSyntax", "strconv.ErrRange", "internal/strconv.uint64pow10", "math/bits.deBruijn32tab", "math/bits.deBruijn64tab"], plainKeys := false, apart := false, laid := [("math/bits.deBruijn32tab", laid_math_bits_deBruijn32tab), ("math/bits.deBruijn64tab", laid_math_bits_deBruijn64tab), ("internal/strconv.uint64pow10", laid_internal_strconv_uint64pow10), ("unicode/utf8.acceptRanges", laid_unicode_utf8_acceptRanges), ("strconv.ErrRange", laid_strconv_ErrRange), ("strconv.ErrSyntax", laid_strconv_ErrSyntax), ("circa/ends.least", laid_circa_ends_least), ("circa/ends.greatest", laid_circa_ends_greatest), ("unicode/utf8.first", laid_unicode_utf8_first)], narrowed := true }
def RunsKnownUptoSaid : Prop := runsKnownUptoRow.holds Tryz.pinned (OpenSpec.upto runsKnownSpec)

/-- 'circalaw10.RunsetsOf', WHERE WHAT IT READS IS OF BULK AT MOST 1048576: true; the input reads as it did. -/
def runsetsOfUptoRow : OpenClaim := { program := "ytndjcmclmhoigaagreatdoor", sum := "1cc0f0935f48c7f349d0954fb299ede796245886e6a34ce6f22f060bbd5641f6", func := "circa/circalaw10.RunsetsOf", spec := "runsetsOf", inPlace := ["internal/bytealg.IndexByteString", "internal/bytealg.IndexString"], unfollowed := true, recurses := true, named := ["circa/ends.least", "circa/ends.greatest", "circa/runsets.first", "circa/runsets.last", "unicode/utf8.first", "unicode/utf8.acceptRanges", "internal/bytealg.MaxLen", "strconv.ErrSyntax", "strconv.ErrRange", "internal/strconv.uint64pow10", "math/bits.deBruijn32tab", "math/bits.deBruijn64tab"], plainKeys := false, apart := false, laid := [("math/bits.deBruijn32tab", laid_math_bits_deBruijn32tab), ("math/bits.deBruijn64tab", laid_math_bits_deBruijn64tab), ("internal/strconv.uint64pow10", laid_internal_strconv_uint64pow10), ("unicode/utf8.acceptRanges", laid_unicode_utf8_acceptRanges), ("strconv.ErrRange", laid_strconv_ErrRange), ("strconv.ErrSyntax", laid_strconv_ErrSyntax), ("circa/ends.least", laid_circa_ends_least), ("circa/ends.greatest", laid_circa_ends_greatest), ("circa/runsets.first", laid_circa_runsets_first), ("circa/runsets.last", laid_circa_runsets_last), ("unicode/utf8.first", laid_unicode_utf8_first)], narrowed := true }
def RunsetsOfUptoSaid : Prop := runsetsOfUptoRow.holds Tryz.pinned (OpenSpec.upto runsetsOfSpec)

/-- 'circalaw10.RunsetsPairs', WHERE WHAT IT READS IS OF BULK AT MOST 1048576: true; the input reads as it did. -/
def runsetsPairsUptoRow : OpenClaim := { program := "ytndjcmclmhoigaagreatdoor", sum := "1cc0f0935f48c7f349d0954fb299ede796245886e6a34ce6f22f060bbd5641f6", func := "circa/circalaw10.RunsetsPairs", spec := "runsetsPairs", inPlace := ["internal/bytealg.IndexByteString", "internal/bytealg.IndexString"], unfollowed := true, recurses := true, named := ["circa/ends.least", "circa/ends.greatest", "circa/runsets.first", "circa/runsets.last", "unicode/utf8.first", "unicode/utf8.acceptRanges", "internal/bytealg.MaxLen", "strconv.ErrSyntax", "strconv.ErrRange", "internal/strconv.uint64pow10", "math/bits.deBruijn32tab", "math/bits.deBruijn64tab"], plainKeys := false, apart := false, laid := [("math/bits.deBruijn32tab", laid_math_bits_deBruijn32tab), ("math/bits.deBruijn64tab", laid_math_bits_deBruijn64tab), ("internal/strconv.uint64pow10", laid_internal_strconv_uint64pow10), ("unicode/utf8.acceptRanges", laid_unicode_utf8_acceptRanges), ("strconv.ErrRange", laid_strconv_ErrRange), ("strconv.ErrSyntax", laid_strconv_ErrSyntax), ("circa/ends.least", laid_circa_ends_least), ("circa/ends.greatest", laid_circa_ends_greatest), ("circa/runsets.first", laid_circa_runsets_first), ("circa/runsets.last", laid_circa_runsets_last), ("unicode/utf8.first", laid_unicode_utf8_first)], narrowed := true }
def RunsetsPairsUptoSaid : Prop := runsetsPairsUptoRow.holds Tryz.pinned (OpenSpec.upto runsetsPairsSpec)

/-- 'circalaw10.RunsetsOne', WHERE WHAT IT READS IS OF BULK AT MOST 1048576: true; the input reads as it did. -/
def runsetsOneUptoRow : OpenClaim := { program := "ytndjcmclmhoigaagreatdoor", sum := "1cc0f0935f48c7f349d0954fb299ede796245886e6a34ce6f22f060bbd5641f6", func := "circa/circalaw10.RunsetsOne", spec := "runsetsOne", inPlace := ["internal/bytealg.IndexByteString", "internal/bytealg.IndexString"], unfollowed := true, recurses := true, named := ["circa/ends.least", "circa/ends.greatest", "circa/runsets.first", "circa/runsets.last", "unicode/utf8.first", "unicode/utf8.acceptRanges", "internal/bytealg.MaxLen", "strconv.ErrSyntax", "strconv.ErrRange", "internal/strconv.uint64pow10", "math/bits.deBruijn32tab", "math/bits.deBruijn64tab"], plainKeys := false, apart := false, laid := [("math/bits.deBruijn32tab", laid_math_bits_deBruijn32tab), ("math/bits.deBruijn64tab", laid_math_bits_deBruijn64tab), ("internal/strconv.uint64pow10", laid_internal_strconv_uint64pow10), ("unicode/utf8.acceptRanges", laid_unicode_utf8_acceptRanges), ("strconv.ErrRange", laid_strconv_ErrRange), ("strconv.ErrSyntax", laid_strconv_ErrSyntax), ("circa/ends.least", laid_circa_ends_least), ("circa/ends.greatest", laid_circa_ends_greatest), ("circa/runsets.first", laid_circa_runsets_first), ("circa/runsets.last", laid_circa_runsets_last), ("unicode/utf8.first", laid_unicode_utf8_first)], narrowed := true }
def RunsetsOneUptoSaid : Prop := runsetsOneUptoRow.holds Tryz.pinned (OpenSpec.upto runsetsOneSpec)

/-- 'circalaw10.RunsetsPlain', WHERE WHAT IT READS IS OF BULK AT MOST 1048576: true; the input reads as it did. -/
def runsetsPlainUptoRow : OpenClaim := { program := "ytndjcmclmhoigaagreatdoor", sum := "1cc0f0935f48c7f349d0954fb299ede796245886e6a34ce6f22f060bbd5641f6", func := "circa/circalaw10.RunsetsPlain", spec := "runsetsPlain", inPlace := ["internal/bytealg.IndexByteString", "internal/bytealg.IndexString"], unfollowed := true, recurses := true, named := ["circa/ends.least", "circa/ends.greatest", "circa/runsets.first", "circa/runsets.last", "unicode/utf8.first", "unicode/utf8.acceptRanges", "internal/bytealg.MaxLen", "strconv.ErrSyntax", "strconv.ErrRange", "internal/strconv.uint64pow10", "math/bits.deBruijn32tab", "math/bits.deBruijn64tab"], plainKeys := false, apart := false, laid := [("math/bits.deBruijn32tab", laid_math_bits_deBruijn32tab), ("math/bits.deBruijn64tab", laid_math_bits_deBruijn64tab), ("internal/strconv.uint64pow10", laid_internal_strconv_uint64pow10), ("unicode/utf8.acceptRanges", laid_unicode_utf8_acceptRanges), ("strconv.ErrRange", laid_strconv_ErrRange), ("strconv.ErrSyntax", laid_strconv_ErrSyntax), ("circa/ends.least", laid_circa_ends_least), ("circa/ends.greatest", laid_circa_ends_greatest), ("circa/runsets.first", laid_circa_runsets_first), ("circa/runsets.last", laid_circa_runsets_last), ("unicode/utf8.first", laid_unicode_utf8_first)], narrowed := true }
def RunsetsPlainUptoSaid : Prop := runsetsPlainUptoRow.holds Tryz.pinned (OpenSpec.upto runsetsPlainSpec)

/-- 'circalaw10.RunsetsText', WHERE WHAT IT READS IS OF BULK AT MOST 1048576: true; the input reads as it did. -/
def runsetsTextUptoRow : OpenClaim := { program := "ytndjcmclmhoigaagreatdoor", sum := "1cc0f0935f48c7f349d0954fb299ede796245886e6a34ce6f22f060bbd5641f6", func := "circa/circalaw10.RunsetsText", spec := "runsetsText", inPlace := ["internal/bytealg.IndexByteString", "internal/bytealg.IndexString", "internal/abi.NoEscape", "internal/bytealg.MakeNoZero"], unfollowed := true, recurses := true, named := ["circa/ends.least", "circa/ends.greatest", "circa/runsets.first", "circa/runsets.last", "unicode/utf8.first", "unicode/utf8.acceptRanges", "internal/bytealg.MaxLen", "strconv.ErrSyntax", "strconv.ErrRange", "internal/strconv.uint64pow10", "math/bits.deBruijn32tab", "math/bits.deBruijn64tab"], plainKeys := false, apart := false, laid := [("math/bits.deBruijn32tab", laid_math_bits_deBruijn32tab), ("math/bits.deBruijn64tab", laid_math_bits_deBruijn64tab), ("internal/strconv.uint64pow10", laid_internal_strconv_uint64pow10), ("unicode/utf8.acceptRanges", laid_unicode_utf8_acceptRanges), ("strconv.ErrRange", laid_strconv_ErrRange), ("strconv.ErrSyntax", laid_strconv_ErrSyntax), ("circa/ends.least", laid_circa_ends_least), ("circa/ends.greatest", laid_circa_ends_greatest), ("circa/runsets.first", laid_circa_runsets_first), ("circa/runsets.last", laid_circa_runsets_last), ("unicode/utf8.first", laid_unicode_utf8_first)], narrowed := true }
def RunsetsTextUptoSaid : Prop := runsetsTextUptoRow.holds Tryz.pinned (OpenSpec.upto runsetsTextSpec)

/-- 'circalaw10.RunsetsKnown', WHERE WHAT IT READS IS OF BULK AT MOST 1048576: true; the input reads as it did. -/
def runsetsKnownUptoRow : OpenClaim := { program := "ytndjcmclmhoigaagreatdoor", sum := "1cc0f0935f48c7f349d0954fb299ede796245886e6a34ce6f22f060bbd5641f6", func := "circa/circalaw10.RunsetsKnown", spec := "runsetsKnown", inPlace := ["internal/bytealg.IndexByteString", "internal/bytealg.IndexString", "internal/abi.NoEscape", "internal/bytealg.MakeNoZero"], unfollowed := true, recurses := true, named := ["circa/ends.least", "circa/ends.greatest", "circa/runsets.first", "circa/runsets.last", "unicode/utf8.first", "unicode/utf8.acceptRanges", "internal/bytealg.MaxLen", "strconv.ErrSyntax", "strconv.ErrRange", "internal/strconv.uint64pow10", "math/bits.deBruijn32tab", "math/bits.deBruijn64tab"], plainKeys := false, apart := false, laid := [("math/bits.deBruijn32tab", laid_math_bits_deBruijn32tab), ("math/bits.deBruijn64tab", laid_math_bits_deBruijn64tab), ("internal/strconv.uint64pow10", laid_internal_strconv_uint64pow10), ("unicode/utf8.acceptRanges", laid_unicode_utf8_acceptRanges), ("strconv.ErrRange", laid_strconv_ErrRange), ("strconv.ErrSyntax", laid_strconv_ErrSyntax), ("circa/ends.least", laid_circa_ends_least), ("circa/ends.greatest", laid_circa_ends_greatest), ("circa/runsets.first", laid_circa_runsets_first), ("circa/runsets.last", laid_circa_runsets_last), ("unicode/utf8.first", laid_unicode_utf8_first)], narrowed := true }
def RunsetsKnownUptoSaid : Prop := runsetsKnownUptoRow.holds Tryz.pinned (OpenSpec.upto runsetsKnownSpec)

end Rows
end Go.Proofs.YtndjcmclmhoigaaGreatDoor
