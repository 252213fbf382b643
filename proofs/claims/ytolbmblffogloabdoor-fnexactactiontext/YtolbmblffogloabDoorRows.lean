/-
  NARROWER THAN 'FOR EVERY INPUT', by the rows' own cells (each row's printed sentence says how): FnExactReadFields: ifaces, laid · FnExactParserOK: laid · FnExactParseByte: laid · FnExactParseBytes: laid · FnExactActionOK: laid · FnExactActionText: laid.
  DERIVED. THE GIVEN ROWS OF THIS SEAT. 6 by the template 'for every input the law returns true; each argument reads behind the call as it read before'; 0 by the template 'total and deterministic' (their statements: YtolbmblffogloabDoorTotals.lean).
  GIVEN WITH THE SEED: the statements are not yours to turn. If you find one false, say at which input.
  Laid BY PROGRAM, IN A SANDBOX (cutbox-rows.mjs): the forced cells as the released guide's own fill.sh prints them over the translation 960bbf4602274dbf… (all of the seat's roots in one cut). By AI agents, Wed Nov 11 2026. No macro, syntax, notation, axiom, sorry.
-/
import Derived.Test.YtolbmblffogloabDoorChecked
import GoSem.PinnedTables
import GoSem.Claim
import GoSem.ClaimJoined
import GoSem.ClaimMapViews
import Derived.JoinedTies
import Derived.KernelRfl
namespace Go.Proofs.YtolbmblffogloabDoor
/- THE CELL 'sum', in the pinned program and in every row, IS THE sha256 OF THE DUMP (.gsa) THAT YtolbmblffogloabDoorProg.lean LOADS. Nothing in Lean hashes anything: it is a label: what it is worth is what the hold of that sum in a sandbox is worth. -/
noncomputable def Tryd.pinned : Pinned := { name := "ytolbmblffogloabdoor", sum := "960bbf4602274dbf1a7432e65deead9c0ff951cd2fe6872ccb8e4291e6c69723", checked := Tryd.checked }
namespace Rows
def none {H : Type} : Left H := { results := [], args := [] }

/- WHAT THE LISTED PACKAGE-LEVEL VARIABLES READ AS WHEN THE CALL BEGINS. Each datum BY PROGRAM (the guide's laid-datum.mjs) off the statement by which the dump's own 'gosem.cut.vars' lays the variable. In a bare row this is a premise. The card (YtolbmblffogloabDoorCards.lean) ties it to the program's text. -/
def laid_errors_errorType {H : Type} : DataW H := .iface "internal/reflectlite.rtype" (.agg [.ptr (.lit (.string [101, 114, 114, 111, 114]))])
def laid_loop_example_g00308_impl_errCutOff {H : Type} : DataW H := .iface "*errors.errorString" (.ptr (.agg [.lit (.string [98, 121, 116, 101, 115, 32, 97, 114, 101, 32, 99, 117, 116, 32, 111, 102, 102])]))
def laid_loop_example_g00308_impl_errBounds {H : Type} : DataW H := .iface "*errors.errorString" (.ptr (.agg [.lit (.string [97, 32, 110, 117, 109, 98, 101, 114, 32, 105, 115, 32, 111, 117, 116, 32, 111, 102, 32, 105, 116, 115, 32, 98, 111, 117, 110, 100, 115])]))
def laid_loop_example_g00308_impl_errBehind {H : Type} : DataW H := .iface "*errors.errorString" (.ptr (.agg [.lit (.string [98, 121, 116, 101, 115, 32, 115, 116, 97, 110, 100, 32, 98, 101, 104, 105, 110, 100, 32, 116, 104, 101, 32, 101, 110, 100])]))
def laid_unicode_utf8_acceptRanges {H : Type} : DataW H := .agg [.agg [.lit (.int .u8 128), .lit (.int .u8 191)], .agg [.lit (.int .u8 160), .lit (.int .u8 191)], .agg [.lit (.int .u8 128), .lit (.int .u8 159)], .agg [.lit (.int .u8 144), .lit (.int .u8 191)], .agg [.lit (.int .u8 128), .lit (.int .u8 143)], .agg [.lit (.int .u8 0), .lit (.int .u8 0)], .agg [.lit (.int .u8 0), .lit (.int .u8 0)], .agg [.lit (.int .u8 0), .lit (.int .u8 0)], .agg [.lit (.int .u8 0), .lit (.int .u8 0)], .agg [.lit (.int .u8 0), .lit (.int .u8 0)], .agg [.lit (.int .u8 0), .lit (.int .u8 0)], .agg [.lit (.int .u8 0), .lit (.int .u8 0)], .agg [.lit (.int .u8 0), .lit (.int .u8 0)], .agg [.lit (.int .u8 0), .lit (.int .u8 0)], .agg [.lit (.int .u8 0), .lit (.int .u8 0)], .agg [.lit (.int .u8 0), .lit (.int .u8 0)]]
def laid_loop_example_g00308_impl_stateKeeps {H : Type} : DataW H := .agg [.agg [.lit (.bool false), .lit (.bool false), .lit (.bool false)], .agg [.lit (.bool false), .lit (.bool false), .lit (.bool false)], .agg [.lit (.bool true), .lit (.bool false), .lit (.bool false)], .agg [.lit (.bool false), .lit (.bool false), .lit (.bool false)], .agg [.lit (.bool false), .lit (.bool true), .lit (.bool false)], .agg [.lit (.bool false), .lit (.bool true), .lit (.bool false)], .agg [.lit (.bool false), .lit (.bool false), .lit (.bool true)]]
/-- One of Go's own tables, pinned by name: the form's constant. -/
def laid_unicode_utf8_first : DataW Unit := Go.Pinned.utf8First
def laid_loop_example_g00308_impl_stateSteps {H : Type} : DataW H := .agg [.agg [.lit (.int .i64 0), .lit (.int .i64 27), .lit (.int .i64 27), .lit (.int .i64 0), .lit (.int .i64 1)], .agg [.lit (.int .i64 0), .lit (.int .i64 7), .lit (.int .i64 10), .lit (.int .i64 3), .lit (.int .i64 0)], .agg [.lit (.int .i64 0), .lit (.int .i64 13), .lit (.int .i64 13), .lit (.int .i64 3), .lit (.int .i64 0)], .agg [.lit (.int .i64 0), .lit (.int .i64 32), .lit (.int .i64 126), .lit (.int .i64 1), .lit (.int .i64 0)], .agg [.lit (.int .i64 0), .lit (.int .i64 0), .lit (.int .i64 127), .lit (.int .i64 0), .lit (.int .i64 0)], .agg [.lit (.int .i64 0), .lit (.int .i64 194), .lit (.int .i64 244), .lit (.int .i64 12), .lit (.int .i64 6)], .agg [.lit (.int .i64 0), .lit (.int .i64 0), .lit (.int .i64 255), .lit (.int .i64 2), .lit (.int .i64 0)], .agg [.lit (.int .i64 1), .lit (.int .i64 91), .lit (.int .i64 91), .lit (.int .i64 7), .lit (.int .i64 2)], .agg [.lit (.int .i64 1), .lit (.int .i64 93), .lit (.int .i64 93), .lit (.int .i64 0), .lit (.int .i64 4)], .agg [.lit (.int .i64 1), .lit (.int .i64 27), .lit (.int .i64 27), .lit (.int .i64 0), .lit (.int .i64 1)], .agg [.lit (.int .i64 1), .lit (.int .i64 55), .lit (.int .i64 56), .lit (.int .i64 4), .lit (.int .i64 0)], .agg [.lit (.int .i64 1), .lit (.int .i64 68), .lit (.int .i64 69), .lit (.int .i64 4), .lit (.int .i64 0)], .agg [.lit (.int .i64 1), .lit (.int .i64 77), .lit (.int .i64 77), .lit (.int .i64 4), .lit (.int .i64 0)], .agg [.lit (.int .i64 1), .lit (.int .i64 99), .lit (.int .i64 99), .lit (.int .i64 4), .lit (.int .i64 0)], .agg [.lit (.int .i64 1), .lit (.int .i64 0), .lit (.int .i64 255), .lit (.int .i64 0), .lit (.int .i64 0)], .agg [.lit (.int .i64 2), .lit (.int .i64 27), .lit (.int .i64 27), .lit (.int .i64 0), .lit (.int .i64 1)], .agg [.lit (.int .i64 2), .lit (.int .i64 7), .lit (.int .i64 10), .lit (.int .i64 3), .lit (.int .i64 2)], .agg [.lit (.int .i64 2), .lit (.int .i64 13), .lit (.int .i64 13), .lit (.int .i64 3), .lit (.int .i64 2)], .agg [.lit (.int .i64 2), .lit (.int .i64 48), .lit (.int .i64 57), .lit (.int .i64 8), .lit (.int .i64 2)], .agg [.lit (.int .i64 2), .lit (.int .i64 59), .lit (.int .i64 59), .lit (.int .i64 9), .lit (.int .i64 3)], .agg [.lit (.int .i64 2), .lit (.int .i64 63), .lit (.int .i64 63), .lit (.int .i64 10), .lit (.int .i64 3)], .agg [.lit (.int .i64 2), .lit (.int .i64 64), .lit (.int .i64 126), .lit (.int .i64 5), .lit (.int .i64 0)], .agg [.lit (.int .i64 2), .lit (.int .i64 0), .lit (.int .i64 255), .lit (.int .i64 0), .lit (.int .i64 3)], .agg [.lit (.int .i64 3), .lit (.int .i64 27), .lit (.int .i64 27), .lit (.int .i64 0), .lit (.int .i64 1)], .agg [.lit (.int .i64 3), .lit (.int .i64 64), .lit (.int .i64 126), .lit (.int .i64 0), .lit (.int .i64 0)], .agg [.lit (.int .i64 3), .lit (.int .i64 0), .lit (.int .i64 255), .lit (.int .i64 0), .lit (.int .i64 3)], .agg [.lit (.int .i64 4), .lit (.int .i64 7), .lit (.int .i64 7), .lit (.int .i64 6), .lit (.int .i64 0)], .agg [.lit (.int .i64 4), .lit (.int .i64 27), .lit (.int .i64 27), .lit (.int .i64 0), .lit (.int .i64 5)], .agg [.lit (.int .i64 4), .lit (.int .i64 32), .lit (.int .i64 126), .lit (.int .i64 11), .lit (.int .i64 4)], .agg [.lit (.int .i64 4), .lit (.int .i64 0), .lit (.int .i64 255), .lit (.int .i64 0), .lit (.int .i64 4)], .agg [.lit (.int .i64 5), .lit (.int .i64 92), .lit (.int .i64 92), .lit (.int .i64 6), .lit (.int .i64 0)], .agg [.lit (.int .i64 5), .lit (.int .i64 0), .lit (.int .i64 255), .lit (.int .i64 14), .lit (.int .i64 1)], .agg [.lit (.int .i64 6), .lit (.int .i64 0), .lit (.int .i64 255), .lit (.int .i64 13), .lit (.int .i64 0)]]
def laid_math_bits_deBruijn32tab {H : Type} : DataW H := .agg [.lit (.int .u8 0), .lit (.int .u8 1), .lit (.int .u8 28), .lit (.int .u8 2), .lit (.int .u8 29), .lit (.int .u8 14), .lit (.int .u8 24), .lit (.int .u8 3), .lit (.int .u8 30), .lit (.int .u8 22), .lit (.int .u8 20), .lit (.int .u8 15), .lit (.int .u8 25), .lit (.int .u8 17), .lit (.int .u8 4), .lit (.int .u8 8), .lit (.int .u8 31), .lit (.int .u8 27), .lit (.int .u8 13), .lit (.int .u8 23), .lit (.int .u8 21), .lit (.int .u8 19), .lit (.int .u8 16), .lit (.int .u8 7), .lit (.int .u8 26), .lit (.int .u8 12), .lit (.int .u8 18), .lit (.int .u8 6), .lit (.int .u8 11), .lit (.int .u8 5), .lit (.int .u8 10), .lit (.int .u8 9)]
def laid_math_bits_deBruijn64tab {H : Type} : DataW H := .agg [.lit (.int .u8 0), .lit (.int .u8 1), .lit (.int .u8 56), .lit (.int .u8 2), .lit (.int .u8 57), .lit (.int .u8 49), .lit (.int .u8 28), .lit (.int .u8 3), .lit (.int .u8 61), .lit (.int .u8 58), .lit (.int .u8 42), .lit (.int .u8 50), .lit (.int .u8 38), .lit (.int .u8 29), .lit (.int .u8 17), .lit (.int .u8 4), .lit (.int .u8 62), .lit (.int .u8 47), .lit (.int .u8 59), .lit (.int .u8 36), .lit (.int .u8 45), .lit (.int .u8 43), .lit (.int .u8 51), .lit (.int .u8 22), .lit (.int .u8 53), .lit (.int .u8 39), .lit (.int .u8 33), .lit (.int .u8 30), .lit (.int .u8 24), .lit (.int .u8 18), .lit (.int .u8 12), .lit (.int .u8 5), .lit (.int .u8 63), .lit (.int .u8 55), .lit (.int .u8 48), .lit (.int .u8 27), .lit (.int .u8 60), .lit (.int .u8 41), .lit (.int .u8 37), .lit (.int .u8 16), .lit (.int .u8 46), .lit (.int .u8 35), .lit (.int .u8 44), .lit (.int .u8 21), .lit (.int .u8 52), .lit (.int .u8 32), .lit (.int .u8 23), .lit (.int .u8 11), .lit (.int .u8 54), .lit (.int .u8 26), .lit (.int .u8 40), .lit (.int .u8 15), .lit (.int .u8 34), .lit (.int .u8 20), .lit (.int .u8 31), .lit (.int .u8 10), .lit (.int .u8 25), .lit (.int .u8 14), .lit (.int .u8 19), .lit (.int .u8 9), .lit (.int .u8 13), .lit (.int .u8 8), .lit (.int .u8 7), .lit (.int .u8 6)]
def laid_internal_strconv_uint64pow10 {H : Type} : DataW H := .agg [.lit (.int .u64 1), .lit (.int .u64 10), .lit (.int .u64 100), .lit (.int .u64 1000), .lit (.int .u64 10000), .lit (.int .u64 100000), .lit (.int .u64 1000000), .lit (.int .u64 10000000), .lit (.int .u64 100000000), .lit (.int .u64 1000000000), .lit (.int .u64 10000000000), .lit (.int .u64 100000000000), .lit (.int .u64 1000000000000), .lit (.int .u64 10000000000000), .lit (.int .u64 100000000000000), .lit (.int .u64 1000000000000000), .lit (.int .u64 10000000000000000), .lit (.int .u64 100000000000000000), .lit (.int .u64 1000000000000000000), .lit (.int .u64 10000000000000000000)]

/-- 'laws.FnExactReadFields': WHATEVER THE INPUT: true; the input reads as it did. -/
def fnExactReadFieldsSpec : ChangeSpec := { name := "fnExactReadFields", vars := ["loop.example/g00308/impl.errBounds", "loop.example/g00308/impl.errBehind", "loop.example/g00308/impl.errCutOff"], fn := fun _ => fun
  | [d, g1, g2, g3] => { results := [.lit (.bool true)], args := [d], vars := [g1, g2, g3] }
  | _ => none }
def fnExactReadFieldsRow : OpenClaim := { program := "ytolbmblffogloabdoor", sum := "960bbf4602274dbf1a7432e65deead9c0ff951cd2fe6872ccb8e4291e6c69723", func := "loop.example/g00308/laws.FnExactReadFields", spec := "fnExactReadFields", inPlace := ["internal/reflectlite.ValueOf", "(internal/reflectlite.Value).Type", "(internal/reflectlite.Value).IsNil", "internal/reflectlite.TypeOf", "(internal/reflectlite.Value).Elem", "(internal/reflectlite.Value).Set"], unfollowed := true, recurses := true, named := ["loop.example/g00308/impl.errBounds", "loop.example/g00308/impl.errBehind", "loop.example/g00308/impl.errCutOff", "errors.errorType"], ifaces := true, apart := false, laid := [("errors.errorType", laid_errors_errorType), ("loop.example/g00308/impl.errCutOff", laid_loop_example_g00308_impl_errCutOff), ("loop.example/g00308/impl.errBounds", laid_loop_example_g00308_impl_errBounds), ("loop.example/g00308/impl.errBehind", laid_loop_example_g00308_impl_errBehind)] }
def FnExactReadFieldsSaid : Prop := fnExactReadFieldsRow.holds Tryd.pinned (OpenSpec.ofChange fnExactReadFieldsSpec)

/-- ITS FALSE NEIGHBOUR: 'it returns false'. Refute it at one input. -/
def fnExactReadFieldsWrong : ChangeSpec := { name := "fnExactReadFields", vars := ["loop.example/g00308/impl.errBounds", "loop.example/g00308/impl.errBehind", "loop.example/g00308/impl.errCutOff"], fn := fun _ => fun
  | [d, g1, g2, g3] => { results := [.lit (.bool false)], args := [d], vars := [g1, g2, g3] }
  | _ => none }
def FnExactReadFieldsWrongFalsely : Prop := fnExactReadFieldsRow.holds Tryd.pinned (OpenSpec.ofChange fnExactReadFieldsWrong)

/-- 'laws.FnExactParserOK': WHATEVER THE INPUT: true; the input reads as it did. -/
def fnExactParserOKSpec : ChangeSpec := { name := "fnExactParserOK", vars := ["loop.example/g00308/impl.stateKeeps"], fn := fun _ => fun
  | [d, g1] => { results := [.lit (.bool true)], args := [d], vars := [g1] }
  | _ => none }
def fnExactParserOKRow : OpenClaim := { program := "ytolbmblffogloabdoor", sum := "960bbf4602274dbf1a7432e65deead9c0ff951cd2fe6872ccb8e4291e6c69723", func := "loop.example/g00308/laws.FnExactParserOK", spec := "fnExactParserOK", named := ["loop.example/g00308/impl.stateKeeps", "unicode/utf8.first", "unicode/utf8.acceptRanges"], apart := false, laid := [("unicode/utf8.acceptRanges", laid_unicode_utf8_acceptRanges), ("loop.example/g00308/impl.stateKeeps", laid_loop_example_g00308_impl_stateKeeps), ("unicode/utf8.first", laid_unicode_utf8_first)] }
def FnExactParserOKSaid : Prop := fnExactParserOKRow.holds Tryd.pinned (OpenSpec.ofChange fnExactParserOKSpec)

/-- ITS FALSE NEIGHBOUR: 'it returns false'. Refute it at one input. -/
def fnExactParserOKWrong : ChangeSpec := { name := "fnExactParserOK", vars := ["loop.example/g00308/impl.stateKeeps"], fn := fun _ => fun
  | [d, g1] => { results := [.lit (.bool false)], args := [d], vars := [g1] }
  | _ => none }
def FnExactParserOKWrongFalsely : Prop := fnExactParserOKRow.holds Tryd.pinned (OpenSpec.ofChange fnExactParserOKWrong)

/-- 'laws.FnExactParseByte': WHATEVER THE INPUT: true; the input reads as it did. -/
def fnExactParseByteSpec : ChangeSpec := { name := "fnExactParseByte", vars := ["loop.example/g00308/impl.stateKeeps", "loop.example/g00308/impl.stateSteps"], fn := fun _ => fun
  | [d1, d2, g1, g2] => { results := [.lit (.bool true)], args := [d1, d2], vars := [g1, g2] }
  | _ => none }
def fnExactParseByteRow : OpenClaim := { program := "ytolbmblffogloabdoor", sum := "960bbf4602274dbf1a7432e65deead9c0ff951cd2fe6872ccb8e4291e6c69723", func := "loop.example/g00308/laws.FnExactParseByte", spec := "fnExactParseByte", recurses := true, named := ["loop.example/g00308/impl.stateKeeps", "unicode/utf8.first", "unicode/utf8.acceptRanges", "loop.example/g00308/impl.stateSteps"], apart := false, laid := [("unicode/utf8.acceptRanges", laid_unicode_utf8_acceptRanges), ("loop.example/g00308/impl.stateKeeps", laid_loop_example_g00308_impl_stateKeeps), ("loop.example/g00308/impl.stateSteps", laid_loop_example_g00308_impl_stateSteps), ("unicode/utf8.first", laid_unicode_utf8_first)] }
def FnExactParseByteSaid : Prop := fnExactParseByteRow.holds Tryd.pinned (OpenSpec.ofChange fnExactParseByteSpec)

/-- ITS FALSE NEIGHBOUR: 'it returns false'. Refute it at one input. -/
def fnExactParseByteWrong : ChangeSpec := { name := "fnExactParseByte", vars := ["loop.example/g00308/impl.stateKeeps", "loop.example/g00308/impl.stateSteps"], fn := fun _ => fun
  | [d1, d2, g1, g2] => { results := [.lit (.bool false)], args := [d1, d2], vars := [g1, g2] }
  | _ => none }
def FnExactParseByteWrongFalsely : Prop := fnExactParseByteRow.holds Tryd.pinned (OpenSpec.ofChange fnExactParseByteWrong)

/-- 'laws.FnExactParseBytes': WHATEVER THE INPUT: true; the input reads as it did. -/
def fnExactParseBytesSpec : ChangeSpec := { name := "fnExactParseBytes", vars := ["loop.example/g00308/impl.stateKeeps", "loop.example/g00308/impl.stateSteps"], fn := fun _ => fun
  | [d1, d2, g1, g2] => { results := [.lit (.bool true)], args := [d1, d2], vars := [g1, g2] }
  | _ => none }
def fnExactParseBytesRow : OpenClaim := { program := "ytolbmblffogloabdoor", sum := "960bbf4602274dbf1a7432e65deead9c0ff951cd2fe6872ccb8e4291e6c69723", func := "loop.example/g00308/laws.FnExactParseBytes", spec := "fnExactParseBytes", recurses := true, named := ["loop.example/g00308/impl.stateKeeps", "unicode/utf8.first", "unicode/utf8.acceptRanges", "loop.example/g00308/impl.stateSteps"], apart := false, laid := [("unicode/utf8.acceptRanges", laid_unicode_utf8_acceptRanges), ("loop.example/g00308/impl.stateKeeps", laid_loop_example_g00308_impl_stateKeeps), ("loop.example/g00308/impl.stateSteps", laid_loop_example_g00308_impl_stateSteps), ("unicode/utf8.first", laid_unicode_utf8_first)] }
def FnExactParseBytesSaid : Prop := fnExactParseBytesRow.holds Tryd.pinned (OpenSpec.ofChange fnExactParseBytesSpec)

/-- ITS FALSE NEIGHBOUR: 'it returns false'. Refute it at one input. -/
def fnExactParseBytesWrong : ChangeSpec := { name := "fnExactParseBytes", vars := ["loop.example/g00308/impl.stateKeeps", "loop.example/g00308/impl.stateSteps"], fn := fun _ => fun
  | [d1, d2, g1, g2] => { results := [.lit (.bool false)], args := [d1, d2], vars := [g1, g2] }
  | _ => none }
def FnExactParseBytesWrongFalsely : Prop := fnExactParseBytesRow.holds Tryd.pinned (OpenSpec.ofChange fnExactParseBytesWrong)

/-- 'laws.FnExactActionOK': WHATEVER THE INPUT: true; the input reads as it did. -/
def fnExactActionOKSpec : ChangeSpec := { name := "fnExactActionOK", vars := ["loop.example/g00308/impl.stateSteps"], fn := fun _ => fun
  | [d, g1] => { results := [.lit (.bool true)], args := [d], vars := [g1] }
  | _ => none }
def fnExactActionOKRow : OpenClaim := { program := "ytolbmblffogloabdoor", sum := "960bbf4602274dbf1a7432e65deead9c0ff951cd2fe6872ccb8e4291e6c69723", func := "loop.example/g00308/laws.FnExactActionOK", spec := "fnExactActionOK", named := ["loop.example/g00308/impl.stateSteps"], apart := false, laid := [("loop.example/g00308/impl.stateSteps", laid_loop_example_g00308_impl_stateSteps)] }
def FnExactActionOKSaid : Prop := fnExactActionOKRow.holds Tryd.pinned (OpenSpec.ofChange fnExactActionOKSpec)

/-- ITS FALSE NEIGHBOUR: 'it returns false'. Refute it at one input. -/
def fnExactActionOKWrong : ChangeSpec := { name := "fnExactActionOK", vars := ["loop.example/g00308/impl.stateSteps"], fn := fun _ => fun
  | [d, g1] => { results := [.lit (.bool false)], args := [d], vars := [g1] }
  | _ => none }
def FnExactActionOKWrongFalsely : Prop := fnExactActionOKRow.holds Tryd.pinned (OpenSpec.ofChange fnExactActionOKWrong)

/-- 'laws.FnExactActionText': WHATEVER THE INPUT: true; the input reads as it did. -/
def fnExactActionTextSpec : ChangeSpec := { name := "fnExactActionText", vars := ["loop.example/g00308/impl.stateSteps"], fn := fun _ => fun
  | [d, g1] => { results := [.lit (.bool true)], args := [d], vars := [g1] }
  | _ => none }
def fnExactActionTextRow : OpenClaim := { program := "ytolbmblffogloabdoor", sum := "960bbf4602274dbf1a7432e65deead9c0ff951cd2fe6872ccb8e4291e6c69723", func := "loop.example/g00308/laws.FnExactActionText", spec := "fnExactActionText", recurses := true, named := ["loop.example/g00308/impl.stateSteps", "internal/strconv.uint64pow10", "math/bits.deBruijn32tab", "math/bits.deBruijn64tab"], apart := false, laid := [("math/bits.deBruijn32tab", laid_math_bits_deBruijn32tab), ("math/bits.deBruijn64tab", laid_math_bits_deBruijn64tab), ("internal/strconv.uint64pow10", laid_internal_strconv_uint64pow10), ("loop.example/g00308/impl.stateSteps", laid_loop_example_g00308_impl_stateSteps)] }
def FnExactActionTextSaid : Prop := fnExactActionTextRow.holds Tryd.pinned (OpenSpec.ofChange fnExactActionTextSpec)

/-- ITS FALSE NEIGHBOUR: 'it returns false'. Refute it at one input. -/
def fnExactActionTextWrong : ChangeSpec := { name := "fnExactActionText", vars := ["loop.example/g00308/impl.stateSteps"], fn := fun _ => fun
  | [d, g1] => { results := [.lit (.bool false)], args := [d], vars := [g1] }
  | _ => none }
def FnExactActionTextWrongFalsely : Prop := fnExactActionTextRow.holds Tryd.pinned (OpenSpec.ofChange fnExactActionTextWrong)

/- THE SECOND FORM. 'bulk': how many values and letters a reading holds, each counted each time it is reached (what is shared counts as often as it is met; a slice's spare places count too). A statement '..UptoSaid' is the law's where the arguments, and the package variables that the reading takes, are together of bulk at most 1048576: NARROWER than '..Said'. Prove '..Said' where nothing that the law and all that it calls make is longer than what came in: it says more and counts as full. Else prove '..UptoSaid'. A law counts once. -/
mutual
def uptoBulk {H : Type} : DataW H → Nat
  | .lit (.string bytes) => bytes.length + 1
  | .lit _ => 1
  | .nil => 1
  | .ptr d => uptoBulk d + 1
  | .slice elems spare => uptoBulkAll elems + uptoBulkAll spare + 1
  | .agg parts => uptoBulkAll parts + 1
  | .iface _ d => uptoBulk d + 1
  | .map entries => uptoBulkEntries entries + 1
  | .held _ => 1
def uptoBulkAll {H : Type} : List (DataW H) → Nat
  | [] => 0
  | d :: r => uptoBulk d + uptoBulkAll r
def uptoBulkEntries {H : Type} : List (Lit × DataW H) → Nat
  | [] => 0
  | x :: r => uptoBulkEntry x + uptoBulkEntries r
def uptoBulkEntry {H : Type} : Lit × DataW H → Nat
  | (.string bytes, d) => bytes.length + uptoBulk d + 1
  | (_, d) => uptoBulk d + 1
 end
def uptoSmall : (H : Type) → List (DataW H) → Bool := fun _ ds => decide (uptoBulkAll ds ≤ 1048576)
def OpenSpec.upto (s : _root_.Go.ChangeSpec) : _root_.Go.OpenSpec := { _root_.Go.OpenSpec.ofChange s with cond := some uptoSmall }

/-- 'laws.FnExactReadFields', WHERE WHAT IT READS IS OF BULK AT MOST 1048576: true; the input reads as it did. -/
def fnExactReadFieldsUptoRow : OpenClaim := { program := "ytolbmblffogloabdoor", sum := "960bbf4602274dbf1a7432e65deead9c0ff951cd2fe6872ccb8e4291e6c69723", func := "loop.example/g00308/laws.FnExactReadFields", spec := "fnExactReadFields", inPlace := ["internal/reflectlite.ValueOf", "(internal/reflectlite.Value).Type", "(internal/reflectlite.Value).IsNil", "internal/reflectlite.TypeOf", "(internal/reflectlite.Value).Elem", "(internal/reflectlite.Value).Set"], unfollowed := true, recurses := true, named := ["loop.example/g00308/impl.errBounds", "loop.example/g00308/impl.errBehind", "loop.example/g00308/impl.errCutOff", "errors.errorType"], ifaces := true, apart := false, laid := [("errors.errorType", laid_errors_errorType), ("loop.example/g00308/impl.errCutOff", laid_loop_example_g00308_impl_errCutOff), ("loop.example/g00308/impl.errBounds", laid_loop_example_g00308_impl_errBounds), ("loop.example/g00308/impl.errBehind", laid_loop_example_g00308_impl_errBehind)], narrowed := true }
def FnExactReadFieldsUptoSaid : Prop := fnExactReadFieldsUptoRow.holds Tryd.pinned (OpenSpec.upto fnExactReadFieldsSpec)

/-- 'laws.FnExactParserOK', WHERE WHAT IT READS IS OF BULK AT MOST 1048576: true; the input reads as it did. -/
def fnExactParserOKUptoRow : OpenClaim := { program := "ytolbmblffogloabdoor", sum := "960bbf4602274dbf1a7432e65deead9c0ff951cd2fe6872ccb8e4291e6c69723", func := "loop.example/g00308/laws.FnExactParserOK", spec := "fnExactParserOK", named := ["loop.example/g00308/impl.stateKeeps", "unicode/utf8.first", "unicode/utf8.acceptRanges"], apart := false, laid := [("unicode/utf8.acceptRanges", laid_unicode_utf8_acceptRanges), ("loop.example/g00308/impl.stateKeeps", laid_loop_example_g00308_impl_stateKeeps), ("unicode/utf8.first", laid_unicode_utf8_first)], narrowed := true }
def FnExactParserOKUptoSaid : Prop := fnExactParserOKUptoRow.holds Tryd.pinned (OpenSpec.upto fnExactParserOKSpec)

/-- 'laws.FnExactParseByte', WHERE WHAT IT READS IS OF BULK AT MOST 1048576: true; the input reads as it did. -/
def fnExactParseByteUptoRow : OpenClaim := { program := "ytolbmblffogloabdoor", sum := "960bbf4602274dbf1a7432e65deead9c0ff951cd2fe6872ccb8e4291e6c69723", func := "loop.example/g00308/laws.FnExactParseByte", spec := "fnExactParseByte", recurses := true, named := ["loop.example/g00308/impl.stateKeeps", "unicode/utf8.first", "unicode/utf8.acceptRanges", "loop.example/g00308/impl.stateSteps"], apart := false, laid := [("unicode/utf8.acceptRanges", laid_unicode_utf8_acceptRanges), ("loop.example/g00308/impl.stateKeeps", laid_loop_example_g00308_impl_stateKeeps), ("loop.example/g00308/impl.stateSteps", laid_loop_example_g00308_impl_stateSteps), ("unicode/utf8.first", laid_unicode_utf8_first)], narrowed := true }
def FnExactParseByteUptoSaid : Prop := fnExactParseByteUptoRow.holds Tryd.pinned (OpenSpec.upto fnExactParseByteSpec)

/-- 'laws.FnExactParseBytes', WHERE WHAT IT READS IS OF BULK AT MOST 1048576: true; the input reads as it did. -/
def fnExactParseBytesUptoRow : OpenClaim := { program := "ytolbmblffogloabdoor", sum := "960bbf4602274dbf1a7432e65deead9c0ff951cd2fe6872ccb8e4291e6c69723", func := "loop.example/g00308/laws.FnExactParseBytes", spec := "fnExactParseBytes", recurses := true, named := ["loop.example/g00308/impl.stateKeeps", "unicode/utf8.first", "unicode/utf8.acceptRanges", "loop.example/g00308/impl.stateSteps"], apart := false, laid := [("unicode/utf8.acceptRanges", laid_unicode_utf8_acceptRanges), ("loop.example/g00308/impl.stateKeeps", laid_loop_example_g00308_impl_stateKeeps), ("loop.example/g00308/impl.stateSteps", laid_loop_example_g00308_impl_stateSteps), ("unicode/utf8.first", laid_unicode_utf8_first)], narrowed := true }
def FnExactParseBytesUptoSaid : Prop := fnExactParseBytesUptoRow.holds Tryd.pinned (OpenSpec.upto fnExactParseBytesSpec)

/-- 'laws.FnExactActionOK', WHERE WHAT IT READS IS OF BULK AT MOST 1048576: true; the input reads as it did. -/
def fnExactActionOKUptoRow : OpenClaim := { program := "ytolbmblffogloabdoor", sum := "960bbf4602274dbf1a7432e65deead9c0ff951cd2fe6872ccb8e4291e6c69723", func := "loop.example/g00308/laws.FnExactActionOK", spec := "fnExactActionOK", named := ["loop.example/g00308/impl.stateSteps"], apart := false, laid := [("loop.example/g00308/impl.stateSteps", laid_loop_example_g00308_impl_stateSteps)], narrowed := true }
def FnExactActionOKUptoSaid : Prop := fnExactActionOKUptoRow.holds Tryd.pinned (OpenSpec.upto fnExactActionOKSpec)

/-- 'laws.FnExactActionText', WHERE WHAT IT READS IS OF BULK AT MOST 1048576: true; the input reads as it did. -/
def fnExactActionTextUptoRow : OpenClaim := { program := "ytolbmblffogloabdoor", sum := "960bbf4602274dbf1a7432e65deead9c0ff951cd2fe6872ccb8e4291e6c69723", func := "loop.example/g00308/laws.FnExactActionText", spec := "fnExactActionText", recurses := true, named := ["loop.example/g00308/impl.stateSteps", "internal/strconv.uint64pow10", "math/bits.deBruijn32tab", "math/bits.deBruijn64tab"], apart := false, laid := [("math/bits.deBruijn32tab", laid_math_bits_deBruijn32tab), ("math/bits.deBruijn64tab", laid_math_bits_deBruijn64tab), ("internal/strconv.uint64pow10", laid_internal_strconv_uint64pow10), ("loop.example/g00308/impl.stateSteps", laid_loop_example_g00308_impl_stateSteps)], narrowed := true }
def FnExactActionTextUptoSaid : Prop := fnExactActionTextUptoRow.holds Tryd.pinned (OpenSpec.upto fnExactActionTextSpec)

end Rows
end Go.Proofs.YtolbmblffogloabDoor
