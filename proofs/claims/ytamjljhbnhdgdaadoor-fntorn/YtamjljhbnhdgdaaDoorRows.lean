/-
  NARROWER THAN 'FOR EVERY INPUT', by the rows' own cells (each row's printed sentence says how): FnTorn: ifaces, laid.
  DERIVED. THE GIVEN ROWS OF THIS SEAT. 1 by the template 'for every input the law returns true; each argument reads behind the call as it read before'; 0 by the template 'total and deterministic' (their statements: YtamjljhbnhdgdaaDoorTotals.lean).
  GIVEN WITH THE SEED: the statements are not yours to turn. If you find one false, say at which input.
  Laid BY PROGRAM, IN A SANDBOX (cutbox-rows.mjs): the forced cells as the released guide's own fill.sh prints them over the translation ae9b085fd1e763a0… (all of the seat's roots in one cut). By AI agents, Wed Nov 11 2026. No macro, syntax, notation, axiom, sorry.
-/
import Derived.Test.YtamjljhbnhdgdaaDoorChecked
import GoSem.Claim
import GoSem.ClaimJoined
import GoSem.ClaimMapViews
import Derived.JoinedTies
import Derived.KernelRfl
namespace Go.Proofs.YtamjljhbnhdgdaaDoor
/- THE CELL 'sum', in the pinned program and in every row, IS THE sha256 OF THE DUMP (.gsa) THAT YtamjljhbnhdgdaaDoorProg.lean LOADS. Nothing in Lean hashes anything: it is a label: what it is worth is what the hold of that sum in a sandbox is worth. -/
noncomputable def Tryd.pinned : Pinned := { name := "ytamjljhbnhdgdaadoor", sum := "ae9b085fd1e763a0b208892dbded2dbeedc1550249694b98f9871051176ccade", checked := Tryd.checked }
namespace Rows
def none {H : Type} : Left H := { results := [], args := [] }

/- WHAT THE LISTED PACKAGE-LEVEL VARIABLES READ AS WHEN THE CALL BEGINS. Each datum BY PROGRAM (the guide's laid-datum.mjs) off the statement by which the dump's own 'gosem.cut.vars' lays the variable. In a bare row this is a premise. The card (YtamjljhbnhdgdaaDoorCards.lean) ties it to the program's text. -/
def laid_errors_errorType {H : Type} : DataW H := .iface "internal/reflectlite.rtype" (.agg [.ptr (.lit (.string [101, 114, 114, 111, 114]))])
def laid_loop_example_g00308_impl_errCutOff {H : Type} : DataW H := .iface "*errors.errorString" (.ptr (.agg [.lit (.string [98, 121, 116, 101, 115, 32, 97, 114, 101, 32, 99, 117, 116, 32, 111, 102, 102])]))
def laid_loop_example_g00308_impl_errBounds {H : Type} : DataW H := .iface "*errors.errorString" (.ptr (.agg [.lit (.string [97, 32, 110, 117, 109, 98, 101, 114, 32, 105, 115, 32, 111, 117, 116, 32, 111, 102, 32, 105, 116, 115, 32, 98, 111, 117, 110, 100, 115])]))
def laid_loop_example_g00308_impl_errSum {H : Type} : DataW H := .iface "*errors.errorString" (.ptr (.agg [.lit (.string [97, 32, 115, 117, 109, 32, 105, 115, 32, 110, 111, 116, 32, 114, 105, 103, 104, 116])]))
def laid_loop_example_g00308_impl_errBehind {H : Type} : DataW H := .iface "*errors.errorString" (.ptr (.agg [.lit (.string [98, 121, 116, 101, 115, 32, 115, 116, 97, 110, 100, 32, 98, 101, 104, 105, 110, 100, 32, 116, 104, 101, 32, 101, 110, 100])]))
def laid_loop_example_g00308_impl_errNoRecord {H : Type} : DataW H := .iface "*errors.errorString" (.ptr (.agg [.lit (.string [110, 111, 32, 115, 117, 99, 104, 32, 114, 101, 99, 111, 114, 100])]))
def laid_loop_example_g00308_impl_errNotRight {H : Type} : DataW H := .iface "*errors.errorString" (.ptr (.agg [.lit (.string [97, 32, 114, 101, 99, 111, 114, 100, 32, 108, 101, 97, 100, 115, 32, 116, 111, 32, 97, 32, 115, 116, 97, 116, 101, 32, 116, 104, 97, 116, 32, 105, 115, 32, 110, 111, 116, 32, 114, 105, 103, 104, 116])]))
def laid_loop_example_g00308_impl_errLowerTerm {H : Type} : DataW H := .iface "*errors.errorString" (.ptr (.agg [.lit (.string [97, 32, 114, 101, 99, 111, 114, 100, 32, 108, 101, 97, 100, 115, 32, 116, 111, 32, 97, 32, 108, 111, 119, 101, 114, 32, 116, 101, 114, 109])]))
def laid_loop_example_g00308_impl_errRecordSize {H : Type} : DataW H := .iface "*errors.errorString" (.ptr (.agg [.lit (.string [97, 32, 114, 101, 99, 111, 114, 100, 32, 105, 115, 32, 101, 109, 112, 116, 121, 32, 111, 114, 32, 116, 111, 111, 32, 108, 111, 110, 103])]))
def laid_loop_example_g00308_impl_errNoRoom {H : Type} : DataW H := .iface "*errors.errorString" (.ptr (.agg [.lit (.string [116, 104, 101, 32, 115, 116, 111, 114, 101, 32, 104, 97, 115, 32, 110, 111, 32, 114, 111, 111, 109])]))

/-- 'laws.FnTorn': WHATEVER THE INPUT: true; the input reads as it did. -/
def fnTornSpec : ChangeSpec := { name := "fnTorn", vars := ["loop.example/g00308/impl.errNoRoom", "loop.example/g00308/impl.errRecordSize", "loop.example/g00308/impl.errNoRecord", "loop.example/g00308/impl.errNotRight", "loop.example/g00308/impl.errLowerTerm", "loop.example/g00308/impl.errCutOff", "loop.example/g00308/impl.errBounds", "loop.example/g00308/impl.errSum", "loop.example/g00308/impl.errBehind"], fn := fun _ => fun
  | [d1, d2, g1, g2, g3, g4, g5, g6, g7, g8, g9] => { results := [.lit (.bool true)], args := [d1, d2], vars := [g1, g2, g3, g4, g5, g6, g7, g8, g9] }
  | _ => none }
def fnTornRow : OpenClaim := { program := "ytamjljhbnhdgdaadoor", sum := "ae9b085fd1e763a0b208892dbded2dbeedc1550249694b98f9871051176ccade", func := "loop.example/g00308/laws.FnTorn", spec := "fnTorn", inPlace := ["internal/reflectlite.TypeOf", "internal/reflectlite.ValueOf", "(internal/reflectlite.Value).Type", "(internal/reflectlite.Value).IsNil", "(internal/reflectlite.Value).Elem", "(internal/reflectlite.Value).Set"], unfollowed := true, recurses := true, named := ["loop.example/g00308/impl.errNoRoom", "loop.example/g00308/impl.errRecordSize", "loop.example/g00308/impl.errNoRecord", "loop.example/g00308/impl.errNotRight", "loop.example/g00308/impl.errLowerTerm", "errors.errorType", "loop.example/g00308/impl.errCutOff", "loop.example/g00308/impl.errBounds", "loop.example/g00308/impl.errSum", "loop.example/g00308/impl.errBehind"], ifaces := true, apart := false, laid := [("errors.errorType", laid_errors_errorType), ("loop.example/g00308/impl.errCutOff", laid_loop_example_g00308_impl_errCutOff), ("loop.example/g00308/impl.errBounds", laid_loop_example_g00308_impl_errBounds), ("loop.example/g00308/impl.errSum", laid_loop_example_g00308_impl_errSum), ("loop.example/g00308/impl.errBehind", laid_loop_example_g00308_impl_errBehind), ("loop.example/g00308/impl.errNoRecord", laid_loop_example_g00308_impl_errNoRecord), ("loop.example/g00308/impl.errNotRight", laid_loop_example_g00308_impl_errNotRight), ("loop.example/g00308/impl.errLowerTerm", laid_loop_example_g00308_impl_errLowerTerm), ("loop.example/g00308/impl.errRecordSize", laid_loop_example_g00308_impl_errRecordSize), ("loop.example/g00308/impl.errNoRoom", laid_loop_example_g00308_impl_errNoRoom)] }
def FnTornSaid : Prop := fnTornRow.holds Tryd.pinned (OpenSpec.ofChange fnTornSpec)

/-- ITS FALSE NEIGHBOUR: 'it returns false'. Refute it at one input. -/
def fnTornWrong : ChangeSpec := { name := "fnTorn", vars := ["loop.example/g00308/impl.errNoRoom", "loop.example/g00308/impl.errRecordSize", "loop.example/g00308/impl.errNoRecord", "loop.example/g00308/impl.errNotRight", "loop.example/g00308/impl.errLowerTerm", "loop.example/g00308/impl.errCutOff", "loop.example/g00308/impl.errBounds", "loop.example/g00308/impl.errSum", "loop.example/g00308/impl.errBehind"], fn := fun _ => fun
  | [d1, d2, g1, g2, g3, g4, g5, g6, g7, g8, g9] => { results := [.lit (.bool false)], args := [d1, d2], vars := [g1, g2, g3, g4, g5, g6, g7, g8, g9] }
  | _ => none }
def FnTornWrongFalsely : Prop := fnTornRow.holds Tryd.pinned (OpenSpec.ofChange fnTornWrong)

/- THE SECOND FORM. 'bulk': how many values and letters a reading holds, each counted each time it is reached (what is shared counts as often as it is met; a slice's spare places count too). A statement '..UptoSaid' is the law's where the arguments, and the package variables that the reading takes, are together of bulk at most 1048576: NARROWER than '..Said'. Prove '..Said' where nothing that the law and all that it calls make is longer than what came in: it says more and counts as full. Else prove '..UptoSaid'. A law counts once. -/
mutual
def uptoBulk {H : Type} : DataW H → Nat
  | .lit (.string bytes) => bytes.length + 1
  | .lit _ => 1
  | .nil => 1
  | .ptr d => uptoBulk d + 1
  | .slice elems spare => uptoBulkAll elems + uptoBulkAll spare + 1
  | .agg parts => uptoBulkAll parts + 1
  | .iface _ d => uptoBulk d + 1
  | .map entries => uptoBulkEntries entries + 1
  | .held _ => 1
def uptoBulkAll {H : Type} : List (DataW H) → Nat
  | [] => 0
  | d :: r => uptoBulk d + uptoBulkAll r
def uptoBulkEntries {H : Type} : List (Lit × DataW H) → Nat
  | [] => 0
  | x :: r => uptoBulkEntry x + uptoBulkEntries r
def uptoBulkEntry {H : Type} : Lit × DataW H → Nat
  | (.string bytes, d) => bytes.length + uptoBulk d + 1
  | (_, d) => uptoBulk d + 1
 end
def uptoSmall : (H : Type) → List (DataW H) → Bool := fun _ ds => decide (uptoBulkAll ds ≤ 1048576)
def OpenSpec.upto (s : _root_.Go.ChangeSpec) : _root_.Go.OpenSpec := { _root_.Go.OpenSpec.ofChange s with cond := some uptoSmall }

/-- 'laws.FnTorn', WHERE WHAT IT READS IS OF BULK AT MOST 1048576: true; the input reads as it did. -/
def fnTornUptoRow : OpenClaim := { program := "ytamjljhbnhdgdaadoor", sum := "ae9b085fd1e763a0b208892dbded2dbeedc1550249694b98f9871051176ccade", func := "loop.example/g00308/laws.FnTorn", spec := "fnTorn", inPlace := ["internal/reflectlite.TypeOf", "internal/reflectlite.ValueOf", "(internal/reflectlite.Value).Type", "(internal/reflectlite.Value).IsNil", "(internal/reflectlite.Value).Elem", "(internal/reflectlite.Value).Set"], unfollowed := true, recurses := true, named := ["loop.example/g00308/impl.errNoRoom", "loop.example/g00308/impl.errRecordSize", "loop.example/g00308/impl.errNoRecord", "loop.example/g00308/impl.errNotRight", "loop.example/g00308/impl.errLowerTerm", "errors.errorType", "loop.example/g00308/impl.errCutOff", "loop.example/g00308/impl.errBounds", "loop.example/g00308/impl.errSum", "loop.example/g00308/impl.errBehind"], ifaces := true, apart := false, laid := [("errors.errorType", laid_errors_errorType), ("loop.example/g00308/impl.errCutOff", laid_loop_example_g00308_impl_errCutOff), ("loop.example/g00308/impl.errBounds", laid_loop_example_g00308_impl_errBounds), ("loop.example/g00308/impl.errSum", laid_loop_example_g00308_impl_errSum), ("loop.example/g00308/impl.errBehind", laid_loop_example_g00308_impl_errBehind), ("loop.example/g00308/impl.errNoRecord", laid_loop_example_g00308_impl_errNoRecord), ("loop.example/g00308/impl.errNotRight", laid_loop_example_g00308_impl_errNotRight), ("loop.example/g00308/impl.errLowerTerm", laid_loop_example_g00308_impl_errLowerTerm), ("loop.example/g00308/impl.errRecordSize", laid_loop_example_g00308_impl_errRecordSize), ("loop.example/g00308/impl.errNoRoom", laid_loop_example_g00308_impl_errNoRoom)], narrowed := true }
def FnTornUptoSaid : Prop := fnTornUptoRow.holds Tryd.pinned (OpenSpec.upto fnTornSpec)

end Rows
end Go.Proofs.YtamjljhbnhdgdaaDoor
