/-
  NARROWER THAN 'FOR EVERY INPUT', by the rows' own cells (each row's printed sentence says how): FnExactReadFields: ifaces, laid · FnExactArgOf: laid.
  DERIVED. THE GIVEN ROWS OF THIS SEAT. 2 by the template 'for every input the law returns true; each argument reads behind the call as it read before'; 0 by the template 'total and deterministic' (their statements: YtgggghgbgndmhaaDoorTotals.lean).
  GIVEN WITH THE SEED: the statements are not yours to turn. If you find one false, say at which input.
  Laid BY PROGRAM, IN A SANDBOX (cutbox-rows.mjs): the forced cells as the released guide's own fill.sh prints them over the translation c512baf9d3009395… (all of the seat's roots in one cut). By AI agents, Wed Nov 11 2026. No macro, syntax, notation, axiom, sorry.
-/
import Derived.Test.YtgggghgbgndmhaaDoorChecked
import GoSem.Claim
import GoSem.ClaimJoined
import GoSem.ClaimMapViews
import Derived.JoinedTies
import Derived.KernelRfl
namespace Go.Proofs.YtgggghgbgndmhaaDoor
/- THE CELL 'sum', in the pinned program and in every row, IS THE sha256 OF THE DUMP (.gsa) THAT YtgggghgbgndmhaaDoorProg.lean LOADS. Nothing in Lean hashes anything: it is a label: what it is worth is what the hold of that sum in a sandbox is worth. -/
noncomputable def Tryd.pinned : Pinned := { name := "ytgggghgbgndmhaadoor", sum := "c512baf9d3009395e9c3e6dca9c3c9850e3e0264afcfd45e7e4556629e7dbc88", checked := Tryd.checked }
namespace Rows
def none {H : Type} : Left H := { results := [], args := [] }

/- WHAT THE LISTED PACKAGE-LEVEL VARIABLES READ AS WHEN THE CALL BEGINS. Each datum BY PROGRAM (the guide's laid-datum.mjs) off the statement by which the dump's own 'gosem.cut.vars' lays the variable. In a bare row this is a premise. The card (YtgggghgbgndmhaaDoorCards.lean) ties it to the program's text. -/
def laid_errors_errorType {H : Type} : DataW H := .iface "internal/reflectlite.rtype" (.agg [.ptr (.lit (.string [101, 114, 114, 111, 114]))])
def laid_loop_example_g00308_impl_errCutOff {H : Type} : DataW H := .iface "*errors.errorString" (.ptr (.agg [.lit (.string [98, 121, 116, 101, 115, 32, 97, 114, 101, 32, 99, 117, 116, 32, 111, 102, 102])]))
def laid_loop_example_g00308_impl_errBounds {H : Type} : DataW H := .iface "*errors.errorString" (.ptr (.agg [.lit (.string [97, 32, 110, 117, 109, 98, 101, 114, 32, 105, 115, 32, 111, 117, 116, 32, 111, 102, 32, 105, 116, 115, 32, 98, 111, 117, 110, 100, 115])]))
def laid_loop_example_g00308_impl_errBehind {H : Type} : DataW H := .iface "*errors.errorString" (.ptr (.agg [.lit (.string [98, 121, 116, 101, 115, 32, 115, 116, 97, 110, 100, 32, 98, 101, 104, 105, 110, 100, 32, 116, 104, 101, 32, 101, 110, 100])]))
def laid_loop_example_g00308_impl_stateSteps {H : Type} : DataW H := .agg [.agg [.lit (.int .i64 0), .lit (.int .i64 27), .lit (.int .i64 27), .lit (.int .i64 0), .lit (.int .i64 1)], .agg [.lit (.int .i64 0), .lit (.int .i64 7), .lit (.int .i64 10), .lit (.int .i64 3), .lit (.int .i64 0)], .agg [.lit (.int .i64 0), .lit (.int .i64 13), .lit (.int .i64 13), .lit (.int .i64 3), .lit (.int .i64 0)], .agg [.lit (.int .i64 0), .lit (.int .i64 32), .lit (.int .i64 126), .lit (.int .i64 1), .lit (.int .i64 0)], .agg [.lit (.int .i64 0), .lit (.int .i64 0), .lit (.int .i64 127), .lit (.int .i64 0), .lit (.int .i64 0)], .agg [.lit (.int .i64 0), .lit (.int .i64 194), .lit (.int .i64 244), .lit (.int .i64 12), .lit (.int .i64 6)], .agg [.lit (.int .i64 0), .lit (.int .i64 0), .lit (.int .i64 255), .lit (.int .i64 2), .lit (.int .i64 0)], .agg [.lit (.int .i64 1), .lit (.int .i64 91), .lit (.int .i64 91), .lit (.int .i64 7), .lit (.int .i64 2)], .agg [.lit (.int .i64 1), .lit (.int .i64 93), .lit (.int .i64 93), .lit (.int .i64 0), .lit (.int .i64 4)], .agg [.lit (.int .i64 1), .lit (.int .i64 27), .lit (.int .i64 27), .lit (.int .i64 0), .lit (.int .i64 1)], .agg [.lit (.int .i64 1), .lit (.int .i64 55), .lit (.int .i64 56), .lit (.int .i64 4), .lit (.int .i64 0)], .agg [.lit (.int .i64 1), .lit (.int .i64 68), .lit (.int .i64 69), .lit (.int .i64 4), .lit (.int .i64 0)], .agg [.lit (.int .i64 1), .lit (.int .i64 77), .lit (.int .i64 77), .lit (.int .i64 4), .lit (.int .i64 0)], .agg [.lit (.int .i64 1), .lit (.int .i64 99), .lit (.int .i64 99), .lit (.int .i64 4), .lit (.int .i64 0)], .agg [.lit (.int .i64 1), .lit (.int .i64 0), .lit (.int .i64 255), .lit (.int .i64 0), .lit (.int .i64 0)], .agg [.lit (.int .i64 2), .lit (.int .i64 27), .lit (.int .i64 27), .lit (.int .i64 0), .lit (.int .i64 1)], .agg [.lit (.int .i64 2), .lit (.int .i64 7), .lit (.int .i64 10), .lit (.int .i64 3), .lit (.int .i64 2)], .agg [.lit (.int .i64 2), .lit (.int .i64 13), .lit (.int .i64 13), .lit (.int .i64 3), .lit (.int .i64 2)], .agg [.lit (.int .i64 2), .lit (.int .i64 48), .lit (.int .i64 57), .lit (.int .i64 8), .lit (.int .i64 2)], .agg [.lit (.int .i64 2), .lit (.int .i64 59), .lit (.int .i64 59), .lit (.int .i64 9), .lit (.int .i64 3)], .agg [.lit (.int .i64 2), .lit (.int .i64 63), .lit (.int .i64 63), .lit (.int .i64 10), .lit (.int .i64 3)], .agg [.lit (.int .i64 2), .lit (.int .i64 64), .lit (.int .i64 126), .lit (.int .i64 5), .lit (.int .i64 0)], .agg [.lit (.int .i64 2), .lit (.int .i64 0), .lit (.int .i64 255), .lit (.int .i64 0), .lit (.int .i64 3)], .agg [.lit (.int .i64 3), .lit (.int .i64 27), .lit (.int .i64 27), .lit (.int .i64 0), .lit (.int .i64 1)], .agg [.lit (.int .i64 3), .lit (.int .i64 64), .lit (.int .i64 126), .lit (.int .i64 0), .lit (.int .i64 0)], .agg [.lit (.int .i64 3), .lit (.int .i64 0), .lit (.int .i64 255), .lit (.int .i64 0), .lit (.int .i64 3)], .agg [.lit (.int .i64 4), .lit (.int .i64 7), .lit (.int .i64 7), .lit (.int .i64 6), .lit (.int .i64 0)], .agg [.lit (.int .i64 4), .lit (.int .i64 27), .lit (.int .i64 27), .lit (.int .i64 0), .lit (.int .i64 5)], .agg [.lit (.int .i64 4), .lit (.int .i64 32), .lit (.int .i64 126), .lit (.int .i64 11), .lit (.int .i64 4)], .agg [.lit (.int .i64 4), .lit (.int .i64 0), .lit (.int .i64 255), .lit (.int .i64 0), .lit (.int .i64 4)], .agg [.lit (.int .i64 5), .lit (.int .i64 92), .lit (.int .i64 92), .lit (.int .i64 6), .lit (.int .i64 0)], .agg [.lit (.int .i64 5), .lit (.int .i64 0), .lit (.int .i64 255), .lit (.int .i64 14), .lit (.int .i64 1)], .agg [.lit (.int .i64 6), .lit (.int .i64 0), .lit (.int .i64 255), .lit (.int .i64 13), .lit (.int .i64 0)]]

/-- 'laws.FnExactReadFields': WHATEVER THE INPUT: true; the input reads as it did. -/
def fnExactReadFieldsSpec : ChangeSpec := { name := "fnExactReadFields", vars := ["loop.example/g00308/impl.errBounds", "loop.example/g00308/impl.errBehind", "loop.example/g00308/impl.errCutOff"], fn := fun _ => fun
  | [d, g1, g2, g3] => { results := [.lit (.bool true)], args := [d], vars := [g1, g2, g3] }
  | _ => none }
def fnExactReadFieldsRow : OpenClaim := { program := "ytgggghgbgndmhaadoor", sum := "c512baf9d3009395e9c3e6dca9c3c9850e3e0264afcfd45e7e4556629e7dbc88", func := "loop.example/g00308/laws.FnExactReadFields", spec := "fnExactReadFields", inPlace := ["internal/reflectlite.ValueOf", "(internal/reflectlite.Value).Type", "(internal/reflectlite.Value).IsNil", "internal/reflectlite.TypeOf", "(internal/reflectlite.Value).Elem", "(internal/reflectlite.Value).Set"], unfollowed := true, recurses := true, named := ["loop.example/g00308/impl.errBounds", "loop.example/g00308/impl.errBehind", "loop.example/g00308/impl.errCutOff", "errors.errorType"], ifaces := true, apart := false, laid := [("errors.errorType", laid_errors_errorType), ("loop.example/g00308/impl.errCutOff", laid_loop_example_g00308_impl_errCutOff), ("loop.example/g00308/impl.errBounds", laid_loop_example_g00308_impl_errBounds), ("loop.example/g00308/impl.errBehind", laid_loop_example_g00308_impl_errBehind)] }
def FnExactReadFieldsSaid : Prop := fnExactReadFieldsRow.holds Tryd.pinned (OpenSpec.ofChange fnExactReadFieldsSpec)

/-- ITS FALSE NEIGHBOUR: 'it returns false'. Refute it at one input. -/
def fnExactReadFieldsWrong : ChangeSpec := { name := "fnExactReadFields", vars := ["loop.example/g00308/impl.errBounds", "loop.example/g00308/impl.errBehind", "loop.example/g00308/impl.errCutOff"], fn := fun _ => fun
  | [d, g1, g2, g3] => { results := [.lit (.bool false)], args := [d], vars := [g1, g2, g3] }
  | _ => none }
def FnExactReadFieldsWrongFalsely : Prop := fnExactReadFieldsRow.holds Tryd.pinned (OpenSpec.ofChange fnExactReadFieldsWrong)

/-- 'laws.FnExactArgOf': WHATEVER THE INPUT: true; the input reads as it did. -/
def fnExactArgOfSpec : ChangeSpec := { name := "fnExactArgOf", vars := ["loop.example/g00308/impl.stateSteps"], fn := fun _ => fun
  | [d1, d2, d3, g1] => { results := [.lit (.bool true)], args := [d1, d2, d3], vars := [g1] }
  | _ => none }
def fnExactArgOfRow : OpenClaim := { program := "ytgggghgbgndmhaadoor", sum := "c512baf9d3009395e9c3e6dca9c3c9850e3e0264afcfd45e7e4556629e7dbc88", func := "loop.example/g00308/laws.FnExactArgOf", spec := "fnExactArgOf", named := ["loop.example/g00308/impl.stateSteps"], apart := false, laid := [("loop.example/g00308/impl.stateSteps", laid_loop_example_g00308_impl_stateSteps)] }
def FnExactArgOfSaid : Prop := fnExactArgOfRow.holds Tryd.pinned (OpenSpec.ofChange fnExactArgOfSpec)

/-- ITS FALSE NEIGHBOUR: 'it returns false'. Refute it at one input. -/
def fnExactArgOfWrong : ChangeSpec := { name := "fnExactArgOf", vars := ["loop.example/g00308/impl.stateSteps"], fn := fun _ => fun
  | [d1, d2, d3, g1] => { results := [.lit (.bool false)], args := [d1, d2, d3], vars := [g1] }
  | _ => none }
def FnExactArgOfWrongFalsely : Prop := fnExactArgOfRow.holds Tryd.pinned (OpenSpec.ofChange fnExactArgOfWrong)

/- THE SECOND FORM. 'bulk': how many values and letters a reading holds, each counted each time it is reached (what is shared counts as often as it is met; a slice's spare places count too). A statement '..UptoSaid' is the law's where the arguments, and the package variables that the reading takes, are together of bulk at most 1048576: NARROWER than '..Said'. Prove '..Said' where nothing that the law and all that it calls make is longer than what came in: it says more and counts as full. Else prove '..UptoSaid'. A law counts once. -/
mutual
def uptoBulk {H : Type} : DataW H → Nat
  | .lit (.string bytes) => bytes.length + 1
  | .lit _ => 1
  | .nil => 1
  | .ptr d => uptoBulk d + 1
  | .slice elems spare => uptoBulkAll elems + uptoBulkAll spare + 1
  | .agg parts => uptoBulkAll parts + 1
  | .iface _ d => uptoBulk d + 1
  | .map entries => uptoBulkEntries entries + 1
  | .held _ => 1
def uptoBulkAll {H : Type} : List (DataW H) → Nat
  | [] => 0
  | d :: r => uptoBulk d + uptoBulkAll r
def uptoBulkEntries {H : Type} : List (Lit × DataW H) → Nat
  | [] => 0
  | x :: r => uptoBulkEntry x + uptoBulkEntries r
def uptoBulkEntry {H : Type} : Lit × DataW H → Nat
  | (.string bytes, d) => bytes.length + uptoBulk d + 1
  | (_, d) => uptoBulk d + 1
 end
def uptoSmall : (H : Type) → List (DataW H) → Bool := fun _ ds => decide (uptoBulkAll ds ≤ 1048576)
def OpenSpec.upto (s : _root_.Go.ChangeSpec) : _root_.Go.OpenSpec := { _root_.Go.OpenSpec.ofChange s with cond := some uptoSmall }

/-- 'laws.FnExactReadFields', WHERE WHAT IT READS IS OF BULK AT MOST 1048576: true; the input reads as it did. -/
def fnExactReadFieldsUptoRow : OpenClaim := { program := "ytgggghgbgndmhaadoor", sum := "c512baf9d3009395e9c3e6dca9c3c9850e3e0264afcfd45e7e4556629e7dbc88", func := "loop.example/g00308/laws.FnExactReadFields", spec := "fnExactReadFields", inPlace := ["internal/reflectlite.ValueOf", "(internal/reflectlite.Value).Type", "(internal/reflectlite.Value).IsNil", "internal/reflectlite.TypeOf", "(internal/reflectlite.Value).Elem", "(internal/reflectlite.Value).Set"], unfollowed := true, recurses := true, named := ["loop.example/g00308/impl.errBounds", "loop.example/g00308/impl.errBehind", "loop.example/g00308/impl.errCutOff", "errors.errorType"], ifaces := true, apart := false, laid := [("errors.errorType", laid_errors_errorType), ("loop.example/g00308/impl.errCutOff", laid_loop_example_g00308_impl_errCutOff), ("loop.example/g00308/impl.errBounds", laid_loop_example_g00308_impl_errBounds), ("loop.example/g00308/impl.errBehind", laid_loop_example_g00308_impl_errBehind)], narrowed := true }
def FnExactReadFieldsUptoSaid : Prop := fnExactReadFieldsUptoRow.holds Tryd.pinned (OpenSpec.upto fnExactReadFieldsSpec)

/-- 'laws.FnExactArgOf', WHERE WHAT IT READS IS OF BULK AT MOST 1048576: true; the input reads as it did. -/
def fnExactArgOfUptoRow : OpenClaim := { program := "ytgggghgbgndmhaadoor", sum := "c512baf9d3009395e9c3e6dca9c3c9850e3e0264afcfd45e7e4556629e7dbc88", func := "loop.example/g00308/laws.FnExactArgOf", spec := "fnExactArgOf", named := ["loop.example/g00308/impl.stateSteps"], apart := false, laid := [("loop.example/g00308/impl.stateSteps", laid_loop_example_g00308_impl_stateSteps)], narrowed := true }
def FnExactArgOfUptoSaid : Prop := fnExactArgOfUptoRow.holds Tryd.pinned (OpenSpec.upto fnExactArgOfSpec)

end Rows
end Go.Proofs.YtgggghgbgndmhaaDoor
