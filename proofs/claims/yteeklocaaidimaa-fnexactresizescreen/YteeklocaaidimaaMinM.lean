/- The lesser and the greater of two numbers. -/
import Derived.Test.YteeklocaaidimaaBase
namespace Go.Proofs.Yteeklocaaidimaa
open Go.ChangeShapes Go.WideShapes Go.ChangeAt Go.RowKit
/-- The lesser of two numbers. -/
def mn (x y : Int) : Int := if y < x then y else x
theorem run_mn {P : Program} {w : World} (ts : Array TypeId) (t : TypeId) (k k' : IntKind) (x y : Int) : (Builtin.min_ ts t #[.int k x, .int k' y]).run P w = .ok (.int k (mn x y)) w := by
  simp [Builtin.min_, Builtin.min2, mn]
/-- The greater of two numbers. -/
def mx (x y : Int) : Int := if x < y then y else x
theorem run_mx {P : Program} {w : World} (ts : Array TypeId) (t : TypeId) (k k' : IntKind) (x y : Int) : (Builtin.max_ ts t #[.int k x, .int k' y]).run P w = .ok (.int k (mx x y)) w := by
  simp [Builtin.max_, Builtin.max2, mx]
end Go.Proofs.Yteeklocaaidimaa
