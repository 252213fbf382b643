/- Messages in the law's own words: their size, their copies, two that are alike. -/
import Derived.Test.YthbkcijkokaoeaaEntL
namespace Go.Proofs.Ythbkcijkokaoeaa
open Go.ChangeShapes Go.WideShapes Go.ChangeAt Go.RowKit
set_option linter.unusedVariables false
set_option maxHeartbeats 2000000 in
set_option maxRecDepth 100000 in
theorem eqMsg (kd fr dst tm ix lt cm : Int) (ok : Bool) (a c : Option Addr) (cap cap2 n : Nat) (l : List (Int × ByteArray)) (HN : Hid (l.length = n)) (hl : n ≤ 1048576) (w : World) (hr : RowV w a (cE l)) (hr2 : RowV w c (cE l)) :
    Calls Try.prog 30 #[.agg #[.int .i64 kd, .int .i64 fr, .int .i64 dst, .int .i64 tm, .int .i64 ix, .int .i64 lt, .int .i64 cm, .bool ok, .slice a n cap], .agg #[.int .i64 kd, .int .i64 fr, .int .i64 dst, .int .i64 tm, .int .i64 ix, .int .i64 lt, .int .i64 cm, .bool ok, .slice c n cap2]] w fun e w' => e = .returned (.bool true) ∧ Below w.heap.size w w' := by
  have HB := hide (Go.Joins.below_alloc2 w (.cells #[.int .i64 kd, .int .i64 fr, .int .i64 dst, .int .i64 tm, .int .i64 ix, .int .i64 lt, .int .i64 cm, .bool ok, .slice a n cap] 58) (.cells #[.int .i64 kd, .int .i64 fr, .int .i64 dst, .int .i64 tm, .int .i64 ix, .int .i64 lt, .int .i64 cm, .bool ok, .slice c n cap2] 58))
  have HR := hide (hr.below (unhide HB))
  have HR2 := hide (hr2.below (unhide HB))
  have n0 : (kd != kd) = false := by simp
  have n1 : (fr != fr) = false := by simp
  have n2 : (dst != dst) = false := by simp
  have n3 : (tm != tm) = false := by simp
  have n4 : (ix != ix) = false := by simp
  have n5 : (lt != lt) = false := by simp
  have n6 : (cm != cm) = false := by simp
  have n7 : (ok != ok) = false := by simp
  clear hr hr2
  obtain rfl : n = l.length := (unhide HN).symm
  clear HN
  go_enter Try.func30, Try.ntmps30
  go_wp2_with fail
  refine (sameEnt a c cap cap2 l hl _ (unhide HR) (unhide HR2)).mono ?_
  rintro e w2 ⟨rfl, hb2⟩
  have HB2 := hide ((unhide HB).trans (hb2.mono (unhide HB).size))
  clear hb2 HB HR HR2
  go_wp2_with fail
  go_ret
  exact ⟨rfl, unhide HB2⟩
end Go.Proofs.Ythbkcijkokaoeaa
