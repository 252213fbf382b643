/- Texts put together: SizeS MrL. -/
import Derived.Test.YtcgklaplofnemaaDoorZStrS
import Derived.Test.YtcgklaplofnemaaDoorZBf
import Derived.Lib.SmallJoins
/- The size of a list of texts, as the laws reckon it. -/
namespace Go.Proofs.YtcgklaplofnemaaDoor
open Go.ChangeShapes Go.WideShapes Go.ChangeAt Go.RowKit
end Go.Proofs.YtcgklaplofnemaaDoor

/- Mirrors in the law's own words: their size, their copies, two that are alike. -/
namespace Go.Proofs.YtcgklaplofnemaaDoor
open Go.ChangeShapes Go.WideShapes Go.ChangeAt Go.RowKit
set_option linter.unusedVariables false
set_option maxHeartbeats 2000000 in
set_option maxRecDepth 100000 in
theorem eqMr (nb vw vh : Int) (a c : Option Addr) (cap cap2 n : Nat) (l : List ByteArray) (HN : Hid (l.length = n)) (hl : n ≤ 1048576) (w : World) (hr : RowV w a (cS l)) (hr2 : RowV w c (cS l)) :
    Calls Tryd.prog 12 #[.agg #[.int .i64 nb, .int .i64 vw, .int .i64 vh, .slice a n cap], .agg #[.int .i64 nb, .int .i64 vw, .int .i64 vh, .slice c n cap2]] w fun e w' => e = .returned (.bool true) ∧ Below w.heap.size w w' := by
  have HB := hide (Go.Joins.below_alloc2 w (.cells #[.int .i64 nb, .int .i64 vw, .int .i64 vh, .slice a n cap] 24) (.cells #[.int .i64 nb, .int .i64 vw, .int .i64 vh, .slice c n cap2] 24))
  have HR := hide (hr.below (unhide HB))
  have HR2 := hide (hr2.below (unhide HB))
  have n0 : (nb != nb) = false := by simp
  have n1 : (vw != vw) = false := by simp
  have n2 : (vh != vh) = false := by simp
  clear hr hr2
  obtain rfl : n = l.length := (unhide HN).symm
  clear HN
  go_enter Tryd.func12, Tryd.ntmps12
  go_wp2_with fail
  refine (sameString a c cap cap2 l hl _ (unhide HR) (unhide HR2)).mono ?_
  rintro e w2 ⟨rfl, hb2⟩
  have HB2 := hide ((unhide HB).trans (hb2.mono (unhide HB).size))
  clear hb2 HB HR HR2
  go_wp2_with fail
  go_ret
  exact ⟨rfl, unhide HB2⟩
end Go.Proofs.YtcgklaplofnemaaDoor
