/- Clients in the law's own words: two that are alike. -/
import Derived.Test.YtcgklaplofnemaaDoorZG42
namespace Go.Proofs.YtcgklaplofnemaaDoor
open Go.ChangeShapes Go.WideShapes Go.ChangeAt Go.RowKit
set_option linter.unusedVariables false
set_option maxHeartbeats 2000000 in
set_option maxRecDepth 100000 in
theorem eqCl (id : Int) (win tok : ByteArray) (nb vw vh : Int) (a c : Option Addr) (cap cap2 n : Nat) (l : List ByteArray) (HN : Hid (l.length = n)) (hl : n ≤ 1048576) (w : World) (hr : RowV w a (cS l)) (hr2 : RowV w c (cS l)) :
    Calls Tryd.prog 6 #[.agg #[.int .i64 id, .string win, .string tok, .int .i64 nb, .int .i64 vw, .int .i64 vh, .slice a n cap], .agg #[.int .i64 id, .string win, .string tok, .int .i64 nb, .int .i64 vw, .int .i64 vh, .slice c n cap2]] w fun e w' => e = .returned (.bool true) ∧ Below w.heap.size w w' := by
  have HB := hide (Go.Joins.below_alloc2 w (.cells #[.int .i64 id, .string win, .string tok, .int .i64 nb, .int .i64 vw, .int .i64 vh, .slice a n cap] 26) (.cells #[.int .i64 id, .string win, .string tok, .int .i64 nb, .int .i64 vw, .int .i64 vh, .slice c n cap2] 26))
  have HR := hide (hr.below (unhide HB))
  have HR2 := hide (hr2.below (unhide HB))
  have n0 : (id != id) = false := by simp
  have n1 : (win.toList != win.toList) = false := by simp
  have n2 : (tok.toList != tok.toList) = false := by simp
  have HL := hide hl
  clear hr hr2 hl
  go_enter Tryd.func6, Tryd.ntmps6
  go_wp2_with fail
  refine (eqMr nb vw vh a c cap cap2 n l HN (unhide HL) _ (unhide HR) (unhide HR2)).mono ?_
  rintro e w2 ⟨rfl, hb2⟩
  have HB2 := hide ((unhide HB).trans (hb2.mono (unhide HB).size))
  clear hb2 HB HR HR2
  go_wp2_with fail
  go_ret
  exact ⟨rfl, unhide HB2⟩
end Go.Proofs.YtcgklaplofnemaaDoor
