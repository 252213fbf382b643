/- Whether a log is up to date: what the specification answers. -/
import Derived.Test.YtjlajpnhcphngaaZG1
import Derived.Test.YtjlajpnhcphngaaZNdS
namespace Go.Proofs.Ytjlajpnhcphngaa
open Go.ChangeShapes Go.WideShapes Go.ChangeAt Go.RowKit
set_option linter.unusedVariables false
set_option maxHeartbeats 4000000 in
set_option maxRecDepth 100000 in
theorem stermat (id nd tm vt ro cm el wt : Int) (up : Bool) (a : Option Addr) (cap n : Nat) (av : Option Addr) (cv nv : Nat) (ax : Option Addr) (cx nx : Nat) (ag : Option Addr) (cg ng : Nat) (l : List Ent) (HN : Hid (l.length = n)) (hn : n ≤ 1048576) (k : Nat) (hk : k ≤ n) (TT : Int) (HT : Hid (TT = tAt l k)) (w : World) (hr : RowV w a (cE l)) :
    Calls Try.prog 63 #[.agg #[.int .i64 id, .int .i64 nd, .int .i64 tm, .int .i64 vt, .int .i64 ro, .bool up, .slice a n cap, .int .i64 cm, .int .i64 el, .int .i64 wt, .slice av nv cv, .slice ax nx cx, .slice ag ng cg], .int .i64 (k : Int)] w fun e w' => e = .returned (.int .i64 TT) ∧ Below w.heap.size w w' := by
  have B0 := hide (Go.Joins.below_alloc1 w (.cells #[.int .i64 id, .int .i64 nd, .int .i64 tm, .int .i64 vt, .int .i64 ro, .bool up, .slice a n cap, .int .i64 cm, .int .i64 el, .int .i64 wt, .slice av nv cv, .slice ax nx cx, .slice ag ng cg] 29))
  by_cases h0 : k = 0
  · have z1 : ((k : Int) == 0) = true := by simpa using h0
    obtain rfl : TT = 0 := by rw [unhide HT, h0]; exact tAt_zero l
    clear h0 HT
    go_enter Try.func63, Try.ntmps63
    go_wp2_with fail
    go_ret
    exact ⟨rfl, unhide B0⟩
  · have z1 : ((k : Int) == 0) = false := by simpa using h0
    obtain ⟨j, hj⟩ : ∃ j, k = j + 1 := ⟨k - 1, by omega⟩
    have hjl : j < l.length := by rw [unhide HN]; omega
    obtain ⟨b, off, ha, hblt, hc⟩ := hr.at (by rw [cE_len, unhide HN]; omega)
    subst ha
    obtain ⟨x0, x1⟩ := row_ent hc j hjl
    have hT : TT = l[j].1 := by rw [unhide HT, hj]; exact tAt_succ l j hjl
    rw [← hT] at x0
    have hx0 := ((unhide B0).cell (p := ⟨b, off + j * 2, none⟩) hblt).trans x0
    have hw1 : IntKind.i64.wrap ((k : Int) - 1) = (j : Int) := by rw [wrapi _ (by omega) (by omega)]; omega
    have hj1 : (j : Int) < (n : Int) := by omega
    have hj0 : (0 : Int) ≤ (j : Int) := by omega
    clear hc x0 x1 hT hj hjl h0 HT hk
    go_enter Try.func63, Try.ntmps63
    go_wp2_with fail
    go_ret
    exact ⟨rfl, unhide B0⟩
end Go.Proofs.Ytjlajpnhcphngaa
