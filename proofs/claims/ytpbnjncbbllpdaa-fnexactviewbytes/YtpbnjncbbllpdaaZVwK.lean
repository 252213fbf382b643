/- Views: what the laws' own helpers mark, and tell of marked ones. -/
import Derived.Test.YtpbnjncbbllpdaaZRwK
import Derived.Test.YtpbnjncbbllpdaaZVwL
namespace Go.Proofs.Ytpbnjncbbllpdaa
open Go.ChangeShapes Go.WideShapes Go.ChangeAt Go.RowKit
set_option linter.unusedVariables false
set_option maxHeartbeats 2000000 in
set_option maxRecDepth 100000 in
theorem markVw (nb fr vw vh : Int) (fu : Bool) (a : Option Addr) (n cap lo hi k0 : Nat) (Q : Int) (HQ : Hid (Q = ((k0 + n * 2 : Nat) : Int))) (xs : List Value) (h1 : 0 < k0) (hk0 : k0 + n * 2 ≤ 3000000) (w : World) (h : HeldZ 2 w lo hi 46 (.slice a n cap) n xs) :
    Calls Try.prog 10 #[.agg #[.int .i64 nb, .int .i64 fr, .bool fu, .int .i64 vw, .int .i64 vh, .slice a n cap], .int .i64 (k0 : Int)] w fun e w' => e = .returned (.int .i64 Q) ∧ HeldZ 2 w' lo hi 46 (.slice a n cap) n (onesEnt k0 n) ∧ w.grownBy w' (Value.slice a n cap).ownBlock := by
  have HB := hide (Go.Joins.below_alloc1 w (.cells #[.int .i64 nb, .int .i64 fr, .bool fu, .int .i64 vw, .int .i64 vh, .slice a n cap] 31))
  have HH := hide (h.below (unhide HB) h.le)
  clear h
  go_enter Try.func10, Try.ntmps10
  go_wp2_with fail
  refine (markRow (.slice a n cap) n lo hi k0 xs h1 hk0 _ (unhide HH)).mono ?_
  rintro e w2 ⟨rfl, h2, hg2⟩
  rw [← unhide HQ]
  have H2 := hide h2
  have HG := hide (World.grownBy.trans' (below_asGrown (unhide HB)) hg2)
  clear h2 hg2 HH HB
  go_wp2_with fail
  go_ret
  exact ⟨rfl, unhide H2, unhide HG⟩
end Go.Proofs.Ytpbnjncbbllpdaa
