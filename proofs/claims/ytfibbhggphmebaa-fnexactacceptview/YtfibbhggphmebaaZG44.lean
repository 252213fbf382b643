/- Texts put together: VwK AvAll. -/
import Derived.Test.YtfibbhggphmebaaZRwK
import Derived.Test.YtfibbhggphmebaaZVwL
import Derived.Test.YtfibbhggphmebaaZAvE
import Derived.Test.YtfibbhggphmebaaZAvS
import Derived.Test.YtfibbhggphmebaaZG38
import Derived.Test.YtfibbhggphmebaaZG41
import Derived.Test.YtfibbhggphmebaaZMarkS
import Derived.Test.YtfibbhggphmebaaZHeldS
/- Views: what the laws' own helpers mark, and tell of marked ones. -/
namespace Go.Proofs.Ytfibbhggphmebaa
open Go.ChangeShapes Go.WideShapes Go.ChangeAt Go.RowKit
set_option linter.unusedVariables false
set_option maxHeartbeats 2000000 in
set_option maxRecDepth 100000 in
theorem markVw (nb fr vw vh : Int) (fu : Bool) (a : Option Addr) (n cap lo hi k0 : Nat) (Q : Int) (HQ : Hid (Q = ((k0 + n * 2 : Nat) : Int))) (xs : List Value) (h1 : 0 < k0) (hk0 : k0 + n * 2 ≤ 3000000) (w : World) (h : HeldZ 2 w lo hi 61 (.slice a n cap) n xs) :
    Calls Try.prog 13 #[.agg #[.int .i64 nb, .int .i64 fr, .bool fu, .int .i64 vw, .int .i64 vh, .slice a n cap], .int .i64 (k0 : Int)] w fun e w' => e = .returned (.int .i64 Q) ∧ HeldZ 2 w' lo hi 61 (.slice a n cap) n (onesEnt k0 n) ∧ w.grownBy w' (Value.slice a n cap).ownBlock := by
  have HB := hide (Go.Joins.below_alloc1 w (.cells #[.int .i64 nb, .int .i64 fr, .bool fu, .int .i64 vw, .int .i64 vh, .slice a n cap] 36))
  have HH := hide (h.below (unhide HB) h.le)
  clear h
  go_enter Try.func13, Try.ntmps13
  go_wp2_with fail
  refine (markRow (.slice a n cap) n lo hi k0 xs h1 hk0 _ (unhide HH)).mono ?_
  rintro e w2 ⟨rfl, h2, hg2⟩
  rw [← unhide HQ]
  have H2 := hide h2
  have HG := hide (World.grownBy.trans' (below_asGrown (unhide HB)) hg2)
  clear h2 hg2 HH HB
  go_wp2_with fail
  go_ret
  exact ⟨rfl, unhide H2, unhide HG⟩
end Go.Proofs.Ytfibbhggphmebaa

/- AcceptView, put together. -/
namespace Go.Proofs.Ytfibbhggphmebaa
end Go.Proofs.Ytfibbhggphmebaa
