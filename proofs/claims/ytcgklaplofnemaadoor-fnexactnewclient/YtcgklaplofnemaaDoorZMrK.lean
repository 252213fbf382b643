/- Mirrors: what the laws' own helpers mark, and tell of marked ones. -/
import Derived.Test.YtcgklaplofnemaaDoorZG42
import Derived.Test.YtcgklaplofnemaaDoorZMarkS
import Derived.Test.YtcgklaplofnemaaDoorZHeldS
namespace Go.Proofs.YtcgklaplofnemaaDoor
open Go.ChangeShapes Go.WideShapes Go.ChangeAt Go.RowKit
set_option linter.unusedVariables false
set_option maxHeartbeats 2000000 in
set_option maxRecDepth 100000 in
theorem markMr (nb vw vh : Int) (a : Option Addr) (n cap lo hi k0 : Nat) (Q : Int) (HQ : Hid (Q = ((k0 + n : Nat) : Int))) (xs : List Value) (h1 : 0 < k0) (hk0 : k0 ≤ 2000000) (hn : n ≤ 2000000) (w : World) (h : Held w lo hi 9 (.slice a n cap) n xs) :
    Calls Tryd.prog 13 #[.agg #[.int .i64 nb, .int .i64 vw, .int .i64 vh, .slice a n cap], .int .i64 (k0 : Int)] w fun e w' => e = .returned (.int .i64 Q) ∧ Held w' lo hi 9 (.slice a n cap) n ((List.range n).map fun j => .string (mtS (k0 + j))) ∧ w.grownBy w' (Value.slice a n cap).ownBlock := by
  have HB := hide (Go.Joins.below_alloc1 w (.cells #[.int .i64 nb, .int .i64 vw, .int .i64 vh, .slice a n cap] 24))
  have HH := hide (h.below (unhide HB) h.le)
  clear h
  go_enter Tryd.func13, Tryd.ntmps13
  go_wp2_with fail
  refine (markString (.slice a n cap) n lo hi k0 xs hn h1 hk0 _ (unhide HH)).mono ?_
  rintro e w2 ⟨rfl, h2, hg2⟩
  rw [← unhide HQ]
  have H2 := hide h2
  have HG := hide (World.grownBy.trans' (below_asGrown (unhide HB)) hg2)
  clear h2 hg2 HH HB
  go_wp2_with fail
  go_ret
  exact ⟨rfl, unhide H2, unhide HG⟩
set_option maxHeartbeats 2000000 in
set_option maxRecDepth 100000 in
theorem heldMr (nb vw vh : Int) (a : Option Addr) (n cap lo hi k0 : Nat) (Q : Int) (HQ : Hid (Q = ((k0 + n : Nat) : Int))) (h1 : 0 < k0) (hk0 : k0 ≤ 2000000) (hn : n ≤ 2000000) (w : World) (h : Held w lo hi 9 (.slice a n cap) n ((List.range n).map fun j => .string (mtS (k0 + j)))) :
    Calls Tryd.prog 14 #[.agg #[.int .i64 nb, .int .i64 vw, .int .i64 vh, .slice a n cap], .int .i64 (k0 : Int)] w fun e w' => e = .returned (.int .i64 Q) ∧ Below w.heap.size w w' := by
  have HB := hide (Go.Joins.below_alloc1 w (.cells #[.int .i64 nb, .int .i64 vw, .int .i64 vh, .slice a n cap] 24))
  have HH := hide (h.below (unhide HB) h.le)
  have hQ0 : ¬ Q < 0 := by rw [unhide HQ]; omega
  clear h
  go_enter Tryd.func14, Tryd.ntmps14
  go_wp2_with fail
  refine (heldString (.slice a n cap) n lo hi k0 hn h1 hk0 _ (unhide HH)).mono ?_
  rintro e w2 ⟨rfl, hb2⟩
  rw [← unhide HQ]
  have HB2 := hide ((unhide HB).trans (hb2.mono (unhide HB).size))
  clear hb2 HH HB
  go_wp2_with fail
  go_ret
  exact ⟨rfl, unhide HB2⟩
end Go.Proofs.YtcgklaplofnemaaDoor
