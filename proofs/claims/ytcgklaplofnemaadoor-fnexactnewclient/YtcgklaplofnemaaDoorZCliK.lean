/- Clients: what the laws' own helpers mark, and tell of marked ones. -/
import Derived.Test.YtcgklaplofnemaaDoorZCliL
import Derived.Test.YtcgklaplofnemaaDoorZMrK
namespace Go.Proofs.YtcgklaplofnemaaDoor
open Go.ChangeShapes Go.WideShapes Go.ChangeAt Go.RowKit
set_option linter.unusedVariables false
set_option maxHeartbeats 2000000 in
set_option maxRecDepth 100000 in
theorem markCl (id : Int) (win tok : ByteArray) (nb vw vh : Int) (a : Option Addr) (n cap lo hi k0 : Nat) (Q : Int) (HQ : Hid (Q = ((k0 + n : Nat) : Int))) (xs : List Value) (h1 : 0 < k0) (hk0 : k0 ≤ 2000000) (hn : n ≤ 2000000) (w : World) (h : Held w lo hi 9 (.slice a n cap) n xs) :
    Calls Tryd.prog 7 #[.agg #[.int .i64 id, .string win, .string tok, .int .i64 nb, .int .i64 vw, .int .i64 vh, .slice a n cap], .int .i64 (k0 : Int)] w fun e w' => e = .returned (.int .i64 Q) ∧ Held w' lo hi 9 (.slice a n cap) n ((List.range n).map fun j => .string (mtS (k0 + j))) ∧ w.grownBy w' (Value.slice a n cap).ownBlock := by
  have HB := hide (Go.Joins.below_alloc1 w (.cells #[.int .i64 id, .string win, .string tok, .int .i64 nb, .int .i64 vw, .int .i64 vh, .slice a n cap] 26))
  have HH := hide (h.below (unhide HB) h.le)
  have HN2 := hide hn
  clear h hn
  go_enter Tryd.func7, Tryd.ntmps7
  go_wp2_with fail
  refine (markMr nb vw vh a n cap lo hi k0 Q HQ xs h1 hk0 (unhide HN2) _ (unhide HH)).mono ?_
  rintro e w2 ⟨rfl, h2, hg2⟩
  have H2 := hide h2
  have HG := hide (World.grownBy.trans' (below_asGrown (unhide HB)) hg2)
  clear h2 hg2 HH HB
  go_wp2_with fail
  go_ret
  exact ⟨rfl, unhide H2, unhide HG⟩
set_option maxHeartbeats 2000000 in
set_option maxRecDepth 100000 in
theorem heldCl (id : Int) (win tok : ByteArray) (nb vw vh : Int) (a : Option Addr) (n cap lo hi k0 : Nat) (Q : Int) (HQ : Hid (Q = ((k0 + n : Nat) : Int))) (h1 : 0 < k0) (hk0 : k0 ≤ 2000000) (hn : n ≤ 2000000) (w : World) (h : Held w lo hi 9 (.slice a n cap) n ((List.range n).map fun j => .string (mtS (k0 + j)))) :
    Calls Tryd.prog 8 #[.agg #[.int .i64 id, .string win, .string tok, .int .i64 nb, .int .i64 vw, .int .i64 vh, .slice a n cap], .int .i64 (k0 : Int)] w fun e w' => e = .returned (.int .i64 Q) ∧ Below w.heap.size w w' := by
  have HB := hide (Go.Joins.below_alloc1 w (.cells #[.int .i64 id, .string win, .string tok, .int .i64 nb, .int .i64 vw, .int .i64 vh, .slice a n cap] 26))
  have HH := hide (h.below (unhide HB) h.le)
  have hQ0 : ¬ Q < 0 := by rw [unhide HQ]; omega
  have HN2 := hide hn
  clear h hn
  go_enter Tryd.func8, Tryd.ntmps8
  go_wp2_with fail
  refine (heldMr nb vw vh a n cap lo hi k0 Q HQ h1 hk0 (unhide HN2) _ (unhide HH)).mono ?_
  rintro e w2 ⟨rfl, hb2⟩
  have HB2 := hide ((unhide HB).trans (hb2.mono (unhide HB).size))
  clear hb2 HH HB
  go_wp2_with fail
  go_ret
  exact ⟨rfl, unhide HB2⟩
end Go.Proofs.YtcgklaplofnemaaDoor
