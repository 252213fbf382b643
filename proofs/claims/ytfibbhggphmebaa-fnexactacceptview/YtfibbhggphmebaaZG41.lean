/- Texts put together: MrK EntD. -/
import Derived.Test.YtfibbhggphmebaaZMrL
import Derived.Test.YtfibbhggphmebaaZMarkS
import Derived.Test.YtfibbhggphmebaaZHeldS
import Derived.Test.YtfibbhggphmebaaZEntM
/- Mirrors: what the laws' own helpers mark, and tell of marked ones. -/
namespace Go.Proofs.Ytfibbhggphmebaa
open Go.ChangeShapes Go.WideShapes Go.ChangeAt Go.RowKit
set_option linter.unusedVariables false
set_option maxHeartbeats 2000000 in
set_option maxRecDepth 100000 in
theorem markMr (nb vw vh : Int) (a : Option Addr) (n cap lo hi k0 : Nat) (Q : Int) (HQ : Hid (Q = ((k0 + n : Nat) : Int))) (xs : List Value) (h1 : 0 < k0) (hk0 : k0 ≤ 2000000) (hn : n ≤ 2000000) (w : World) (h : Held w lo hi 9 (.slice a n cap) n xs) :
    Calls Try.prog 12 #[.agg #[.int .i64 nb, .int .i64 vw, .int .i64 vh, .slice a n cap], .int .i64 (k0 : Int)] w fun e w' => e = .returned (.int .i64 Q) ∧ Held w' lo hi 9 (.slice a n cap) n ((List.range n).map fun j => .string (mtS (k0 + j))) ∧ w.grownBy w' (Value.slice a n cap).ownBlock := by
  have HB := hide (Go.Joins.below_alloc1 w (.cells #[.int .i64 nb, .int .i64 vw, .int .i64 vh, .slice a n cap] 30))
  have HH := hide (h.below (unhide HB) h.le)
  clear h
  go_enter Try.func12, Try.ntmps12
  go_wp2_with fail
  refine (markString (.slice a n cap) n lo hi k0 xs hn h1 hk0 _ (unhide HH)).mono ?_
  rintro e w2 ⟨rfl, h2, hg2⟩
  rw [← unhide HQ]
  have H2 := hide h2
  have HG := hide (World.grownBy.trans' (below_asGrown (unhide HB)) hg2)
  clear h2 hg2 HH HB
  go_wp2_with fail
  go_ret
  exact ⟨rfl, unhide H2, unhide HG⟩
set_option maxHeartbeats 2000000 in
set_option maxRecDepth 100000 in
theorem heldMr (nb vw vh : Int) (a : Option Addr) (n cap lo hi k0 : Nat) (Q : Int) (HQ : Hid (Q = ((k0 + n : Nat) : Int))) (h1 : 0 < k0) (hk0 : k0 ≤ 2000000) (hn : n ≤ 2000000) (w : World) (h : Held w lo hi 9 (.slice a n cap) n ((List.range n).map fun j => .string (mtS (k0 + j)))) :
    Calls Try.prog 14 #[.agg #[.int .i64 nb, .int .i64 vw, .int .i64 vh, .slice a n cap], .int .i64 (k0 : Int)] w fun e w' => e = .returned (.int .i64 Q) ∧ Below w.heap.size w w' := by
  have HB := hide (Go.Joins.below_alloc1 w (.cells #[.int .i64 nb, .int .i64 vw, .int .i64 vh, .slice a n cap] 30))
  have HH := hide (h.below (unhide HB) h.le)
  have hQ0 : ¬ Q < 0 := by rw [unhide HQ]; omega
  clear h
  go_enter Try.func14, Try.ntmps14
  go_wp2_with fail
  refine (heldString (.slice a n cap) n lo hi k0 hn h1 hk0 _ (unhide HH)).mono ?_
  rintro e w2 ⟨rfl, hb2⟩
  rw [← unhide HQ]
  have HB2 := hide ((unhide HB).trans (hb2.mono (unhide HB).size))
  clear hb2 HH HB
  go_wp2_with fail
  go_ret
  exact ⟨rfl, unhide HB2⟩
end Go.Proofs.Ytfibbhggphmebaa

/- Marks of rows of a number and a text. -/
namespace Go.Proofs.Ytfibbhggphmebaa
open Go.ChangeShapes Go.WideShapes Go.ChangeAt Go.RowKit
def mkE (k0 j : Nat) : Value := if j % 2 = 0 then .int .i64 ((k0 + j : Nat) : Int) else .string (mtS (k0 + j))
theorem mkE_even (k0 j : Nat) : mkE k0 (j * 2) = .int .i64 ((k0 + j * 2 : Nat) : Int) := by unfold mkE; rw [if_pos (by omega)]
theorem mkE_odd (k0 j : Nat) : mkE k0 (j * 2 + 1) = .string (mtS (k0 + (j * 2 + 1))) := by unfold mkE; rw [if_neg (by omega)]
def onesEnt (k0 n : Nat) : List Value := (List.range (n * 2)).map (mkE k0)
end Go.Proofs.Ytfibbhggphmebaa
