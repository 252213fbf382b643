/- Layouts: the laws' own helpers: likeness, marks, copies, sizes. -/
import Derived.Test.YtnlmidddigfnnaaPartL
import Derived.Test.YtnlmidddigfnnaaSpa
namespace Go.Proofs.Ytnlmidddigfnnaa
open Go.ChangeShapes Go.WideShapes Go.ChangeAt Go.RowKit
set_option maxHeartbeats 400000 in
set_option maxRecDepth 100000 in
theorem eqLay (a c : Option Addr) (cap cap2 : Nat) (l : List Pt) (hl : l.length ≤ 1048576) (w : World) (hr : RowV w a (cPt l)) (hr2 : RowV w c (cPt l)) :
    Calls Try.prog 6 #[.agg #[.slice a l.length cap], .agg #[.slice c l.length cap2]] w fun e w' => e = .returned (.bool true) ∧ Below w.heap.size w w' := by
  have HL := hide hl
  have HR := hide hr
  have HR2 := hide hr2
  have HB0 := hide (Go.Joins.below_alloc2 w (Obj.cells #[.slice a l.length cap] 24) (Obj.cells #[.slice c l.length cap2] 24))
  clear hl hr hr2
  go_enter Try.func6, Try.ntmps6
  go_wp2_with fail
  refine (samePart a c cap cap2 l (unhide HL) _ ((unhide HR).below (unhide HB0)) ((unhide HR2).below (unhide HB0))).mono ?_
  rintro e w1 ⟨rfl, hb⟩
  have HB := hide ((unhide HB0).trans (hb.mono (unhide HB0).size))
  clear hb
  go_wp2_with fail
  go_ret
  exact ⟨rfl, unhide HB⟩
set_option maxHeartbeats 400000 in
set_option maxRecDepth 100000 in
theorem markLay (v : Value) (n lo hi : Nat) (q : Int) (xs : List Value) (hq : q = ((1 + n * 5 : Nat) : Int)) (hn : n ≤ 1048576) (w : World) (h : HeldZ 5 w lo hi 39 v n xs) :
    Calls Try.prog 7 #[.agg #[v], .int .i64 1] w fun e w' => e = .returned (.int .i64 q) ∧ HeldZ 5 w' lo hi 39 v n (onesPart 1 n) ∧ Spared w w' lo hi := by
  subst hq
  have HN := hide hn
  have HH := hide (h.below (Go.Joins.below_alloc1 w (Obj.cells #[v] 24)) h.le)
  have HK := hide h.blk
  obtain ⟨a, cap, rfl, -⟩ := h.row
  clear hn h
  go_enter Try.func7, Try.ntmps7
  go_wp2_with fail
  have hn : n ≤ 1048576 := unhide HN
  refine (markPart _ n lo hi 1 xs (by omega) (by omega) _ (unhide HH)).mono ?_
  rintro e w1 ⟨rfl, h1, hg⟩
  have HH1 := hide h1
  have HS := hide ((Spared.of_below (Go.Joins.below_alloc1 w (Obj.cells #[.slice a n cap] 24)) lo hi).trans (Spared.of_grown hg (fun k hk => unhide HK k hk)))
  clear h1 hg hn
  go_wp2_with fail
  go_ret
  exact ⟨rfl, unhide HH1, unhide HS⟩
set_option maxHeartbeats 400000 in
set_option maxRecDepth 100000 in
theorem heldLay (v : Value) (n lo hi : Nat) (q : Int) (hq : q = ((1 + n * 5 : Nat) : Int)) (hn : n ≤ 1048576) (w : World) (h : HeldZ 5 w lo hi 39 v n (onesPart 1 n)) :
    Calls Try.prog 8 #[.agg #[v], .int .i64 1] w fun e w' => e = .returned (.int .i64 q) ∧ Below w.heap.size w w' := by
  have HN := hide hn
  have HQ := hide hq
  have q0 : ¬ q < 0 := by omega
  have HB0 := hide (Go.Joins.below_alloc1 w (Obj.cells #[v] 24))
  have HH := hide (h.below (Go.Joins.below_alloc1 w (Obj.cells #[v] 24)) h.le)
  clear hn h hq
  go_enter Try.func8, Try.ntmps8
  go_wp2_with fail
  have hn : n ≤ 1048576 := unhide HN
  refine (heldPart _ n lo hi 1 (by omega) (by omega) _ (unhide HH)).mono ?_
  rintro e w1 ⟨rfl, hb⟩
  rw [← unhide HQ]
  have HB := hide ((unhide HB0).trans (hb.mono (unhide HB0).size))
  clear hb hn
  go_wp2_with fail
  go_ret
  exact ⟨rfl, unhide HB⟩
end Go.Proofs.Ytnlmidddigfnnaa
