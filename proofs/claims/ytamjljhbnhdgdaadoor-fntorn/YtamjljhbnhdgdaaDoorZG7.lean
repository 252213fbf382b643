/- Texts put together: StE Bf. -/
import Derived.Test.YtamjljhbnhdgdaaDoorZG6
import Derived.Test.YtamjljhbnhdgdaaDoorZG1
import Derived.Test.YtamjljhbnhdgdaaDoorZG2
/- The named errors of stores: what the listed variables hold; storeCode. -/
namespace Go.Proofs.YtamjljhbnhdgdaaDoor
open Go.ChangeShapes Go.WideShapes Go.ChangeAt Go.RowKit
set_option linter.unusedVariables false
/-- Five named errors, each of its own. -/
structure StE (w : World) (x0 x1 x2 x3 x4 : Addr) : Prop where
 g0 : w.cell? ⟨2, 0, none⟩ = some (.iface 145 (.pointer (some x0)))
 g1 : w.cell? ⟨3, 0, none⟩ = some (.iface 145 (.pointer (some x1)))
 g2 : w.cell? ⟨4, 0, none⟩ = some (.iface 145 (.pointer (some x2)))
 g3 : w.cell? ⟨1, 0, none⟩ = some (.iface 145 (.pointer (some x3)))
 g4 : w.cell? ⟨0, 0, none⟩ = some (.iface 145 (.pointer (some x4)))
 b0 : ∃ c t, w.heap[x0.block]? = some (.cells c t (0, 0))
 b1 : ∃ c t, w.heap[x1.block]? = some (.cells c t (0, 0))
 b2 : ∃ c t, w.heap[x2.block]? = some (.cells c t (0, 0))
 b3 : ∃ c t, w.heap[x3.block]? = some (.cells c t (0, 0))
 b4 : ∃ c t, w.heap[x4.block]? = some (.cells c t (0, 0))
 ne : [x0, x1, x2, x3, x4].Pairwise (· ≠ ·)
theorem cell_old {w w' : World} {a : Addr} {v : Value} (hb : Below w.heap.size w w') (h : w.cell? a = some v) : w'.cell? a = some v := (hb.cell (p := a) (World.block_lt_of_cell? w _ h)).trans h
theorem blk_old {w w' : World} {n : Nat} (hb : Below w.heap.size w w') (h : ∃ c t, w.heap[n]? = some (.cells c t (0, 0))) : ∃ c t, w'.heap[n]? = some (.cells c t (0, 0)) := by
 obtain ⟨c, t, h⟩ := h
 exact ⟨c, t, (hb.block n (by obtain ⟨h1, -⟩ := Array.getElem?_eq_some_iff.1 h; exact h1)).trans h⟩
theorem StE.below {w w' : World} {x0 x1 x2 x3 x4 : Addr} (h : StE w x0 x1 x2 x3 x4) (hb : Below w.heap.size w w') : StE w' x0 x1 x2 x3 x4 :=
 ⟨cell_old hb h.g0, cell_old hb h.g1, cell_old hb h.g2, cell_old hb h.g3, cell_old hb h.g4, blk_old hb h.b0, blk_old hb h.b1, blk_old hb h.b2, blk_old hb h.b3, blk_old hb h.b4, h.ne⟩
theorem StE.pairs {w : World} {x0 x1 x2 x3 x4 : Addr} (h : StE w x0 x1 x2 x3 x4) : (x0 ≠ x1 ∧ x0 ≠ x2 ∧ x0 ≠ x3 ∧ x0 ≠ x4) ∧ (x1 ≠ x2 ∧ x1 ≠ x3 ∧ x1 ≠ x4) ∧ (x2 ≠ x3 ∧ x2 ≠ x4) ∧ x3 ≠ x4 := by
 have := h.ne; simp at this; exact this
set_option maxHeartbeats 1000000 in
set_option maxRecDepth 100000 in
theorem icode0 (w : World) : Calls Tryd.prog 20 #[.nilIface] w fun e w' => e = .returned (.int .i64 0) ∧ w' = w := by
 go_enter Tryd.func20, Tryd.ntmps20
 go_wp2_with fail
 go_ret
 exact ⟨rfl, rfl⟩
set_option maxHeartbeats 1000000 in
set_option maxRecDepth 100000 in
theorem icode_0 {x0 x1 x2 x3 x4 : Addr} (w : World) (h : StE w x0 x1 x2 x3 x4) : Calls Tryd.prog 20 #[.iface 145 (.pointer (some x0))] w fun e w' => e = .returned (.int .i64 3) ∧ w' = w := by
 have hp := h.pairs
 have HE := hide h
 have c0 := h.g0
 have T0 := hide (iis x0 x0 true w (.inl ⟨rfl, rfl⟩))
 clear h hp HE
 go_enter Tryd.func20, Tryd.ntmps20
 go_wp2_with fail
 refine (unhide T0).mono ?_
 rintro e w0 ⟨rfl, hw⟩
 subst hw
 go_wp2_with fail
 go_ret
 exact ⟨rfl, rfl⟩
set_option maxHeartbeats 1000000 in
set_option maxRecDepth 100000 in
theorem icode_1 {x0 x1 x2 x3 x4 : Addr} (w : World) (h : StE w x0 x1 x2 x3 x4) : Calls Tryd.prog 20 #[.iface 145 (.pointer (some x1))] w fun e w' => e = .returned (.int .i64 3) ∧ w' = w := by
 have hp := h.pairs
 have HE := hide h
 have c0 := h.g0
 have c1 := h.g1
 have T0 := hide (iis x1 x0 false w (.inr ⟨rfl, hp.1.1.symm, (unhide HE).b1, (unhide HE).b0⟩))
 have T1 := hide (iis x1 x1 true w (.inl ⟨rfl, rfl⟩))
 clear h hp HE
 go_enter Tryd.func20, Tryd.ntmps20
 go_wp2_with fail
 refine (unhide T0).mono ?_
 rintro e w0 ⟨rfl, hw⟩
 subst hw
 go_wp2_with fail
 refine (unhide T1).mono ?_
 rintro e w1 ⟨rfl, hw⟩
 subst hw
 go_wp2_with fail
 go_ret
 exact ⟨rfl, rfl⟩
set_option maxHeartbeats 1000000 in
set_option maxRecDepth 100000 in
theorem icode_2 {x0 x1 x2 x3 x4 : Addr} (w : World) (h : StE w x0 x1 x2 x3 x4) : Calls Tryd.prog 20 #[.iface 145 (.pointer (some x2))] w fun e w' => e = .returned (.int .i64 3) ∧ w' = w := by
 have hp := h.pairs
 have HE := hide h
 have c0 := h.g0
 have c1 := h.g1
 have c2 := h.g2
 have T0 := hide (iis x2 x0 false w (.inr ⟨rfl, hp.1.2.1.symm, (unhide HE).b2, (unhide HE).b0⟩))
 have T1 := hide (iis x2 x1 false w (.inr ⟨rfl, hp.2.1.1.symm, (unhide HE).b2, (unhide HE).b1⟩))
 have T2 := hide (iis x2 x2 true w (.inl ⟨rfl, rfl⟩))
 clear h hp HE
 go_enter Tryd.func20, Tryd.ntmps20
 go_wp2_with fail
 refine (unhide T0).mono ?_
 rintro e w0 ⟨rfl, hw⟩
 subst hw
 go_wp2_with fail
 refine (unhide T1).mono ?_
 rintro e w1 ⟨rfl, hw⟩
 subst hw
 go_wp2_with fail
 refine (unhide T2).mono ?_
 rintro e w2 ⟨rfl, hw⟩
 subst hw
 go_wp2_with fail
 go_ret
 exact ⟨rfl, rfl⟩
set_option maxHeartbeats 1000000 in
set_option maxRecDepth 100000 in
theorem icode_3 {x0 x1 x2 x3 x4 : Addr} (w : World) (h : StE w x0 x1 x2 x3 x4) : Calls Tryd.prog 20 #[.iface 145 (.pointer (some x3))] w fun e w' => e = .returned (.int .i64 4) ∧ w' = w := by
 have hp := h.pairs
 have HE := hide h
 have c0 := h.g0
 have c1 := h.g1
 have c2 := h.g2
 have c3 := h.g3
 have T0 := hide (iis x3 x0 false w (.inr ⟨rfl, hp.1.2.2.1.symm, (unhide HE).b3, (unhide HE).b0⟩))
 have T1 := hide (iis x3 x1 false w (.inr ⟨rfl, hp.2.1.2.1.symm, (unhide HE).b3, (unhide HE).b1⟩))
 have T2 := hide (iis x3 x2 false w (.inr ⟨rfl, hp.2.2.1.1.symm, (unhide HE).b3, (unhide HE).b2⟩))
 have T3 := hide (iis x3 x3 true w (.inl ⟨rfl, rfl⟩))
 clear h hp HE
 go_enter Tryd.func20, Tryd.ntmps20
 go_wp2_with fail
 refine (unhide T0).mono ?_
 rintro e w0 ⟨rfl, hw⟩
 subst hw
 go_wp2_with fail
 refine (unhide T1).mono ?_
 rintro e w1 ⟨rfl, hw⟩
 subst hw
 go_wp2_with fail
 refine (unhide T2).mono ?_
 rintro e w2 ⟨rfl, hw⟩
 subst hw
 go_wp2_with fail
 refine (unhide T3).mono ?_
 rintro e w3 ⟨rfl, hw⟩
 subst hw
 go_wp2_with fail
 go_ret
 exact ⟨rfl, rfl⟩
set_option maxHeartbeats 1000000 in
set_option maxRecDepth 100000 in
theorem icode_4 {x0 x1 x2 x3 x4 : Addr} (w : World) (h : StE w x0 x1 x2 x3 x4) : Calls Tryd.prog 20 #[.iface 145 (.pointer (some x4))] w fun e w' => e = .returned (.int .i64 7) ∧ w' = w := by
 have hp := h.pairs
 have HE := hide h
 have c0 := h.g0
 have c1 := h.g1
 have c2 := h.g2
 have c3 := h.g3
 have c4 := h.g4
 have T0 := hide (iis x4 x0 false w (.inr ⟨rfl, hp.1.2.2.2.symm, (unhide HE).b4, (unhide HE).b0⟩))
 have T1 := hide (iis x4 x1 false w (.inr ⟨rfl, hp.2.1.2.2.symm, (unhide HE).b4, (unhide HE).b1⟩))
 have T2 := hide (iis x4 x2 false w (.inr ⟨rfl, hp.2.2.1.2.symm, (unhide HE).b4, (unhide HE).b2⟩))
 have T3 := hide (iis x4 x3 false w (.inr ⟨rfl, hp.2.2.2.symm, (unhide HE).b4, (unhide HE).b3⟩))
 have T4 := hide (iis x4 x4 true w (.inl ⟨rfl, rfl⟩))
 clear h hp HE
 go_enter Tryd.func20, Tryd.ntmps20
 go_wp2_with fail
 refine (unhide T0).mono ?_
 rintro e w0 ⟨rfl, hw⟩
 subst hw
 go_wp2_with fail
 refine (unhide T1).mono ?_
 rintro e w1 ⟨rfl, hw⟩
 subst hw
 go_wp2_with fail
 refine (unhide T2).mono ?_
 rintro e w2 ⟨rfl, hw⟩
 subst hw
 go_wp2_with fail
 refine (unhide T3).mono ?_
 rintro e w3 ⟨rfl, hw⟩
 subst hw
 go_wp2_with fail
 refine (unhide T4).mono ?_
 rintro e w4 ⟨rfl, hw⟩
 subst hw
 go_wp2_with fail
 go_ret
 exact ⟨rfl, rfl⟩
end Go.Proofs.YtamjljhbnhdgdaaDoor

/- A block that stands, and what is stored into it. -/
namespace Go.Proofs.YtamjljhbnhdgdaaDoor
open Go.ChangeShapes Go.WideShapes Go.ChangeAt Go.RowKit
/-- A block that stands and may be written. -/
structure BF (n : Nat) (cs : Array Value) (wA : World) : Prop where
 S : ∀ o, wA.cell? ⟨n, o, none⟩ = cs[o]?
 F : ∀ o, wA.frozen? ⟨n, o, none⟩ = false
 lt : n < wA.heap.size
theorem BF.keep {n : Nat} {cs : Array Value} {wA w' : World} (h : BF n cs wA) (hs : wA.heap.size ≤ w'.heap.size) (hb : w'.heap[n]? = wA.heap[n]?) : BF n cs w' :=
 ⟨fun o => (World.cell?_of_block hb).trans (h.S o), fun o => (World.frozen?_of_block hb).trans (h.F o), Nat.lt_of_lt_of_le h.lt hs⟩
theorem BF.below {n : Nat} {cs : Array Value} {wA w' : World} (h : BF n cs wA) (hb : Below wA.heap.size wA w') : BF n cs w' := h.keep hb.size (hb.block n h.lt)
theorem BF.alloc {n : Nat} {cs : Array Value} {wA : World} (h : BF n cs wA) (o : Obj) : BF n cs (wA.alloc o) := h.below ((Below.refl _ _).alloc (Nat.le_refl _) o)
theorem BF.grown {n : Nat} {cs : Array Value} {wA w' : World} {row : Option Nat} (h : BF n cs wA) (hg : wA.grownBy w' row) (hne : row ≠ some n) : BF n cs w' := h.keep hg.size (hg.block n h.lt (fun e => hne e.symm))
theorem BF.new (wA : World) (cs : Array Value) (t : TypeId) : BF wA.heap.size cs (wA.alloc (.cells cs t)) := ⟨fun o => World.cell?_alloc_mark wA _ _ _ o, fun o => by simp [go_sem], by simp⟩
theorem BF.set {n : Nat} {cs : Array Value} {wA : World} (h : BF n cs wA) (o : Nat) (ho : o < cs.size) (v : Value) : BF n (cs.setIfInBounds o v) (wA.setCell ⟨n, o, none⟩ v) := by
 refine ⟨fun k => ?_, fun k => by rw [World.frozen?_setCell]; exact h.F k, by simpa using h.lt⟩
 by_cases e : k = o
 ·subst e
  have h1 : wA.cell? ⟨n, k, none⟩ = some cs[k] := by rw [h.S k]; exact Array.getElem?_eq_getElem ho
  rw [World.cell?_setCell_same _ _ _ h1, Array.getElem?_setIfInBounds_self_of_lt ho]
 ·rw [World.cell?_setCell_other _ _ _ _ (by intro h2; injection h2 with _ h3; exact e h3.symm), h.S k, Array.getElem?_setIfInBounds_ne (Ne.symm e)]
theorem BF.far {n : Nat} {cs : Array Value} {wA : World} (h : BF n cs wA) (a : Addr) (v : Value) (hne : a.block ≠ n) : BF n cs (wA.setCell a v) :=
 ⟨fun k => by rw [World.cell?_setCell_other _ _ _ _ (by intro h2; rw [h2] at hne; exact hne rfl)]; exact h.S k, fun k => by rw [World.frozen?_setCell]; exact h.F k, by simpa using h.lt⟩
theorem BF.drew {n : Nat} {cs : Array Value} {wA : World} (h : BF n cs wA) : BF n cs wA.drew := h.below (Below.refl _ _).drew
end Go.Proofs.YtamjljhbnhdgdaaDoor
