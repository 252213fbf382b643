/- Texts put together: SizeT Spa LayL LayU. -/
import Derived.Test.YtgnecacoehedkaaDoorZSizeB
import Derived.Test.YtgnecacoehedkaaDoorZG19
import Derived.Test.YtgnecacoehedkaaDoorZG3
import Derived.Test.YtgnecacoehedkaaDoorZG4
/- l04Size: a screen's size, what the specification answers. -/
namespace Go.Proofs.YtgnecacoehedkaaDoor
open Go.ChangeShapes Go.WideShapes Go.ChangeAt Go.RowKit
theorem size_in (a b : Int) : sizeB a b = (inB a 2 24 && inB b 2 10) := by
 unfold sizeB inB; simp only [Bool.decide_and]; cases decide (2 ≤ a) <;> cases decide (a ≤ 24) <;> simp
set_option maxHeartbeats 400000 in
theorem ssize (w0 h0 : Int) (w : World) : Calls Tryd.prog 33 #[.int .i64 w0, .int .i64 h0] w fun e w' => e = .returned (.bool (sizeB w0 h0)) ∧ w' = w := by
 rw [size_in]
 cases h1 : inB w0 2 24 <;> cases h2 : inB h0 2 10
 all_goals
  go_enter Tryd.func33, Tryd.ntmps33
  go_wp2_with (go_at_call 21; refine (sin _ _ _ _).mono ?_; rintro e w1 ⟨rfl, rfl⟩; first | rw [h1] | rw [h2])
  go_ret
  exact ⟨rfl, rfl⟩
end Go.Proofs.YtgnecacoehedkaaDoor

/- What a call leaves alone: all but a range of blocks; rows of elements of any size kept by it. -/
namespace Go.Proofs.YtgnecacoehedkaaDoor
open Go.ChangeShapes Go.WideShapes Go.ChangeAt Go.RowKit
/-- Nothing turned but what lies from lo up to hi, and what is new. -/
structure Spared (w w' : World) (lo hi : Nat) : Prop where
 os : w'.os = w.os
 tape : w'.tape = w.tape
 output : w'.output = w.output
 size : w.heap.size ≤ w'.heap.size
 block : ∀ k, k < w.heap.size → (k < lo ∨ hi ≤ k) → w'.heap[k]? = w.heap[k]?
theorem Spared.refl (w : World) (lo hi : Nat) : Spared w w lo hi := ⟨rfl, rfl, rfl, Nat.le_refl _, fun _ _ _ => rfl⟩
theorem Spared.of_below {w w' : World} (h : Below w.heap.size w w') (lo hi : Nat) : Spared w w' lo hi := ⟨h.os, h.tape, h.output, h.size, fun k hk _ => h.block k hk⟩
theorem Spared.trans {w w' w'' : World} {lo hi : Nat} (h : Spared w w' lo hi) (h2 : Spared w' w'' lo hi) : Spared w w'' lo hi :=
 ⟨h2.os.trans h.os, h2.tape.trans h.tape, h2.output.trans h.output, Nat.le_trans h.size h2.size, fun k hk hr => (h2.block k (Nat.lt_of_lt_of_le hk h.size) hr).trans (h.block k hk hr)⟩
theorem Spared.below {w w' : World} {B lo hi : Nat} (h : Spared w w' lo hi) (hB : B ≤ lo) (hs : B ≤ w.heap.size) : Below B w w' :=
 ⟨h.os, h.tape, h.output, h.size, fun k hk => h.block k (by omega) (.inl (by omega))⟩
end Go.Proofs.YtgnecacoehedkaaDoor

/- Layouts: the laws' own helpers: likeness, marks, copies, sizes. -/
namespace Go.Proofs.YtgnecacoehedkaaDoor
open Go.ChangeShapes Go.WideShapes Go.ChangeAt Go.RowKit
end Go.Proofs.YtgnecacoehedkaaDoor

/- A layout in a variable, and the row that it owns, kept while other memory turns. -/
namespace Go.Proofs.YtgnecacoehedkaaDoor
open Go.ChangeShapes Go.WideShapes Go.ChangeAt Go.RowKit
/-- The block A holds a layout whose row v lies from lo up to hi. -/
structure LayIn (w : World) (lo hi A : Nat) (v : Value) (n : Nat) (xs : List Value) : Prop where
 box : ∀ o, w.cell? ⟨A, o, none⟩ = (#[v] : Array Value)[o]?
 row : HeldZ 5 w lo hi 53 v n xs
 lt : A < w.heap.size
 ge : hi ≤ A
theorem LayIn.below {w w' : World} {lo hi A : Nat} {v : Value} {n : Nat} {xs : List Value} (h : LayIn w lo hi A v n xs) (hb : Below w.heap.size w w') : LayIn w' lo hi A v n xs :=
 ⟨fun o => (hb.cell (p := ⟨A, o, none⟩) h.lt).trans (h.box o), h.row.below hb h.row.le, Nat.lt_of_lt_of_le h.lt hb.size, h.ge⟩
theorem LayIn.alloc {w : World} {lo hi A : Nat} {v : Value} {n : Nat} {xs : List Value} (h : LayIn w lo hi A v n xs) (o : Obj) : LayIn (w.alloc o) lo hi A v n xs :=
 h.below ((Below.refl _ _).alloc (Nat.le_refl _) o)
/-- A layout that was just answered is laid into a new variable. -/
theorem LayIn.laid {w : World} {lo : Nat} {v : Value} {n : Nat} {xs : List Value} (hc : w.ownsRow lo 53 5 v n xs) : LayIn (w.alloc (.cells #[v] 26)) lo w.heap.size w.heap.size v n xs := by
 have hb : Below w.heap.size w (w.alloc (.cells #[v] 26)) := (Below.refl _ _).alloc (Nat.le_refl _) _
 exact ⟨fun o => World.cell?_alloc_mark w _ _ _ o, (heldZ_of hc).below hb (Nat.le_refl _), by simp, Nat.le_refl _⟩
end Go.Proofs.YtgnecacoehedkaaDoor
