/- A layout in a variable, and the row that it owns, kept while other memory turns. -/
import Derived.Test.YthbkpdlcegakfaaDoorLayL
import Derived.Test.YthbkpdlcegakfaaDoorBf
namespace Go.Proofs.YthbkpdlcegakfaaDoor
open Go.ChangeShapes Go.WideShapes Go.ChangeAt Go.RowKit
/-- The block A holds a layout whose row v lies from lo up to hi. -/
structure LayIn (w : World) (lo hi A : Nat) (v : Value) (n : Nat) (xs : List Value) : Prop where
  box : ∀ o, w.cell? ⟨A, o, none⟩ = (#[v] : Array Value)[o]?
  row : HeldZ 5 w lo hi 49 v n xs
  lt : A < w.heap.size
  ge : hi ≤ A
theorem LayIn.below {w w' : World} {lo hi A : Nat} {v : Value} {n : Nat} {xs : List Value} (h : LayIn w lo hi A v n xs) (hb : Below w.heap.size w w') : LayIn w' lo hi A v n xs :=
  ⟨fun o => (hb.cell (p := ⟨A, o, none⟩) h.lt).trans (h.box o), h.row.below hb h.row.le, Nat.lt_of_lt_of_le h.lt hb.size, h.ge⟩
theorem LayIn.alloc {w : World} {lo hi A : Nat} {v : Value} {n : Nat} {xs : List Value} (h : LayIn w lo hi A v n xs) (o : Obj) : LayIn (w.alloc o) lo hi A v n xs :=
  h.below ((Below.refl _ _).alloc (Nat.le_refl _) o)
theorem LayIn.spared {w w' : World} {lo hi A lo2 hi2 : Nat} {v : Value} {n : Nat} {xs : List Value} (h : LayIn w lo hi A v n xs) (hs : Spared w w' lo2 hi2) (hA : A < lo2 ∨ hi2 ≤ A) (hr : hi ≤ lo2 ∨ hi2 ≤ lo) : LayIn w' lo hi A v n xs :=
  ⟨fun o => (World.cell?_of_block (hs.block A h.lt hA)).trans (h.box o), h.row.spared hs hr, Nat.lt_of_lt_of_le h.lt hs.size, h.ge⟩
theorem LayIn.marked {w w' : World} {lo hi A : Nat} {v : Value} {n : Nat} {xs xs' : List Value} (h : LayIn w lo hi A v n xs) (hs : Spared w w' lo hi) (hc : HeldZ 5 w' lo hi 49 v n xs') : LayIn w' lo hi A v n xs' :=
  ⟨fun o => (World.cell?_of_block (hs.block A h.lt (.inr h.ge))).trans (h.box o), hc, Nat.lt_of_lt_of_le h.lt hs.size, h.ge⟩
/-- A layout that was just answered is laid into a new variable. -/
theorem LayIn.laid {w : World} {lo : Nat} {v : Value} {n : Nat} {xs : List Value} (hc : w.ownsRow lo 49 5 v n xs) : LayIn (w.alloc (.cells #[v] 30)) lo w.heap.size w.heap.size v n xs := by
  have hb : Below w.heap.size w (w.alloc (.cells #[v] 30)) := (Below.refl _ _).alloc (Nat.le_refl _) _
  exact ⟨fun o => World.cell?_alloc_mark w _ _ _ o, (heldZ_of hc).below hb (Nat.le_refl _), by simp, Nat.le_refl _⟩
end Go.Proofs.YthbkpdlcegakfaaDoor
