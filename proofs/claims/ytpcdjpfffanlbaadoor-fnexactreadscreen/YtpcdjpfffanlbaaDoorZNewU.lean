/- A screen in a variable, and the rows that it owns, kept while other memory turns; NewScreen's answers in one form. -/
import Derived.Test.YtpcdjpfffanlbaaDoorZG29
namespace Go.Proofs.YtpcdjpfffanlbaaDoor
open Go.ChangeShapes Go.WideShapes Go.ChangeAt Go.RowKit
/-- The block A holds these cells, the rows vc and vh lie from lo up to hi. -/
structure ScrIn (w : World) (lo hi A : Nat) (sc : Array Value) (vc vh : Value) (n m : Nat) (xs ys : List Value) : Prop where
 box : ∀ o, w.cell? ⟨A, o, none⟩ = sc[o]?
 cells : HeldZ 2 w lo hi 53 vc n xs
 hist : HeldZ 1 w lo hi 9 vh m ys
 lt : A < w.heap.size
 ge : hi ≤ A
theorem ScrIn.below {w w' : World} {lo hi A : Nat} {sc : Array Value} {vc vh : Value} {n m : Nat} {xs ys : List Value} (h : ScrIn w lo hi A sc vc vh n m xs ys) (hb : Below w.heap.size w w') : ScrIn w' lo hi A sc vc vh n m xs ys :=
 ⟨fun o => (hb.cell (p := ⟨A, o, none⟩) h.lt).trans (h.box o), h.cells.below hb h.cells.le, h.hist.below hb h.hist.le, Nat.lt_of_lt_of_le h.lt hb.size, h.ge⟩
theorem ScrIn.alloc {w : World} {lo hi A : Nat} {sc : Array Value} {vc vh : Value} {n m : Nat} {xs ys : List Value} (h : ScrIn w lo hi A sc vc vh n m xs ys) (o : Obj) : ScrIn (w.alloc o) lo hi A sc vc vh n m xs ys :=
 h.below ((Below.refl _ _).alloc (Nat.le_refl _) o)
theorem ScrIn.spared {w w' : World} {lo hi A lo2 hi2 : Nat} {sc : Array Value} {vc vh : Value} {n m : Nat} {xs ys : List Value} (h : ScrIn w lo hi A sc vc vh n m xs ys) (hs : Spared w w' lo2 hi2) (hA : A < lo2 ∨ hi2 ≤ A) (hr : hi ≤ lo2 ∨ hi2 ≤ lo) : ScrIn w' lo hi A sc vc vh n m xs ys :=
 ⟨fun o => (World.cell?_of_block (hs.block A h.lt hA)).trans (h.box o), h.cells.spared hs hr, h.hist.spared hs hr, Nat.lt_of_lt_of_le h.lt hs.size, h.ge⟩
theorem ScrIn.marked {w w' : World} {lo hi A : Nat} {sc : Array Value} {vc vh : Value} {n m : Nat} {xs ys xs' ys' : List Value} (h : ScrIn w lo hi A sc vc vh n m xs ys) (hs : Spared w w' lo hi) (hc : HeldZ 2 w' lo hi 53 vc n xs') (hh : HeldZ 1 w' lo hi 9 vh m ys') : ScrIn w' lo hi A sc vc vh n m xs' ys' :=
 ⟨fun o => (World.cell?_of_block (hs.block A h.lt (.inr h.ge))).trans (h.box o), hc, hh, Nat.lt_of_lt_of_le h.lt hs.size, h.ge⟩
/-- A screen that was just answered is laid into a new variable. -/
theorem ScrIn.laid {w : World} {lo : Nat} {sc : Array Value} {vc vh : Value} {n m : Nat} {xs ys : List Value} (hc : w.ownsRow lo 53 2 vc n xs) (hh : w.ownsRow lo 9 1 vh m ys) : ScrIn (w.alloc (.cells sc 26)) lo w.heap.size w.heap.size sc vc vh n m xs ys := by
 have hb : Below w.heap.size w (w.alloc (.cells sc 26)) := (Below.refl _ _).alloc (Nat.le_refl _) _
 exact ⟨fun o => World.cell?_alloc_mark w _ _ _ o, (heldZ_of hc).below hb (Nat.le_refl _), (heldZ_of hh).below hb (Nat.le_refl _), by simp, Nat.le_refl _⟩
def nsL (aw ah : Int) : List (Int × Int) := if sizeB aw ah then List.replicate (aw.toNat * ah.toNat) (32, 0) else []
def ns (aw ah x : Int) : Int := if sizeB aw ah then x else 0
def nsC (aw ah : Int) : Int := if sizeB aw ah then 0 else 4
end Go.Proofs.YtpcdjpfffanlbaaDoor
