/- What a call leaves alone: all but a range of blocks; rows of elements of any size kept by it. -/
import Derived.Test.YtpcdjpfffanlbaaDoorZPair
namespace Go.Proofs.YtpcdjpfffanlbaaDoor
open Go.ChangeShapes Go.WideShapes Go.ChangeAt Go.RowKit
/-- Nothing turned but what lies from lo up to hi, and what is new. -/
structure Spared (w w' : World) (lo hi : Nat) : Prop where
 os : w'.os = w.os
 tape : w'.tape = w.tape
 output : w'.output = w.output
 size : w.heap.size ≤ w'.heap.size
 block : ∀ k, k < w.heap.size → (k < lo ∨ hi ≤ k) → w'.heap[k]? = w.heap[k]?
theorem Spared.refl (w : World) (lo hi : Nat) : Spared w w lo hi := ⟨rfl, rfl, rfl, Nat.le_refl _, fun _ _ _ => rfl⟩
theorem Spared.of_below {w w' : World} (h : Below w.heap.size w w') (lo hi : Nat) : Spared w w' lo hi := ⟨h.os, h.tape, h.output, h.size, fun k hk _ => h.block k hk⟩
theorem Spared.trans {w w' w'' : World} {lo hi : Nat} (h : Spared w w' lo hi) (h2 : Spared w' w'' lo hi) : Spared w w'' lo hi :=
 ⟨h2.os.trans h.os, h2.tape.trans h.tape, h2.output.trans h.output, Nat.le_trans h.size h2.size, fun k hk hr => (h2.block k (Nat.lt_of_lt_of_le hk h.size) hr).trans (h.block k hk hr)⟩
theorem Spared.of_grown {w w' : World} {row : Option Nat} {lo hi : Nat} (hg : w.grownBy w' row) (hr : ∀ k, row = some k → lo ≤ k ∧ k < hi) : Spared w w' lo hi :=
 ⟨hg.os, hg.tape, hg.output, hg.size, fun k hk h => hg.block k hk (fun e => by have := hr k e.symm; omega)⟩
theorem Spared.below {w w' : World} {B lo hi : Nat} (h : Spared w w' lo hi) (hB : B ≤ lo) (hs : B ≤ w.heap.size) : Below B w w' :=
 ⟨h.os, h.tape, h.output, h.size, fun k hk => h.block k (by omega) (.inl (by omega))⟩
theorem HeldZ.spared {z : Nat} {w w' : World} {lo hi lo2 hi2 : Nat} {e : TypeId} {v : Value} {n : Nat} {xs : List Value} (h : HeldZ z w lo hi e v n xs) (hs : Spared w w' lo2 hi2) (hr : hi ≤ lo2 ∨ hi2 ≤ lo) : HeldZ z w' lo hi e v n xs := by
 obtain ⟨⟨hl, h2⟩, hk, hz⟩ := h
 refine ⟨⟨hl, ?_⟩, hk, Nat.le_trans hz hs.size⟩
 rcases h2 with h2 | ⟨g, cap, cur, rfl, hbg, hg, hrest⟩
 ·exact .inl h2
 ·have := hk g rfl
  exact .inr ⟨g, cap, cur, rfl, hbg, (hs.block g (by omega) (by omega)).trans hg, hrest⟩
theorem heldZ_1 {w : World} {lo hi : Nat} {e : TypeId} {v : Value} {n : Nat} {xs : List Value} (h : HeldZ 1 w lo hi e v n xs) : Held w lo hi e v n xs := h
theorem held_Z {w : World} {lo hi : Nat} {e : TypeId} {v : Value} {n : Nat} {xs : List Value} (h : Held w lo hi e v n xs) : HeldZ 1 w lo hi e v n xs := h
theorem own_apart {w : World} {b b2 : Nat} {e e2 : TypeId} {z z2 : Nat} {v v2 : Value} {n n2 : Nat} {xs xs2 : List Value} (h : w.ownsRow b e z v n xs) (h2 : w.ownsRow b2 e2 z2 v2 n2 xs2) (he : e ≠ e2) : v.ownBlock = none ∨ v.ownBlock ≠ v2.ownBlock := by
 rcases h.2 with ⟨rfl, _⟩ | ⟨g, cap, cur, rfl, _, hg, _⟩
 ·exact .inl rfl
 ·rcases h2.2 with ⟨rfl, _⟩ | ⟨g2, cap2, cur2, rfl, _, hg2, _⟩
  ·exact .inr (fun h => by cases h)
  ·refine .inr (fun h => he ?_)
   simp only [Value.ownBlock, Option.some.injEq] at h
   subst h
   have := hg.symm.trans hg2
   simp only [Option.some.injEq, Obj.cells.injEq] at this
   exact this.2.1
theorem HeldZ.kept2 {z : Nat} {w w' : World} {lo hi : Nat} {row : Option Nat} {e : TypeId} {v : Value} {n : Nat} {xs : List Value} (h : HeldZ z w lo hi e v n xs) (hg : w.grownBy w' row) (hr : v.ownBlock = none ∨ v.ownBlock ≠ row) : HeldZ z w' lo hi e v n xs :=
 ⟨h.1.kept hg hr, h.2.1, Nat.le_trans h.2.2 hg.size⟩
end Go.Proofs.YtpcdjpfffanlbaaDoor
