/- A block that stands, and what is stored into it. -/
import Derived.Test.YthbkcijkokaoeaaPair
namespace Go.Proofs.Ythbkcijkokaoeaa
open Go.ChangeShapes Go.WideShapes Go.ChangeAt Go.RowKit
/-- A block that stands and may be written. -/
structure BF (n : Nat) (cs : Array Value) (wA : World) : Prop where
  S : ∀ o, wA.cell? ⟨n, o, none⟩ = cs[o]?
  F : ∀ o, wA.frozen? ⟨n, o, none⟩ = false
  lt : n < wA.heap.size
theorem BF.keep {n : Nat} {cs : Array Value} {wA w' : World} (h : BF n cs wA) (hs : wA.heap.size ≤ w'.heap.size) (hb : w'.heap[n]? = wA.heap[n]?) : BF n cs w' :=
  ⟨fun o => (World.cell?_of_block hb).trans (h.S o), fun o => (World.frozen?_of_block hb).trans (h.F o), Nat.lt_of_lt_of_le h.lt hs⟩
theorem BF.below {n : Nat} {cs : Array Value} {wA w' : World} (h : BF n cs wA) (hb : Below wA.heap.size wA w') : BF n cs w' := h.keep hb.size (hb.block n h.lt)
theorem BF.alloc {n : Nat} {cs : Array Value} {wA : World} (h : BF n cs wA) (o : Obj) : BF n cs (wA.alloc o) := h.below ((Below.refl _ _).alloc (Nat.le_refl _) o)
theorem BF.grown {n : Nat} {cs : Array Value} {wA w' : World} {row : Option Nat} (h : BF n cs wA) (hg : wA.grownBy w' row) (hne : row ≠ some n) : BF n cs w' := h.keep hg.size (hg.block n h.lt (fun e => hne e.symm))
theorem BF.new (wA : World) (cs : Array Value) (t : TypeId) : BF wA.heap.size cs (wA.alloc (.cells cs t)) := ⟨fun o => World.cell?_alloc_mark wA _ _ _ o, fun o => by simp [go_sem], by simp⟩
theorem BF.set {n : Nat} {cs : Array Value} {wA : World} (h : BF n cs wA) (o : Nat) (ho : o < cs.size) (v : Value) : BF n (cs.setIfInBounds o v) (wA.setCell ⟨n, o, none⟩ v) := by
  refine ⟨fun k => ?_, fun k => by rw [World.frozen?_setCell]; exact h.F k, by simpa using h.lt⟩
  by_cases e : k = o
  · subst e
    have h1 : wA.cell? ⟨n, k, none⟩ = some cs[k] := by rw [h.S k]; exact Array.getElem?_eq_getElem ho
    rw [World.cell?_setCell_same _ _ _ h1, Array.getElem?_setIfInBounds_self_of_lt ho]
  · rw [World.cell?_setCell_other _ _ _ _ (by intro h2; injection h2 with _ h3; exact e h3.symm), h.S k, Array.getElem?_setIfInBounds_ne (Ne.symm e)]
theorem BF.far {n : Nat} {cs : Array Value} {wA : World} (h : BF n cs wA) (a : Addr) (v : Value) (hne : a.block ≠ n) : BF n cs (wA.setCell a v) :=
  ⟨fun k => by rw [World.cell?_setCell_other _ _ _ _ (by intro h2; rw [h2] at hne; exact hne rfl)]; exact h.S k, fun k => by rw [World.frozen?_setCell]; exact h.F k, by simpa using h.lt⟩
theorem BF.drew {n : Nat} {cs : Array Value} {wA : World} (h : BF n cs wA) : BF n cs wA.drew := h.below (Below.refl _ _).drew
end Go.Proofs.Ythbkcijkokaoeaa
