/- Marks in a node's four rows, and these found again; what lies elsewhere stands. -/
import Derived.Test.YthbkcijkokaoeaaNdL
import Derived.Test.YthbkcijkokaoeaaEntK
import Derived.Test.YthbkcijkokaoeaaIntK
namespace Go.Proofs.Ythbkcijkokaoeaa
open Go.ChangeShapes Go.WideShapes Go.ChangeAt Go.RowKit
set_option linter.unusedVariables false
/-- Only blocks between lo and hi turned. -/
structure Outs (lo hi : Nat) (w w' : World) : Prop where
  os : w'.os = w.os
  tape : w'.tape = w.tape
  output : w'.output = w.output
  size : w.heap.size ≤ w'.heap.size
  block : ∀ k, k < w.heap.size → (k < lo ∨ hi ≤ k) → w'.heap[k]? = w.heap[k]?
theorem Outs.trans {lo hi : Nat} {a b c : World} (h : Outs lo hi a b) (k : Outs lo hi b c) : Outs lo hi a c :=
  ⟨k.os.trans h.os, k.tape.trans h.tape, k.output.trans h.output, Nat.le_trans h.size k.size, fun i hi ho => (k.block i (Nat.lt_of_lt_of_le hi h.size) ho).trans (h.block i hi ho)⟩
theorem Outs.of_below {lo hi : Nat} {w w' : World} (h : Below w.heap.size w w') : Outs lo hi w w' := ⟨h.os, h.tape, h.output, h.size, fun k hk _ => h.block k hk⟩
theorem Outs.of_grown {lo hi : Nat} {row : Option Nat} {w w' : World} (h : w.grownBy w' row) (hr : ∀ k, row = some k → lo ≤ k ∧ k < hi) : Outs lo hi w w' :=
  ⟨h.os, h.tape, h.output, h.size, fun k hk ho => h.block k hk (fun e => by have := hr k e.symm; omega)⟩
theorem Held.outs {lo hi lo2 hi2 : Nat} {w w' : World} {e : TypeId} {v : Value} {n : Nat} {xs : List Value} (h : Held w lo2 hi2 e v n xs) (ho : Outs lo hi w w') (hd : hi2 ≤ lo ∨ hi ≤ lo2) : Held w' lo2 hi2 e v n xs := by
  obtain ⟨⟨hl, h2⟩, hk, hs⟩ := h
  refine ⟨⟨hl, ?_⟩, hk, Nat.le_trans hs ho.size⟩
  rcases h2 with h2 | ⟨g, cap, cur, rfl, hbg, hg, hrest⟩
  · exact .inl h2
  · have := hk g rfl
    exact .inr ⟨g, cap, cur, rfl, hbg, (ho.block g (by omega) (by omega)).trans hg, hrest⟩
theorem HeldZ.outs {z lo hi lo2 hi2 : Nat} {w w' : World} {e : TypeId} {v : Value} {n : Nat} {xs : List Value} (h : HeldZ z w lo2 hi2 e v n xs) (ho : Outs lo hi w w') (hd : hi2 ≤ lo ∨ hi ≤ lo2) : HeldZ z w' lo2 hi2 e v n xs := by
  obtain ⟨⟨hl, h2⟩, hk, hs⟩ := h
  refine ⟨⟨hl, ?_⟩, hk, Nat.le_trans hs ho.size⟩
  rcases h2 with h2 | ⟨g, cap, cur, rfl, hbg, hg, hrest⟩
  · exact .inl h2
  · have := hk g rfl
    exact .inr ⟨g, cap, cur, rfl, hbg, (ho.block g (by omega) (by omega)).trans hg, hrest⟩
theorem BF.outs {lo hi n : Nat} {cs : Array Value} {w w' : World} (h : BF n cs w) (ho : Outs lo hi w w') (hd : n < lo ∨ hi ≤ n) : BF n cs w' := h.keep ho.size (ho.block n h.lt hd)
theorem Below.outs {B lo hi : Nat} {w0 w w' : World} (h : Below B w0 w) (hB : B ≤ w.heap.size) (ho : Outs lo hi w w') (hd : B ≤ lo) : Below B w0 w' :=
  h.trans ⟨ho.os, ho.tape, ho.output, ho.size, fun k hk => ho.block k (by omega) (.inl (by omega))⟩
theorem Held.lo_le {lo hi g n : Nat} {w : World} {e : TypeId} {m cap : Nat} {xs : List Value} (h : Held w lo hi e (.slice (some ⟨g, 0, none⟩) m cap) n xs) : lo ≤ hi := by have := h.blk g rfl; omega
/-- The marks of a row of integers from k0 on. -/
def onesI (k0 n : Nat) : List Value := (List.range n).map fun j => .int .i64 (((k0 + j : Nat) : Int))
end Go.Proofs.Ythbkcijkokaoeaa
