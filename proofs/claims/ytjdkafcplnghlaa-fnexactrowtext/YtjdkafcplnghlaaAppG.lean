/- appendNumber: the bytes of a number behind a row; only the row's own block turns. -/
import Derived.Test.YtjdkafcplnghlaaAppI
namespace Go.Proofs.Ytjdkafcplnghlaa
open Go.ChangeShapes Go.WideShapes Go.ChangeAt Go.RowKit
theorem grown_app {w wr w2 : World} {o : Obj} {r r2 : Option Nat} (h : w.grownBy wr r) (h2 : (wr.alloc o).grownBy w2 r2) (hk : ∀ k, r2 = some k → r = some k ∨ w.heap.size ≤ k) : w.grownBy w2 r := by
  have hz := h.size
  have hz2 := h2.size
  simp at hz2
  refine ⟨h2.os.trans h.os, h2.tape.trans h.tape, h2.output.trans h.output, by omega, fun k hk1 hne => ?_⟩
  rw [h2.block k (by simp; omega) (fun e => by rcases hk k e.symm with h3 | h3; exact hne h3.symm; omega), Below.heap_alloc _ _ _ (by omega)]
  exact h.block k hk1 hne
end Go.Proofs.Ytjdkafcplnghlaa
