/- A node of the specification's trees: this pane, another one, a split. -/
import Derived.Test.YtgnlgiihmgfghaaZG29
namespace Go.Proofs.Ytgnlgiihmgfghaa
open Go.ChangeShapes Go.WideShapes Go.ChangeAt Go.RowKit
theorem leaf3 {w : World} {t : Tr} {b : Nat} {bs : List Nat} (n : Int) (h : TreeAt sBx w t b bs) : (t.is n = true ∧ w.cell? ⟨b, 3, none⟩ = some (.bool true) ∧ w.cell? ⟨b, 0, none⟩ = some (.int .i64 n)) ∨ (t.is n = false ∧ ∃ m, (¬ m = n ∧ (m == n) = false) ∧ w.cell? ⟨b, 3, none⟩ = some (.bool true) ∧ w.cell? ⟨b, 0, none⟩ = some (.int .i64 m)) ∨ (t.is n = false ∧ w.cell? ⟨b, 3, none⟩ = some (.bool false)) := by
 cases t using Tr.ind with
 | pane m =>
  obtain ⟨_, hb⟩ := h
  by_cases e : m = n
  ·subst e; left; exact ⟨by simp [Tr.is], hb.S 3, hb.S 0⟩
  ·right; left; exact ⟨by simpa [Tr.is] using e, m, ⟨e, by simpa using e⟩, hb.S 3, hb.S 0⟩
 | split r s l t _ _ =>
  obtain ⟨bl, br, Ls, Rs, _, hb, _⟩ := h
  right; right; exact ⟨rfl, hb.S 3⟩
end Go.Proofs.Ytgnlgiihmgfghaa
