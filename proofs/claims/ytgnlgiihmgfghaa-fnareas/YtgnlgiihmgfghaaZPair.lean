/- Rows of pairs of integers: an element is two cells. Rows of elements of any size that a call owns, kept while other rows turn. -/
import Derived.Test.YtgnlgiihmgfghaaZRowV
namespace Go.Proofs.Ytgnlgiihmgfghaa
open Go.ChangeShapes Go.WideShapes Go.ChangeAt Go.RowKit
def cP (l : List (Int × Int)) : List Value := l.flatMap fun c => [.int .i64 c.1, .int .i64 c.2]
/-- v owns its row of elements of z cells each in a block from lo up to hi. -/
def HeldZ (z : Nat) (w : World) (lo hi : Nat) (e : TypeId) (v : Value) (n : Nat) (xs : List Value) : Prop :=
 w.ownsRow lo e z v n xs ∧ (∀ k, v.ownBlock = some k → k < hi) ∧ hi ≤ w.heap.size
theorem heldZ_of {z : Nat} {w : World} {lo : Nat} {e : TypeId} {v : Value} {n : Nat} {xs : List Value} (h : w.ownsRow lo e z v n xs) : HeldZ z w lo w.heap.size e v n xs :=
 ⟨h, fun k hk => (h.lt k hk).2, Nat.le_refl _⟩
theorem HeldZ.below {z : Nat} {w w' : World} {lo hi B : Nat} {e : TypeId} {v : Value} {n : Nat} {xs : List Value} (h : HeldZ z w lo hi e v n xs) (hb : Below B w w') (hB : hi ≤ B) : HeldZ z w' lo hi e v n xs := by
 obtain ⟨⟨hl, h2⟩, hk, hs⟩ := h
 refine ⟨⟨hl, ?_⟩, hk, Nat.le_trans hs hb.size⟩
 rcases h2 with h2 | ⟨g, cap, cur, rfl, hbg, hg, hrest⟩
 ·exact .inl h2
 ·exact .inr ⟨g, cap, cur, rfl, hbg, (hb.block g (Nat.lt_of_lt_of_le (hk g rfl) hB)).trans hg, hrest⟩
theorem HeldZ.grown {z : Nat} {w w' : World} {lo hi : Nat} {row : Option Nat} {e : TypeId} {v : Value} {n : Nat} {xs : List Value} (h : HeldZ z w lo hi e v n xs) (hg : w.grownBy w' row) (hr : ∀ k, row = some k → k < lo ∨ hi ≤ k) : HeldZ z w' lo hi e v n xs := by
 obtain ⟨ho, hk, hs⟩ := h
 refine ⟨ho.kept hg ?_, hk, Nat.le_trans hs hg.size⟩
 cases hv : v.ownBlock with
 | none => exact .inl rfl
 | some k =>
  right; intro he
  rcases hr k he.symm with h1 | h1
  ·exact absurd (ho.lt k hv).1 (by omega)
  ·exact absurd (hk k hv) (by omega)
theorem HeldZ.own {z : Nat} {w : World} {lo hi : Nat} {e : TypeId} {v : Value} {n : Nat} {xs : List Value} (h : HeldZ z w lo hi e v n xs) : w.ownsRow lo e z v n xs := h.1
theorem HeldZ.le {z : Nat} {w : World} {lo hi : Nat} {e : TypeId} {v : Value} {n : Nat} {xs : List Value} (h : HeldZ z w lo hi e v n xs) : hi ≤ w.heap.size := h.2.2
theorem HeldZ.blk {z : Nat} {w : World} {lo hi : Nat} {e : TypeId} {v : Value} {n : Nat} {xs : List Value} (h : HeldZ z w lo hi e v n xs) : ∀ k, v.ownBlock = some k → lo ≤ k ∧ k < hi := fun k hk => ⟨(h.1.lt k hk).1, h.2.1 k hk⟩
theorem ownZ_rowV {z : Nat} {w : World} {base : Nat} {e : TypeId} {v : Value} {n : Nat} {xs : List Value} (h : w.ownsRow base e z v n xs) : ∃ a cap, v = .slice a n cap ∧ RowV w a xs := by
 obtain ⟨hl, h2⟩ := h
 rcases h2 with ⟨rfl, rfl⟩ | ⟨g, cap, cur, rfl, hbg, hg, hrest⟩
 ·exact ⟨none, 0, rfl, .inl (List.length_eq_zero_iff.1 (by simpa using hl))⟩
 ·refine ⟨some ⟨g, 0, none⟩, cap, rfl, ?_⟩
  have hown : w.ownsRow base e z (.slice (some ⟨g, 0, none⟩) n cap) n xs := ⟨hl, .inr ⟨g, cap, cur, rfl, hbg, hg, hrest⟩⟩
  refine .inr ⟨g, 0, rfl, (hown.lt g rfl).2, fun i u hu => ?_⟩
  have hi : i < xs.length := (List.getElem?_eq_some_iff.1 hu).1
  rw [Nat.zero_add, hown.cellAt i (by omega), hu]
theorem rowZ_at {z : Nat} {w : World} {base : Nat} {e : TypeId} {a : Option Addr} {n cap : Nat} {xs : List Value} (h : w.ownsRow base e z (.slice a n cap) n xs) : RowV w a xs := by
 obtain ⟨a', cap', e, h⟩ := ownZ_rowV h
 injection e with e1; subst e1; exact h
theorem HeldZ.rowV {z : Nat} {w : World} {lo hi : Nat} {e : TypeId} {a : Option Addr} {n cap : Nat} {xs : List Value} (h : HeldZ z w lo hi e (.slice a n cap) n xs) : RowV w a xs := rowZ_at h.1
theorem HeldZ.row {z : Nat} {w : World} {lo hi : Nat} {e : TypeId} {v : Value} {n : Nat} {xs : List Value} (h : HeldZ z w lo hi e v n xs) : ∃ a cap, v = .slice a n cap ∧ RowV w a xs := ownZ_rowV h.1
/-- The pairs from place s on, j of them, turned into blanks. -/
def blk (l : List (Int × Int)) (s : Nat) : Nat → List (Int × Int)
 | 0 => l
 | j + 1 => (blk l s j).set (s + j) (32, 0)
end Go.Proofs.Ytgnlgiihmgfghaa
