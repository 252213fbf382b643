/- Where an owned row lies; trees behind a draw. -/
import Derived.Test.YthbkpdlcegakfaaDoorTreM
namespace Go.Proofs.YthbkpdlcegakfaaDoor
open Go.ChangeShapes Go.WideShapes Go.ChangeAt Go.RowKit
theorem own_at {w : World} {base : Nat} {e : TypeId} {z : Nat} {a : Option Addr} {n cap : Nat} {xs : List Value} (h : w.ownsRow base e z (.slice a n cap) n xs) (hn : 0 < n) : ∃ g, a = some ⟨g, 0, none⟩ := by
  rcases h.2 with ⟨e, e2⟩ | ⟨g, cap, cur, e, _⟩
  · omega
  · cases e; exact ⟨_, rfl⟩
theorem TreeAt.drew {X : Bx} {w : World} {t : Tr} {b : Nat} {bs : List Nat} (h : TreeAt X w t b bs) : TreeAt X w.drew t b bs := h.keep (Nat.le_refl _) (fun _ _ => rfl)
end Go.Proofs.YthbkpdlcegakfaaDoor
