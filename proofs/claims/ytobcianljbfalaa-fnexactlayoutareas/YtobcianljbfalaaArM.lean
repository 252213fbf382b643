/- The areas of a tree's panes. Plain mathematics. -/
import Derived.Test.YtobcianljbfalaaPrsM
import Derived.Test.YtobcianljbfalaaAreaL
namespace Go.Proofs.Ytobcianljbfalaa
open Go.ChangeShapes Go.WideShapes Go.ChangeAt Go.RowKit
def Tr.areas : Tr → Int → Int → Int → Int → List Ar
  | ⟨.inl n⟩, x, y, w, h => [⟨n, x, y, w, h⟩]
  | ⟨.inr (rows, s, l, r)⟩, x, y, w, h => if rows then l.areas x y w s ++ r.areas x (y + s) w (h - s) else l.areas x y s h ++ r.areas (x + s) y (w - s) h
theorem areas_len : ∀ (t : Tr) (x y w h : Int), (t.areas x y w h).length = t.panes.length := by
  intro t
  induction t using Tr.ind with
  | pane n => intro x y w h; rfl
  | split rows s l r ihl ihr => intro x y w h; rw [Tr.areas, Tr.panes]; split <;> simp [ihl, ihr]
end Go.Proofs.Ytobcianljbfalaa
