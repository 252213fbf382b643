/- append of a text's bytes, and of a row that is not empty, at a step of a region that draws its order. -/
import Derived.Test.YtomlccmjcccndaaDoorZRowV
import Derived.Lib.AppendStr
namespace Go.Proofs.YtomlccmjcccndaaDoor
open Go.ChangeShapes Go.WideShapes Go.ChangeAt Go.RowKit
theorem own_some {w : World} {base : Nat} {e : TypeId} {v : Value} {n : Nat} {xs : List Value} (h : w.ownsRow base e 1 v n xs) (hn : 0 < n) :
    ∃ g cap, v = .slice (some ⟨g, 0, none⟩) n cap ∧ base ≤ g ∧ g < w.heap.size ∧ n ≤ cap ∧ ∀ j u, xs[j]? = some u → w.cell? ((⟨g, 0, none⟩ : Addr).add j) = some u := by
  rcases h.2 with ⟨_, rfl⟩ | ⟨g, cap, cur, rfl, hbg, hg, hnc, _⟩
  · omega
  · exact ⟨g, cap, rfl, hbg, (h.lt g rfl).2, hnc, h.cells (g := g) rfl⟩
end Go.Proofs.YtomlccmjcccndaaDoor
