/- NewScreen: what the specification answers. -/
import Derived.Test.YtokfmcajikmhmaaNewI
import Derived.Test.YtokfmcajikmhmaaInS
import Derived.Test.YtokfmcajikmhmaaSizeT
namespace Go.Proofs.Ytokfmcajikmhmaa
open Go.ChangeShapes Go.WideShapes Go.ChangeAt Go.RowKit
theorem lit_emptyP (w : World) (base : Nat) (t : TypeId) (hb : base ≤ w.heap.size) : (w.alloc (.cells #[] t)).ownsRow base t 2 (.slice (some ⟨w.heap.size, 0, none⟩) 0 0) 0 (cP []) := by
  have := World.ownsRow_lit (e := t) (base := base) (size := 2) w #[] 0 hb (by unfold maxLen; omega) (by simp)
  simpa [cP] using this
theorem lit_atS (w : World) (s base : Nat) (t : TypeId) (hs : w.heap.size = s) (hb : base ≤ s) : (w.alloc (.cells #[] t)).ownsRow base t 1 (.slice (some ⟨s, 0, none⟩) 0 0) 0 (cS []) := by
  subst hs
  have := World.ownsRow_lit (e := t) (base := base) (size := 1) w #[] 0 hb (by unfold maxLen; omega) (by simp)
  simpa [cS] using this
theorem own_appP {w : World} {base : Nat} {e : TypeId} {v : Value} {n : Nat} {c : Int × Int} (h : w.ownsRow base e 2 v (n + 1) (cP (List.replicate n c) ++ [.int .i64 c.1, .int .i64 c.2])) : w.ownsRow base e 2 v (n + 1) (cP (List.replicate (n + 1) c)) := by
  rw [List.replicate_succ', cP_app]; exact h
end Go.Proofs.Ytokfmcajikmhmaa
