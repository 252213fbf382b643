/- Texts put together: OneI OneAll. -/
import Derived.Test.YtgnecacoehedkaaDoorZAppT
import Derived.Test.YtgnecacoehedkaaDoorZG21
import Derived.Test.YtgnecacoehedkaaDoorZG19
/- OneLayout: what the program and the specification answer. -/
namespace Go.Proofs.YtgnecacoehedkaaDoor
open Go.ChangeShapes Go.WideShapes Go.ChangeAt Go.RowKit
def oneL (n : Int) : List Pt := if pnB n then [⟨n, false, 0, -1, -1⟩] else []
def oneC (n : Int) : Int := if pnB n then 0 else 4
set_option maxHeartbeats 400000 in
set_option maxRecDepth 100000 in
theorem sl05one (n : Int) (w : World) : Calls Tryd.prog 28 #[.int .i64 n] w fun e w' => ∃ g, e = .returned (.agg #[.slice (some ⟨g, 0, none⟩) 1 1]) ∧ w'.ownsRow w.heap.size 53 5 (.slice (some ⟨g, 0, none⟩) 1 1) 1 (cPt [⟨n, false, 0, -1, -1⟩]) ∧ Below w.heap.size w w' := by
 go_enter Tryd.func28, Tryd.ntmps28
 go_wp2_with fail
 refine bodyPost_ret (v := .agg #[.slice (some ⟨w.heap.size + 1, 0, none⟩) 1 1]) (by simp [results, Tryd.results28, go_sem]) rfl ⟨w.heap.size + 1, rfl, ?_, ?_⟩
 ·refine Go.Joins.ownsRow_le (base := w.heap.size + 1) ?_ (by omega)
  have := World.ownsRow_lit (e := 53) (base := w.heap.size + 1) (size := 5) (w.alloc (Obj.cells #[.slice (some ⟨w.heap.size + 1, 0, none⟩) 1 1] 26)) #[.int .i64 n, .bool false, .int .i64 0, .int .i64 (-1), .int .i64 (-1)] 1 (by simp) (by decide) rfl
  simp at this
  exact this
 ·repeat refine Below.setCell ?_ (by exact Nat.le_refl _) _
  exact Go.Joins.below_alloc2 w _ _
end Go.Proofs.YtgnecacoehedkaaDoor

/- All that FnExactOneLayout's walk names. -/
