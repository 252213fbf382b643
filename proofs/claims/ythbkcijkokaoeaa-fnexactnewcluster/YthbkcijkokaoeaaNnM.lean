/- What a new node is. -/
import Derived.Test.YthbkcijkokaoeaaNdR
import Derived.Test.YthbkcijkokaoeaaNdM
namespace Go.Proofs.Ythbkcijkokaoeaa
open Go.ChangeShapes Go.WideShapes Go.ChangeAt Go.RowKit
set_option linter.unusedVariables false
def NewIs (id nd : Int) (i0 i1 i3 i9 : Int) (u : Bool) (lx lg : List Int) (c : Int) : Prop :=
  if inB nd 1 5 && inB id 0 (nd - 1) then i0 = id ∧ i1 = nd ∧ i3 = -1 ∧ i9 = 5 + id ∧ u = true ∧ lx = List.replicate nd.toNat 1 ∧ lg = List.replicate nd.toNat 0 ∧ c = 0
  else i0 = 0 ∧ i1 = 0 ∧ i3 = 0 ∧ i9 = 0 ∧ u = false ∧ lx = [] ∧ lg = [] ∧ c = 4
def Apart (lo hi l0 h0 l1 h1 l2 h2 l3 h3 : Nat) : Prop := (h0 ≤ l1 ∨ h1 ≤ l0) ∧ (h0 ≤ l2 ∨ h2 ≤ l0) ∧ (h0 ≤ l3 ∨ h3 ≤ l0) ∧ (h1 ≤ l2 ∨ h2 ≤ l1) ∧ (h1 ≤ l3 ∨ h3 ≤ l1) ∧ (h2 ≤ l3 ∨ h3 ≤ l2) ∧ lo ≤ l0 ∧ h0 ≤ hi ∧ lo ≤ l1 ∧ h1 ≤ hi ∧ lo ≤ l2 ∧ h2 ≤ hi ∧ lo ≤ l3 ∧ h3 ≤ hi
/-- A node that was answered, with its rows. -/
def NewTo (w w' : World) (e : Ending) (i0 i1 i3 i9 : Int) (u : Bool) (lx lg : List Int) (nx ng : Nat) (c : Int) : Prop :=
  ∃ a cap av cv ax cx ag cg l0 h0 l1 h1 l2 h2 l3 h3, e = .returned (.tuple #[.agg #[.int .i64 i0, .int .i64 i1, .int .i64 0, .int .i64 i3, .int .i64 0, .bool u, .slice a 0 cap, .int .i64 0, .int .i64 0, .int .i64 i9, .slice av 0 cv, .slice ax nx cx, .slice ag ng cg], .int .i64 c]) ∧ (HeldZ 2 w' l0 h0 67 (.slice a 0 cap) 0 [] ∧ Held w' l1 h1 3 (.slice av 0 cv) 0 [] ∧ Held w' l2 h2 3 (.slice ax nx cx) nx (cI lx) ∧ Held w' l3 h3 3 (.slice ag ng cg) ng (cI lg)) ∧ Apart w.heap.size w'.heap.size l0 h0 l1 h1 l2 h2 l3 h3
theorem heldZ_nil {z : Nat} (w : World) (lo hi : Nat) (e : TypeId) (h : hi ≤ w.heap.size) : HeldZ z w lo hi e (.slice none 0 0) 0 [] := ⟨World.ownsRow_nil _ _ _ _, (fun k hk => by cases hk), h⟩
theorem held_nil (w : World) (lo hi : Nat) (e : TypeId) (h : hi ≤ w.heap.size) : Held w lo hi e (.slice none 0 0) 0 [] := ⟨World.ownsRow_nil _ _ _ _, (fun k hk => by cases hk), h⟩
theorem newTo_zero {w w' : World} (h : w.heap.size ≤ w'.heap.size) : NewTo w w' (.returned (.tuple #[.agg #[.int .i64 0, .int .i64 0, .int .i64 0, .int .i64 0, .int .i64 0, .bool false, .slice none 0 0, .int .i64 0, .int .i64 0, .int .i64 0, .slice none 0 0, .slice none 0 0, .slice none 0 0], .int .i64 4])) 0 0 0 0 false [] [] 0 0 4 :=
  ⟨none, 0, none, 0, none, 0, none, 0, w.heap.size, w.heap.size, w.heap.size, w.heap.size, w.heap.size, w.heap.size, w.heap.size, w.heap.size, rfl, ⟨heldZ_nil _ _ _ _ h, held_nil _ _ _ _ h, held_nil _ _ _ _ h, held_nil _ _ _ _ h⟩, by unfold Apart; omega⟩
end Go.Proofs.Ythbkcijkokaoeaa
