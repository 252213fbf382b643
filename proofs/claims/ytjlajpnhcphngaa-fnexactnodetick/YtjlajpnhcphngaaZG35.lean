/- Texts put together: MinM TkM. -/
import Derived.Test.YtjlajpnhcphngaaZG0
import Derived.Test.YtjlajpnhcphngaaZG15
import Derived.Test.YtjlajpnhcphngaaZG16
/- The lesser and the greater of two numbers. -/
namespace Go.Proofs.Ytjlajpnhcphngaa
open Go.ChangeShapes Go.WideShapes Go.ChangeAt Go.RowKit
/-- The lesser of two numbers. -/
def mn (x y : Int) : Int := if y < x then y else x
theorem run_mn {P : Program} {w : World} (ts : Array TypeId) (t : TypeId) (k k' : IntKind) (x y : Int) : (Builtin.min_ ts t #[.int k x, .int k' y]).run P w = .ok (.int k (mn x y)) w := by
  simp [Builtin.min_, Builtin.min2, mn]
/-- The greater of two numbers. -/
def mx (x y : Int) : Int := if x < y then y else x
end Go.Proofs.Ytjlajpnhcphngaa

/- What a tick makes of a node. -/
namespace Go.Proofs.Ytjlajpnhcphngaa
open Go.ChangeShapes Go.WideShapes Go.ChangeAt Go.RowKit
set_option linter.unusedVariables false
def stN (N : Nf) (dr : Nat) : Nf := { N with tm := N.tm + 1, vt := N.id, ro := 1, lv := [N.id], el := 0, wt := 5 + (dr : Int) % 8 }
def ldN (N : Nf) : Nf := { N with ro := 2, el := 0, lx := List.replicate N.nd.toNat ((N.l.length : Int) + 1), lg := List.replicate N.nd.toNat (0 : Int), l := ldL N.tm N.l, cm := ((advN N.id N.tm N.nd.toNat (ldL N.tm N.l) (List.replicate N.nd.toNat (0 : Int)) N.cm.toNat (ldL N.tm N.l).length : Nat) : Int) }
def ldMs (N : Nf) : List Mg := tls N.id N.tm (ldN N).cm (ldN N).l (fun _ => N.l.length) N.nd.toNat
def tkP (N : Nf) (dr : Nat) : Nf × List Mg :=
  if N.ro = 2 then (if 2 ≤ mn (N.el + 1) 1000 then ({ N with el := 0 }, tls N.id N.tm N.cm N.l (jOf N.lx) N.nd.toNat) else ({ N with el := mn (N.el + 1) 1000 }, []))
  else if N.wt ≤ mn (N.el + 1) 1000 ∧ N.tm < 1000 then (if N.nd = 1 then (ldN (stN N dr), ldMs (stN N dr)) else (stN N dr, asks N.id (N.tm + 1) N.l.length (tAt N.l N.l.length) N.nd.toNat))
  else ({ N with el := mn (N.el + 1) 1000 }, [])
def tkA (N : Nf) (dr : Int) : Nf × List Mg × Int :=
  if nfB N = false then (nfZ, [], 1) else if inB dr 0 1000000 = false then (nfZ, [], 4) else if N.up = false then (N, [], 13) else ((tkP N dr.toNat).1, (tkP N dr.toNat).2, 0)
/-- A node in block P whose four rows are its own, and what it sends. -/
def PtA (w w' : World) (P lo : Nat) (e : Ending) (N : Nf) (M : List Mg) : Prop :=
  ∃ eA eC vA vC xA xC gA gC vm L lom, e = .returned vm ∧ BF P #[.int .i64 N.id, .int .i64 N.nd, .int .i64 N.tm, .int .i64 N.vt, .int .i64 N.ro, .bool N.up, .slice eA N.l.length eC, .int .i64 N.cm, .int .i64 N.el, .int .i64 N.wt, .slice vA N.lv.length vC, .slice xA N.lx.length xC, .slice gA N.lg.length gC] w' ∧ w'.ownsRow lo 68 2 (.slice eA N.l.length eC) N.l.length (cE N.l) ∧ w'.ownsRow lo 3 1 (.slice vA N.lv.length vC) N.lv.length (cI N.lv) ∧ w'.ownsRow lo 3 1 (.slice xA N.lx.length xC) N.lx.length (cI N.lx) ∧ w'.ownsRow lo 3 1 (.slice gA N.lg.length gC) N.lg.length (cI N.lg) ∧ (∀ j, (Value.slice vA N.lv.length vC).ownBlock = some j → (Value.slice xA N.lx.length xC).ownBlock ≠ some j ∧ (Value.slice gA N.lg.length gC).ownBlock ≠ some j) ∧ (∀ j, (Value.slice xA N.lx.length xC).ownBlock = some j → (Value.slice gA N.lg.length gC).ownBlock ≠ some j) ∧ (∀ j, ((Value.slice eA N.l.length eC).ownBlock = some j ∨ (Value.slice vA N.lv.length vC).ownBlock = some j ∨ (Value.slice xA N.lx.length xC).ownBlock = some j ∨ (Value.slice gA N.lg.length gC).ownBlock = some j) → j < lom) ∧ (P < lom ∧ lo ≤ lom) ∧ L.map (·.1) = M ∧ MOwn w' lom vm L ∧ Below lo w w'
end Go.Proofs.Ytjlajpnhcphngaa
