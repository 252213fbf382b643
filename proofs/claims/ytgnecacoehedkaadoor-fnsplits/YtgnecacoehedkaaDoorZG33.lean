/- Texts put together: AreaL ArM AreT SeeM. -/
import Derived.Test.YtgnecacoehedkaaDoorZG4
import Derived.Lib.SmallJoins
import Derived.Test.YtgnecacoehedkaaDoorZG6
/- Rows of Ar (structs of 5 cells): the laws' own helpers over them. -/
namespace Go.Proofs.YtgnecacoehedkaaDoor
open Go.ChangeShapes Go.WideShapes Go.ChangeAt Go.RowKit
structure Ar where
 pane : Int
 x : Int
 y : Int
 w : Int
 h : Int
def cAr1 (p : Ar) : List Value := [.int .i64 p.pane, .int .i64 p.x, .int .i64 p.y, .int .i64 p.w, .int .i64 p.h]
def cAr (l : List Ar) : List Value := l.flatMap cAr1
theorem cAr_cons (p : Ar) (l : List Ar) : cAr (p :: l) = .int .i64 p.pane :: .int .i64 p.x :: .int .i64 p.y :: .int .i64 p.w :: .int .i64 p.h :: cAr l := rfl
theorem cAr_len (l : List Ar) : (cAr l).length = l.length * 5 := by
 induction l with
 | nil => rfl
 | cons c l ih => rw [cAr_cons]; simp [ih]; omega
theorem cAr_app (l m : List Ar) : cAr (l ++ m) = cAr l ++ cAr m := by simp [cAr]
theorem cAr_one (l : List Ar) : ∀ u ∈ cAr l, u.oneCell' = true := by
 intro u hu
 simp only [cAr, List.mem_flatMap] at hu
 obtain ⟨p, -, hu⟩ := hu
 simp only [cAr1, List.mem_cons, List.not_mem_nil, or_false] at hu
 rcases hu with rfl | rfl | rfl | rfl | rfl <;> rfl
theorem cAr_at (l : List Ar) : ∀ (k : Nat) (h : k < l.length), (cAr l)[k * 5]? = some (.int .i64 l[k].pane) ∧ (cAr l)[k * 5 + 1]? = some (.int .i64 l[k].x) ∧ (cAr l)[k * 5 + 2]? = some (.int .i64 l[k].y) ∧ (cAr l)[k * 5 + 3]? = some (.int .i64 l[k].w) ∧ (cAr l)[k * 5 + 4]? = some (.int .i64 l[k].h) := by
 induction l with
 | nil => intro k h; simp at h
 | cons c l ih =>
  intro k h
  cases k with
  | zero => exact ⟨rfl, rfl, rfl, rfl, rfl⟩
  | succ k =>
   have := ih k (by simpa using h)
   rw [cAr_cons, show (k + 1) * 5 = k * 5 + 1 + 1 + 1 + 1 + 1 from by omega]
   simpa using this
theorem rowAr {w : World} {b off : Nat} {l : List Ar} (hc : ∀ i u, (cAr l)[i]? = some u → w.cell? ⟨b, off + i, none⟩ = some u) (k : Nat) (h : k < l.length) :
  w.cell? ⟨b, off + k * 5, none⟩ = some (.int .i64 l[k].pane) ∧ w.cell? ⟨b, off + k * 5 + 1, none⟩ = some (.int .i64 l[k].x) ∧ w.cell? ⟨b, off + k * 5 + 2, none⟩ = some (.int .i64 l[k].y) ∧ w.cell? ⟨b, off + k * 5 + 3, none⟩ = some (.int .i64 l[k].w) ∧ w.cell? ⟨b, off + k * 5 + 4, none⟩ = some (.int .i64 l[k].h) := by
 obtain ⟨h0, h1, h2, h3, h4⟩ := cAr_at l k h
 exact ⟨hc _ _ h0, hc _ _ h1, hc _ _ h2, hc _ _ h3, hc _ _ h4⟩
theorem Tryd.infL32 : (Tryd.prog.info? 32).map (fun i => (i.zero, i.size, i.bytes)) = some (some (.agg #[.int .i64 0, .int .i64 0, .int .i64 0, .int .i64 0, .int .i64 0]), 5, 40) := by kernel_rfl

/-- A made row of zeros whose first k elements have been filled from l. -/
def fillAr (l : List Ar) (k : Nat) : List Ar := l.take k ++ List.replicate (l.length - k) ⟨0, 0, 0, 0, 0⟩
end Go.Proofs.YtgnecacoehedkaaDoor

/- The areas of a tree's panes. Plain mathematics. -/
namespace Go.Proofs.YtgnecacoehedkaaDoor
open Go.ChangeShapes Go.WideShapes Go.ChangeAt Go.RowKit
def Tr.areas : Tr → Int → Int → Int → Int → List Ar
 | ⟨.inl n⟩, x, y, w, h => [⟨n, x, y, w, h⟩]
 | ⟨.inr (rows, s, l, r)⟩, x, y, w, h => if rows then l.areas x y w s ++ r.areas x (y + s) w (h - s) else l.areas x y s h ++ r.areas (x + s) y (w - s) h
theorem areas_len : ∀ (t : Tr) (x y w h : Int), (t.areas x y w h).length = t.panes.length := by
 intro t
 induction t using Tr.ind with
 | pane n => intro x y w h; rfl
 | split rows s l r ihl ihr => intro x y w h; rw [Tr.areas, Tr.panes]; split <;> simp [ihl, ihr]
end Go.Proofs.YtgnecacoehedkaaDoor

/- Areas cover the whole, each place once. Plain mathematics. -/
namespace Go.Proofs.YtgnecacoehedkaaDoor
open Go.ChangeShapes Go.WideShapes Go.ChangeAt Go.RowKit
def Ar.has (a : Ar) (px py : Int) : Bool := decide (a.x ≤ px ∧ px < a.x + a.w ∧ a.y ≤ py ∧ py < a.y + a.h)
end Go.Proofs.YtgnecacoehedkaaDoor

/- A grid of counts: how often each place was seen. Plain mathematics. -/
namespace Go.Proofs.YtgnecacoehedkaaDoor
open Go.ChangeShapes Go.WideShapes Go.ChangeAt Go.RowKit
def gridL (W H : Nat) (f : Nat → Nat → Int) : List Int := (List.range (W * H)).map fun q => f (q % W) (q / W)
/-- How many of the areas have the place. -/
def cov (A : List Ar) (x y : Nat) : Int := ((A.countP (fun a => a.has (x : Int) (y : Int)) : Nat) : Int)
/-- What is done of an area, row by row, up to the place (X, Y). -/
def par (a : Ar) (X Y : Int) (x y : Nat) : Int := if a.has (x : Int) (y : Int) = true ∧ ((y : Int) < Y ∨ ((y : Int) = Y ∧ (x : Int) < X)) then 1 else 0
/-- The grid while an area is gone over. -/
def seeL (W H : Nat) (A : List Ar) (a : Ar) (X Y : Int) : List Int := gridL W H (fun x y => cov A x y + par a X Y x y)
end Go.Proofs.YtgnecacoehedkaaDoor
