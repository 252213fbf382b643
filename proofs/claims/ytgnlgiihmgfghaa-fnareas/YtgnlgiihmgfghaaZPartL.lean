/- Rows of Pt (structs of 5 cells): the laws' own helpers over them. -/
import Derived.Test.YtgnlgiihmgfghaaZPair
import Derived.Lib.SmallJoins
namespace Go.Proofs.Ytgnlgiihmgfghaa
open Go.ChangeShapes Go.WideShapes Go.ChangeAt Go.RowKit
structure Pt where
 pane : Int
 rows : Bool
 size : Int
 left : Int
 right : Int
def cPt1 (p : Pt) : List Value := [.int .i64 p.pane, .bool p.rows, .int .i64 p.size, .int .i64 p.left, .int .i64 p.right]
def cPt (l : List Pt) : List Value := l.flatMap cPt1
theorem cPt_cons (p : Pt) (l : List Pt) : cPt (p :: l) = .int .i64 p.pane :: .bool p.rows :: .int .i64 p.size :: .int .i64 p.left :: .int .i64 p.right :: cPt l := rfl
theorem cPt_len (l : List Pt) : (cPt l).length = l.length * 5 := by
 induction l with
 | nil => rfl
 | cons c l ih => rw [cPt_cons]; simp [ih]; omega
theorem cPt_app (l m : List Pt) : cPt (l ++ m) = cPt l ++ cPt m := by simp [cPt]
theorem cPt_one (l : List Pt) : ∀ u ∈ cPt l, u.oneCell' = true := by
 intro u hu
 simp only [cPt, List.mem_flatMap] at hu
 obtain ⟨p, -, hu⟩ := hu
 simp only [cPt1, List.mem_cons, List.not_mem_nil, or_false] at hu
 rcases hu with rfl | rfl | rfl | rfl | rfl <;> rfl
theorem cPt_at (l : List Pt) : ∀ (k : Nat) (h : k < l.length), (cPt l)[k * 5]? = some (.int .i64 l[k].pane) ∧ (cPt l)[k * 5 + 1]? = some (.bool l[k].rows) ∧ (cPt l)[k * 5 + 2]? = some (.int .i64 l[k].size) ∧ (cPt l)[k * 5 + 3]? = some (.int .i64 l[k].left) ∧ (cPt l)[k * 5 + 4]? = some (.int .i64 l[k].right) := by
 induction l with
 | nil => intro k h; simp at h
 | cons c l ih =>
  intro k h
  cases k with
  | zero => exact ⟨rfl, rfl, rfl, rfl, rfl⟩
  | succ k =>
   have := ih k (by simpa using h)
   rw [cPt_cons, show (k + 1) * 5 = k * 5 + 1 + 1 + 1 + 1 + 1 from by omega]
   simpa using this
theorem rowPt {w : World} {b off : Nat} {l : List Pt} (hc : ∀ i u, (cPt l)[i]? = some u → w.cell? ⟨b, off + i, none⟩ = some u) (k : Nat) (h : k < l.length) :
  w.cell? ⟨b, off + k * 5, none⟩ = some (.int .i64 l[k].pane) ∧ w.cell? ⟨b, off + k * 5 + 1, none⟩ = some (.bool l[k].rows) ∧ w.cell? ⟨b, off + k * 5 + 2, none⟩ = some (.int .i64 l[k].size) ∧ w.cell? ⟨b, off + k * 5 + 3, none⟩ = some (.int .i64 l[k].left) ∧ w.cell? ⟨b, off + k * 5 + 4, none⟩ = some (.int .i64 l[k].right) := by
 obtain ⟨h0, h1, h2, h3, h4⟩ := cPt_at l k h
 exact ⟨hc _ _ h0, hc _ _ h1, hc _ _ h2, hc _ _ h3, hc _ _ h4⟩
theorem Try.infL68 : (Try.prog.info? 68).map (fun i => (i.zero, i.size, i.bytes)) = some (some (.agg #[.int .i64 0, .bool false, .int .i64 0, .int .i64 0, .int .i64 0]), 5, 40) := by kernel_rfl

/-- A made row of zeros whose first k elements have been filled from l. -/
def fillPt (l : List Pt) (k : Nat) : List Pt := l.take k ++ List.replicate (l.length - k) ⟨0, false, 0, 0, 0⟩
theorem cPt_set (l : List Pt) : ∀ (k : Nat) (q : Pt), (((((cPt l).set (k * 5) (.int .i64 q.pane)).set (k * 5 + 1) (.bool q.rows)).set (k * 5 + 2) (.int .i64 q.size)).set (k * 5 + 3) (.int .i64 q.left)).set (k * 5 + 4) (.int .i64 q.right) = cPt (l.set k q) := by
 induction l with
 | nil => intro k q; simp [cPt]
 | cons c l ih =>
  intro k q
  cases k with
  | zero => rfl
  | succ k =>
   have := ih k q
   rw [List.set_cons_succ, cPt_cons, cPt_cons, show (k + 1) * 5 = k * 5 + 1 + 1 + 1 + 1 + 1 from by omega]
   simp only [List.set_cons_succ, Nat.add_assoc] at this ⊢
   rw [← this]

end Go.Proofs.Ytgnlgiihmgfghaa
