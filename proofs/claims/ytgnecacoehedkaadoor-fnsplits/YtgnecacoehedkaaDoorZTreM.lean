/- Layouts as trees: their parts in a row; trees in memory. -/
import Derived.Test.YtgnecacoehedkaaDoorZG4
namespace Go.Proofs.YtgnecacoehedkaaDoor
open Go.ChangeShapes Go.WideShapes Go.ChangeAt Go.RowKit
structure Tr where
 v : Sum Int (Bool × Int × Tr × Tr)
abbrev Tr.pane (n : Int) : Tr := ⟨.inl n⟩
abbrev Tr.split (r : Bool) (s : Int) (l t : Tr) : Tr := ⟨.inr (r, s, l, t)⟩
theorem Tr.ind {motive : Tr → Prop} (pane : ∀ n, motive (.pane n)) (split : ∀ r s l t, motive l → motive t → motive (.split r s l t)) : ∀ t, motive t
 | ⟨.inl n⟩ => pane n
 | ⟨.inr (r, s, l, t)⟩ => split r s l t (Tr.ind pane split l) (Tr.ind pane split t)
def Tr.cnt : Tr → Nat
 | ⟨.inl _⟩ => 1
 | ⟨.inr (_, _, l, r)⟩ => 1 + l.cnt + r.cnt
def Tr.flat : Tr → Nat → List Pt
 | ⟨.inl n⟩, _ => [⟨n, false, 0, -1, -1⟩]
 | ⟨.inr (b, s, l, r)⟩, k => ⟨0, b, s, ((k + 1 : Nat) : Int), ((k + 1 + l.cnt : Nat) : Int)⟩ :: (l.flat (k + 1) ++ r.flat (k + 1 + l.cnt))
theorem Tr.cnt_pos : ∀ t : Tr, 0 < t.cnt
 | ⟨.inl _⟩ => by simp [Tr.cnt]
 | ⟨.inr (_, _, _, _)⟩ => by simp [Tr.cnt]; omega
theorem Tr.flat_len : ∀ (t : Tr) (k : Nat), (t.flat k).length = t.cnt
 | ⟨.inl _⟩, _ => rfl
 | ⟨.inr (_, _, l, r)⟩, k => by simp only [Tr.flat, Tr.cnt, List.length_cons, List.length_append, Tr.flat_len l, Tr.flat_len r]; omega
/-- How a tree's nodes lie in memory: a pane's cells, a split's. -/
structure Bx where
 leaf : Int → Array Value
 node : Bool → Int → Nat → Nat → Array Value
/-- The program's trees. -/
def iBx : Bx := ⟨fun n => #[.int .i64 n, .bool false, .int .i64 0, .pointer none, .pointer none], fun r s bl br => #[.int .i64 0, .bool r, .int .i64 s, .pointer (some ⟨bl, 0, none⟩), .pointer (some ⟨br, 0, none⟩)]⟩
/-- The specification's trees. -/
def sBx : Bx := ⟨fun n => #[.int .i64 n, .int .i64 0, .bool false, .bool true, .pointer none, .pointer none], fun r s bl br => #[.int .i64 0, .int .i64 s, .bool r, .bool false, .pointer (some ⟨bl, 0, none⟩), .pointer (some ⟨br, 0, none⟩)]⟩
/-- The tree t lies at the block b, in the blocks bs. -/
def TreeAt (X : Bx) (w : World) : Tr → Nat → List Nat → Prop
 | ⟨.inl n⟩, b, bs => bs = [b] ∧ BF b (X.leaf n) w
 | ⟨.inr (r, s, l, t)⟩, b, bs => ∃ bl br Ls Rs, bs = b :: (Ls ++ Rs) ∧ BF b (X.node r s bl br) w ∧ TreeAt X w l bl Ls ∧ TreeAt X w t br Rs
theorem TreeAt.keep {X : Bx} {w w' : World} : ∀ {t : Tr} {b : Nat} {bs : List Nat}, TreeAt X w t b bs → w.heap.size ≤ w'.heap.size → (∀ k ∈ bs, w'.heap[k]? = w.heap[k]?) → TreeAt X w' t b bs
 | ⟨.inl _⟩, b, bs, ⟨e, h⟩, hs, hk => ⟨e, h.keep hs (hk b (by rw [e]; simp))⟩
 | ⟨.inr (_, _, l, r)⟩, b, bs, ⟨bl, br, Ls, Rs, e, h, h1, h2⟩, hs, hk =>
  ⟨bl, br, Ls, Rs, e, h.keep hs (hk b (by rw [e]; simp)), h1.keep hs (fun k hk1 => hk k (by rw [e]; simp [hk1])), h2.keep hs (fun k hk1 => hk k (by rw [e]; simp [hk1]))⟩
theorem TreeAt.lt {X : Bx} {w : World} : ∀ {t : Tr} {b : Nat} {bs : List Nat}, TreeAt X w t b bs → ∀ k ∈ bs, k < w.heap.size
 | ⟨.inl _⟩, b, bs, ⟨e, h⟩, k, hk => by rw [e] at hk; simp at hk; subst hk; exact h.lt
 | ⟨.inr (_, _, l, r)⟩, b, bs, ⟨bl, br, Ls, Rs, e, h, h1, h2⟩, k, hk => by
  rw [e] at hk; simp at hk
  rcases hk with rfl | hk | hk
  ·exact h.lt
  ·exact h1.lt k hk
  ·exact h2.lt k hk
theorem TreeAt.root {X : Bx} {w : World} : ∀ {t : Tr} {b : Nat} {bs : List Nat}, TreeAt X w t b bs → b ∈ bs
 | ⟨.inl _⟩, b, bs, ⟨e, h⟩ => by rw [e]; simp
 | ⟨.inr (_, _, l, r)⟩, b, bs, ⟨bl, br, Ls, Rs, e, h, h1, h2⟩ => by rw [e]; simp
theorem TreeAt.below {X : Bx} {w w' : World} {t : Tr} {b : Nat} {bs : List Nat} (h : TreeAt X w t b bs) (hb : Below w.heap.size w w') : TreeAt X w' t b bs :=
 h.keep hb.size (fun k hk => hb.block k (h.lt k hk))
theorem TreeAt.alloc {X : Bx} {w : World} {t : Tr} {b : Nat} {bs : List Nat} (h : TreeAt X w t b bs) (o : Obj) : TreeAt X (w.alloc o) t b bs :=
 h.below ((Below.refl _ _).alloc (Nat.le_refl _) o)
theorem TreeAt.grown {X : Bx} {w w' : World} {row : Option Nat} {t : Tr} {b : Nat} {bs : List Nat} (h : TreeAt X w t b bs) (hg : w.grownBy w' row) (hr : ∀ k ∈ bs, row ≠ some k) : TreeAt X w' t b bs :=
 h.keep hg.size (fun k hk => hg.block k (h.lt k hk) (fun e => hr k hk e.symm))
/-- What an appended row may lie in: as before, or new. -/
def From (w : World) (v v' : Value) : Prop := ∀ k, v'.ownBlock = some k → v.ownBlock = some k ∨ w.heap.size ≤ k
theorem From.trans {w w' : World} {v v' v'' : Value} (h : From w v v') (h2 : From w' v' v'') (hs : w.heap.size ≤ w'.heap.size) : From w v v'' := fun k hk => by
 rcases h2 k hk with h3 | h3
 ·exact h k h3
 ·right; omega
theorem grownFrom {w w' w'' : World} {v v' : Value} (h : w.grownBy w' v.ownBlock) (hf : From w v v') (h2 : w'.grownBy w'' v'.ownBlock) : w.grownBy w'' v.ownBlock := by
 refine ⟨h2.os.trans h.os, h2.tape.trans h.tape, h2.output.trans h.output, Nat.le_trans h.size h2.size, fun k hk hne => ?_⟩
 rw [h2.block k (Nat.lt_of_lt_of_le hk h.size) (fun e => by rcases hf k e.symm with h3 | h3; exact hne h3.symm; omega)]
 exact h.block k hk hne
theorem cPt_set_right (l : List Pt) (k : Nat) (h : k < l.length) (x : Int) : (cPt l).set (k * 5 + 4) (.int .i64 x) = cPt (l.set k { l[k] with right := x }) := by
 rw [← cPt_set]
 obtain ⟨h0, h1, h2, h3, h4⟩ := cPt_at l k h
 have g : ∀ (xs : List Value) (i : Nat) (u : Value), xs[i]? = some u → xs.set i u = xs := fun xs i u hu => by
  apply List.ext_getElem?
  intro j
  rw [List.getElem?_set]
  by_cases e : i = j
  ·subst e; rw [if_pos rfl, if_pos (List.getElem?_eq_some_iff.1 hu).1, hu]
  ·rw [if_neg e]
 rw [g _ _ _ h0, g _ _ _ h1, g _ _ _ h2, g _ _ _ h3]
theorem grown_app {w wr w2 : World} {o : Obj} {r r2 : Option Nat} (h : w.grownBy wr r) (h2 : (wr.alloc o).grownBy w2 r2) (hk : ∀ k, r2 = some k → r = some k ∨ w.heap.size ≤ k) : w.grownBy w2 r := by
 have hz := h.size
 have hz2 := h2.size
 simp at hz2
 refine ⟨h2.os.trans h.os, h2.tape.trans h.tape, h2.output.trans h.output, by omega, fun k hk1 hne => ?_⟩
 rw [h2.block k (by simp; omega) (fun e => by rcases hk k e.symm with h3 | h3; exact hne h3.symm; omega), Below.heap_alloc _ _ _ (by omega)]
 exact h.block k hk1 hne
theorem grown_below {w w' : World} {r : Option Nat} (h : Below w.heap.size w w') : w.grownBy w' r := ⟨h.os, h.tape, h.output, h.size, fun k hk _ => h.block k hk⟩
def pnB (n : Int) : Bool := decide (1 ≤ n ∧ n ≤ 1000)
end Go.Proofs.YtgnecacoehedkaaDoor
