/- Texts put together: Bf SrcN PartL. -/
import Derived.Test.YtgnecacoehedkaaDoorZG3
import Derived.Lib.SmallJoins
/- A block that stands, and what is stored into it. -/
namespace Go.Proofs.YtgnecacoehedkaaDoor
open Go.ChangeShapes Go.WideShapes Go.ChangeAt Go.RowKit
/-- A block that stands and may be written. -/
structure BF (n : Nat) (cs : Array Value) (wA : World) : Prop where
 S : ∀ o, wA.cell? ⟨n, o, none⟩ = cs[o]?
 F : ∀ o, wA.frozen? ⟨n, o, none⟩ = false
 lt : n < wA.heap.size
theorem BF.keep {n : Nat} {cs : Array Value} {wA w' : World} (h : BF n cs wA) (hs : wA.heap.size ≤ w'.heap.size) (hb : w'.heap[n]? = wA.heap[n]?) : BF n cs w' :=
 ⟨fun o => (World.cell?_of_block hb).trans (h.S o), fun o => (World.frozen?_of_block hb).trans (h.F o), Nat.lt_of_lt_of_le h.lt hs⟩
theorem BF.below {n : Nat} {cs : Array Value} {wA w' : World} (h : BF n cs wA) (hb : Below wA.heap.size wA w') : BF n cs w' := h.keep hb.size (hb.block n h.lt)
theorem BF.alloc {n : Nat} {cs : Array Value} {wA : World} (h : BF n cs wA) (o : Obj) : BF n cs (wA.alloc o) := h.below ((Below.refl _ _).alloc (Nat.le_refl _) o)
theorem BF.grown {n : Nat} {cs : Array Value} {wA w' : World} {row : Option Nat} (h : BF n cs wA) (hg : wA.grownBy w' row) (hne : row ≠ some n) : BF n cs w' := h.keep hg.size (hg.block n h.lt (fun e => hne e.symm))
theorem BF.new (wA : World) (cs : Array Value) (t : TypeId) : BF wA.heap.size cs (wA.alloc (.cells cs t)) := ⟨fun o => World.cell?_alloc_mark wA _ _ _ o, fun o => by simp [go_sem], by simp⟩
theorem BF.set {n : Nat} {cs : Array Value} {wA : World} (h : BF n cs wA) (o : Nat) (ho : o < cs.size) (v : Value) : BF n (cs.setIfInBounds o v) (wA.setCell ⟨n, o, none⟩ v) := by
 refine ⟨fun k => ?_, fun k => by rw [World.frozen?_setCell]; exact h.F k, by simpa using h.lt⟩
 by_cases e : k = o
 ·subst e
  have h1 : wA.cell? ⟨n, k, none⟩ = some cs[k] := by rw [h.S k]; exact Array.getElem?_eq_getElem ho
  rw [World.cell?_setCell_same _ _ _ h1, Array.getElem?_setIfInBounds_self_of_lt ho]
 ·rw [World.cell?_setCell_other _ _ _ _ (by intro h2; injection h2 with _ h3; exact e h3.symm), h.S k, Array.getElem?_setIfInBounds_ne (Ne.symm e)]
theorem BF.far {n : Nat} {cs : Array Value} {wA : World} (h : BF n cs wA) (a : Addr) (v : Value) (hne : a.block ≠ n) : BF n cs (wA.setCell a v) :=
 ⟨fun k => by rw [World.cell?_setCell_other _ _ _ _ (by intro h2; rw [h2] at hne; exact hne rfl)]; exact h.S k, fun k => by rw [World.frozen?_setCell]; exact h.F k, by simpa using h.lt⟩
theorem BF.drew {n : Nat} {cs : Array Value} {wA : World} (h : BF n cs wA) : BF n cs wA.drew := h.below (Below.refl _ _).drew
end Go.Proofs.YtgnecacoehedkaaDoor

/- A source's next number as an integer. -/
namespace Go.Proofs.YtgnecacoehedkaaDoor
open Go.ChangeShapes Go.WideShapes Go.ChangeAt Go.RowKit
set_option linter.unusedVariables false
theorem snextI (n : Nat) (g : Nat) (a : Option Addr) (cap : Nat) (l : List UInt8) (p s : Nat) (hn : 2 ≤ n) (hn2 : n ≤ 256) (hl : l.length ≤ 1048600) (hp : p ≤ 2000000) (hs : s < 2147483648) (w : World) (h : SrcAt w g a cap l p s) (hr : Row8 w a l) (hg : ApartOf a l g) :
  Calls Tryd.prog 29 #[.pointer (some ⟨g, 0, none⟩), .int .i64 (n : Int)] w fun e w' => ∃ (x : Int) (s' : Nat), e = .returned (.int .i64 x) ∧ (0 ≤ x ∧ x < n) ∧ s' < 2147483648 ∧ SrcAt w' g a cap l (p + 1) s' ∧ w.grownBy w' (some g) := by
 refine (snext n g a cap l p s hn hn2 hl hp hs w h hr hg).mono ?_
 rintro e w' ⟨x, s', rfl, hx, h1, h2, h3⟩
 exact ⟨x, s', rfl, ⟨by omega, by omega⟩, h1, h2, h3⟩
theorem grown_set {w c : World} {g B : Nat} (h : w.grownBy c (some g)) (hB : w.heap.size ≤ B) (o : Nat) (v : Value) : w.grownBy (c.setCell ⟨B, o, none⟩ v) (some g) :=
 ⟨h.os, h.tape, h.output, by rw [World.size_setCell]; exact h.size, fun k hk hne => (Below.heap_setCell _ _ _ k (by show k ≠ B; omega)).trans (h.block k hk hne)⟩
set_option maxRecDepth 100000 in
theorem schance (n g : Nat) (a : Option Addr) (cap : Nat) (l : List UInt8) (p s : Nat) (hn : 2 ≤ n) (hn2 : n ≤ 256) (hl : l.length ≤ 1048600) (hp : p ≤ 2000000) (hs : s < 2147483648) (w : World) (h : SrcAt w g a cap l p s) (hr : Row8 w a l) (hg : ApartOf a l g) :
  Calls Tryd.prog 32 #[.pointer (some ⟨g, 0, none⟩), .int .i64 (n : Int)] w fun e w' => ∃ (x : Bool) (s' : Nat), e = .returned (.bool x) ∧ s' < 2147483648 ∧ SrcAt w' g a cap l (p + 1) s' ∧ w.grownBy w' (some g) := by
 have HH := hide (snext n g a cap l p s hn hn2 hl hp hs w h hr hg)
 clear h hr hg hs
 go_enter Tryd.func32, Tryd.ntmps32
 go_wp2_with fail
 refine (unhide HH).mono ?_
 rintro e w2 ⟨x, s', rfl, hx, hs', hA, hG⟩
 have HA := hide hA
 have HG := hide hG
 have HS := hide hs'
 clear hA hG hs' HH
 go_wp2_with fail
 go_ret
 exact ⟨_, s', rfl, unhide HS, unhide HA, unhide HG⟩
end Go.Proofs.YtgnecacoehedkaaDoor

/- Rows of Pt (structs of 5 cells): the laws' own helpers over them. -/
namespace Go.Proofs.YtgnecacoehedkaaDoor
open Go.ChangeShapes Go.WideShapes Go.ChangeAt Go.RowKit
structure Pt where
 pane : Int
 rows : Bool
 size : Int
 left : Int
 right : Int
def cPt1 (p : Pt) : List Value := [.int .i64 p.pane, .bool p.rows, .int .i64 p.size, .int .i64 p.left, .int .i64 p.right]
def cPt (l : List Pt) : List Value := l.flatMap cPt1
theorem cPt_cons (p : Pt) (l : List Pt) : cPt (p :: l) = .int .i64 p.pane :: .bool p.rows :: .int .i64 p.size :: .int .i64 p.left :: .int .i64 p.right :: cPt l := rfl
theorem cPt_len (l : List Pt) : (cPt l).length = l.length * 5 := by
 induction l with
 | nil => rfl
 | cons c l ih => rw [cPt_cons]; simp [ih]; omega
theorem cPt_app (l m : List Pt) : cPt (l ++ m) = cPt l ++ cPt m := by simp [cPt]
theorem cPt_one (l : List Pt) : ∀ u ∈ cPt l, u.oneCell' = true := by
 intro u hu
 simp only [cPt, List.mem_flatMap] at hu
 obtain ⟨p, -, hu⟩ := hu
 simp only [cPt1, List.mem_cons, List.not_mem_nil, or_false] at hu
 rcases hu with rfl | rfl | rfl | rfl | rfl <;> rfl
theorem cPt_at (l : List Pt) : ∀ (k : Nat) (h : k < l.length), (cPt l)[k * 5]? = some (.int .i64 l[k].pane) ∧ (cPt l)[k * 5 + 1]? = some (.bool l[k].rows) ∧ (cPt l)[k * 5 + 2]? = some (.int .i64 l[k].size) ∧ (cPt l)[k * 5 + 3]? = some (.int .i64 l[k].left) ∧ (cPt l)[k * 5 + 4]? = some (.int .i64 l[k].right) := by
 induction l with
 | nil => intro k h; simp at h
 | cons c l ih =>
  intro k h
  cases k with
  | zero => exact ⟨rfl, rfl, rfl, rfl, rfl⟩
  | succ k =>
   have := ih k (by simpa using h)
   rw [cPt_cons, show (k + 1) * 5 = k * 5 + 1 + 1 + 1 + 1 + 1 from by omega]
   simpa using this
theorem rowPt {w : World} {b off : Nat} {l : List Pt} (hc : ∀ i u, (cPt l)[i]? = some u → w.cell? ⟨b, off + i, none⟩ = some u) (k : Nat) (h : k < l.length) :
  w.cell? ⟨b, off + k * 5, none⟩ = some (.int .i64 l[k].pane) ∧ w.cell? ⟨b, off + k * 5 + 1, none⟩ = some (.bool l[k].rows) ∧ w.cell? ⟨b, off + k * 5 + 2, none⟩ = some (.int .i64 l[k].size) ∧ w.cell? ⟨b, off + k * 5 + 3, none⟩ = some (.int .i64 l[k].left) ∧ w.cell? ⟨b, off + k * 5 + 4, none⟩ = some (.int .i64 l[k].right) := by
 obtain ⟨h0, h1, h2, h3, h4⟩ := cPt_at l k h
 exact ⟨hc _ _ h0, hc _ _ h1, hc _ _ h2, hc _ _ h3, hc _ _ h4⟩
theorem Tryd.infL53 : (Tryd.prog.info? 53).map (fun i => (i.zero, i.size, i.bytes)) = some (some (.agg #[.int .i64 0, .bool false, .int .i64 0, .int .i64 0, .int .i64 0]), 5, 40) := by kernel_rfl

/-- A made row of zeros whose first k elements have been filled from l. -/
def fillPt (l : List Pt) (k : Nat) : List Pt := l.take k ++ List.replicate (l.length - k) ⟨0, false, 0, 0, 0⟩
theorem cPt_set (l : List Pt) : ∀ (k : Nat) (q : Pt), (((((cPt l).set (k * 5) (.int .i64 q.pane)).set (k * 5 + 1) (.bool q.rows)).set (k * 5 + 2) (.int .i64 q.size)).set (k * 5 + 3) (.int .i64 q.left)).set (k * 5 + 4) (.int .i64 q.right) = cPt (l.set k q) := by
 induction l with
 | nil => intro k q; simp [cPt]
 | cons c l ih =>
  intro k q
  cases k with
  | zero => rfl
  | succ k =>
   have := ih k q
   rw [List.set_cons_succ, cPt_cons, cPt_cons, show (k + 1) * 5 = k * 5 + 1 + 1 + 1 + 1 + 1 from by omega]
   simp only [List.set_cons_succ, Nat.add_assoc] at this ⊢
   rw [← this]

end Go.Proofs.YtgnecacoehedkaaDoor
