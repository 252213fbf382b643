/- Texts put together: MinM FitM. -/
import Derived.Test.YtgnlgiihmgfghaaZBase
import Derived.Test.YtgnlgiihmgfghaaZPrsM
/- The lesser and the greater of two numbers. -/
namespace Go.Proofs.Ytgnlgiihmgfghaa
open Go.ChangeShapes Go.WideShapes Go.ChangeAt Go.RowKit
/-- The lesser of two numbers. -/
def mn (x y : Int) : Int := if y < x then y else x
theorem run_mn {P : Program} {w : World} (ts : Array TypeId) (t : TypeId) (k k' : IntKind) (x y : Int) : (Builtin.min_ ts t #[.int k x, .int k' y]).run P w = .ok (.int k (mn x y)) w := by
 simp [Builtin.min_, Builtin.min2, mn]
/-- The greater of two numbers. -/
def mx (x y : Int) : Int := if x < y then y else x
theorem run_mx {P : Program} {w : World} (ts : Array TypeId) (t : TypeId) (k k' : IntKind) (x y : Int) : (Builtin.max_ ts t #[.int k x, .int k' y]).run P w = .ok (.int k (mx x y)) w := by
 simp [Builtin.max_, Builtin.max2, mx]
end Go.Proofs.Ytgnlgiihmgfghaa

/- What a tree needs, and how it is fitted. Plain mathematics. -/
namespace Go.Proofs.Ytgnlgiihmgfghaa
open Go.ChangeShapes Go.WideShapes Go.ChangeAt Go.RowKit
def Tr.lw : Tr → Int
 | ⟨.inl _⟩ => 2
 | ⟨.inr (r, _, l, t)⟩ => if r then mx l.lw t.lw else l.lw + t.lw
def Tr.lh : Tr → Int
 | ⟨.inl _⟩ => 2
 | ⟨.inr (r, _, l, t)⟩ => if r then l.lh + t.lh else mx l.lh t.lh
theorem mx_le {x y z : Int} : mx x y ≤ z ↔ x ≤ z ∧ y ≤ z := by unfold mx; split <;> omega
theorem le_mx (x y : Int) : x ≤ mx x y ∧ y ≤ mx x y := by unfold mx; split <;> omega
theorem least_bd : ∀ t : Tr, 2 ≤ t.lw ∧ t.lw ≤ 2 * t.cnt ∧ 2 ≤ t.lh ∧ t.lh ≤ 2 * t.cnt := by
 intro t
 induction t using Tr.ind with
 | pane n => simp [Tr.lw, Tr.lh, Tr.cnt]
 | split r s l t ihl ihr =>
  have h1 := le_mx l.lw t.lw
  have h2 := le_mx l.lh t.lh
  have h3 : mx l.lw t.lw ≤ 2 * (l.cnt + t.cnt) := mx_le.2 ⟨by omega, by omega⟩
  have h4 : mx l.lh t.lh ≤ 2 * (l.cnt + t.cnt) := mx_le.2 ⟨by omega, by omega⟩
  cases r <;> simp only [Tr.lw, Tr.lh, Tr.cnt, Bool.false_eq_true, if_false, if_true] <;> omega
/-- The nearest size that leaves both parts what they need. -/
def ftS (s a z : Int) : Int := mn (mx s a) z
theorem ftS_bd {s a z : Int} (h : a ≤ z) : a ≤ ftS s a z ∧ ftS s a z ≤ z := by unfold ftS mn; have := (le_mx s a).2; split <;> omega
def Tr.fit : Tr → Int → Int → Tr
 | ⟨.inl n⟩, _, _ => .pane n
 | ⟨.inr (r, s, l, t)⟩, W, H => if r then .split r (ftS s l.lh (H - t.lh)) (l.fit W (ftS s l.lh (H - t.lh))) (t.fit W (H - ftS s l.lh (H - t.lh))) else .split r (ftS s l.lw (W - t.lw)) (l.fit (ftS s l.lw (W - t.lw)) H) (t.fit (W - ftS s l.lw (W - t.lw)) H)
theorem fit_cnt : ∀ (t : Tr) (W H : Int), (t.fit W H).cnt = t.cnt := by
 intro t
 induction t using Tr.ind with
 | pane n => intro W H; rfl
 | split r s l t ihl ihr => intro W H; cases r <;> simp only [Tr.fit, Tr.cnt, Bool.false_eq_true, if_false, if_true, ihl, ihr]
/-- Nothing turned but the blocks bs, and what is new. -/
structure Turned (w w' : World) (bs : List Nat) : Prop where
 os : w'.os = w.os
 tape : w'.tape = w.tape
 output : w'.output = w.output
 size : w.heap.size ≤ w'.heap.size
 block : ∀ k, k < w.heap.size → k ∉ bs → w'.heap[k]? = w.heap[k]?
theorem Turned.refl (w : World) (bs : List Nat) : Turned w w bs := ⟨rfl, rfl, rfl, Nat.le_refl _, fun _ _ _ => rfl⟩
theorem Turned.of_below {w w' : World} (h : Below w.heap.size w w') (bs : List Nat) : Turned w w' bs := ⟨h.os, h.tape, h.output, h.size, fun k hk _ => h.block k hk⟩
theorem Turned.trans {w w' w'' : World} {bs : List Nat} (h : Turned w w' bs) (h2 : Turned w' w'' bs) : Turned w w'' bs :=
 ⟨h2.os.trans h.os, h2.tape.trans h.tape, h2.output.trans h.output, Nat.le_trans h.size h2.size, fun k hk hn => (h2.block k (Nat.lt_of_lt_of_le hk h.size) hn).trans (h.block k hk hn)⟩
theorem Turned.more {w w' : World} {bs cs : List Nat} (h : Turned w w' bs) (hs : ∀ k ∈ bs, k ∈ cs) : Turned w w' cs := ⟨h.os, h.tape, h.output, h.size, fun k hk hn => h.block k hk (fun h2 => hn (hs k h2))⟩
theorem Turned.set {w : World} {bs : List Nat} {k o : Nat} {v : Value} (h : k ∈ bs) : Turned w (w.setCell ⟨k, o, none⟩ v) bs := by
 refine ⟨rfl, rfl, rfl, by simp, fun j _ hj => ?_⟩
 have hk' : k ≠ j := fun e => hj (e ▸ h)
 simp [World.setCell, Array.getElem?_modify, hk']
theorem Turned.below {w w' : World} {bs : List Nat} {B : Nat} (h : Turned w w' bs) (hB : ∀ k ∈ bs, B ≤ k) (hs : B ≤ w.heap.size) : Below B w w' := ⟨h.os, h.tape, h.output, h.size, fun k hk => h.block k (by omega) (fun h2 => by have := hB k h2; omega)⟩
theorem Turned.drew {w w' : World} {bs : List Nat} (h : Turned w w' bs) : Turned w w'.drew bs := ⟨h.os, h.tape, h.output, h.size, h.block⟩
theorem TreeAt.turned {X : Bx} {w w' : World} {t : Tr} {b : Nat} {bs cs : List Nat} (h : TreeAt X w t b bs) (ht : Turned w w' cs) (hd : ∀ k ∈ bs, k ∉ cs) : TreeAt X w' t b bs := h.keep ht.size (fun k hk => ht.block k (h.lt k hk) (hd k hk))
theorem BF.turned {n : Nat} {cs : Array Value} {w w' : World} {bs : List Nat} (h : BF n cs w) (ht : Turned w w' bs) (hd : n ∉ bs) : BF n cs w' := h.keep ht.size (ht.block n h.lt hd)
end Go.Proofs.Ytgnlgiihmgfghaa
