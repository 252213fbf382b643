/- Panes moved and killed in trees; a split of a tree in memory, turned. Plain mathematics, and trees in memory. -/
import Derived.Test.YtgnlgiihmgfghaaZG11
namespace Go.Proofs.Ytgnlgiihmgfghaa
open Go.ChangeShapes Go.WideShapes Go.ChangeAt Go.RowKit
def Tr.is : Tr → Int → Bool
 | ⟨.inl m⟩, n => m == n
 | ⟨.inr (_, _, _, _)⟩, _ => false
def Tr.mv : Tr → Int → Int → Tr
 | ⟨.inl m⟩, _, _ => .pane m
 | ⟨.inr (r, s, l, t)⟩, n, d => if l.is n || t.is n then .split r (s + d) l t else if n ∈ l.panes then .split r s (l.mv n d) t else .split r s l (t.mv n d)
def Tr.kl : Tr → Int → Tr
 | ⟨.inl m⟩, _ => .pane m
 | ⟨.inr (r, s, l, t)⟩, n => if l.is n then t else if t.is n then l else .split r s (l.kl n) (t.kl n)
def Tr.szok : Tr → Prop
 | ⟨.inl _⟩ => True
 | ⟨.inr (_, s, l, t)⟩ => (0 ≤ s ∧ s ≤ 1000) ∧ l.szok ∧ t.szok
def spC (t : Tr) (n : Int) : Int := if t.is n then 17 else if n ∈ t.panes then 0 else 5
theorem is_panes {t : Tr} {n : Int} (h : t.is n = true) : t = .pane n := by
 cases t using Tr.ind with
 | pane m => simp [Tr.is] at h; rw [h]
 | split r s l t _ _ => simp [Tr.is] at h
theorem is_mem {t : Tr} {n : Int} (h : t.is n = true) : n ∈ t.panes := by rw [is_panes h]; simp [Tr.panes]
theorem pane_is {m n : Int} (h : n ∈ (Tr.pane m).panes) : (Tr.pane m).is n = true := by simp [Tr.panes] at h; simp [Tr.is, h]
theorem fits_szok : ∀ (t : Tr) (W H : Int), W ≤ 1000 → H ≤ 1000 → t.fits W H = true → t.szok := by
 intro t
 induction t using Tr.ind with
 | pane n => intro W H _ _ _; trivial
 | split r s l t ihl ihr =>
  intro W H hW hH e
  rw [Tr.fits] at e
  cases r
  ·simp only [Bool.false_eq_true, if_false, Bool.and_eq_true] at e
   have h1 := fits_two _ _ _ e.1
   have h2 := fits_two _ _ _ e.2
   exact ⟨by omega, ihl _ _ (by omega) hH e.1, ihr _ _ (by omega) hH e.2⟩
  ·simp only [if_true, Bool.and_eq_true] at e
   have h1 := fits_two _ _ _ e.1
   have h2 := fits_two _ _ _ e.2
   exact ⟨by omega, ihl _ _ hW (by omega) e.1, ihr _ _ hW (by omega) e.2⟩
theorem mv_cnt : ∀ (t : Tr) (n d : Int), (t.mv n d).cnt = t.cnt := by
 intro t
 induction t using Tr.ind with
 | pane m => intro n d; rfl
 | split r s l t ihl ihr => intro n d; rw [Tr.mv]; split; rfl; split <;> simp only [Tr.cnt, ihl, ihr]
theorem mv_least : ∀ (t : Tr) (n d : Int), (t.mv n d).lw = t.lw ∧ (t.mv n d).lh = t.lh := by
 intro t
 induction t using Tr.ind with
 | pane m => intro n d; exact ⟨rfl, rfl⟩
 | split r s l t ihl ihr =>
  intro n d
  rw [Tr.mv]
  split
  ·exact ⟨rfl, rfl⟩
  ·split
   ·simp only [Tr.lw, Tr.lh, (ihl n d).1, (ihl n d).2, and_self]
   ·simp only [Tr.lw, Tr.lh, (ihr n d).1, (ihr n d).2, and_self]
theorem kl_cnt : ∀ (t : Tr) (n : Int), (t.kl n).cnt ≤ t.cnt := by
 intro t
 induction t using Tr.ind with
 | pane m => intro n; exact Nat.le_refl _
 | split r s l t ihl ihr =>
  intro n
  rw [Tr.kl]
  split
  ·simp only [Tr.cnt]; omega
  ·split
   ·simp only [Tr.cnt]; omega
   ·have := ihl n; have := ihr n; simp only [Tr.cnt]; omega
theorem kl_least : ∀ (t : Tr) (n : Int), (t.kl n).lw ≤ t.lw ∧ (t.kl n).lh ≤ t.lh := by
 intro t
 induction t using Tr.ind with
 | pane m => intro n; exact ⟨Int.le_refl _, Int.le_refl _⟩
 | split r s l t ihl ihr =>
  intro n
  have h1 := le_mx l.lw t.lw
  have h2 := le_mx l.lh t.lh
  have b1 := least_bd l
  have b2 := least_bd t
  rw [Tr.kl]
  split
  ·cases r <;> simp only [Tr.lw, Tr.lh, Bool.false_eq_true, if_false, if_true] <;> omega
  ·split
   ·cases r <;> simp only [Tr.lw, Tr.lh, Bool.false_eq_true, if_false, if_true] <;> omega
   ·have i1 := ihl n
    have i2 := ihr n
    have m1 : mx (l.kl n).lw (t.kl n).lw ≤ mx l.lw t.lw := mx_le.2 ⟨by omega, by omega⟩
    have m2 : mx (l.kl n).lh (t.kl n).lh ≤ mx l.lh t.lh := mx_le.2 ⟨by omega, by omega⟩
    cases r <;> simp only [Tr.lw, Tr.lh, Bool.false_eq_true, if_false, if_true] <;> omega
theorem fits_least : ∀ (t : Tr) (W H : Int), t.fits W H = true → t.lw ≤ W ∧ t.lh ≤ H := by
 intro t
 induction t using Tr.ind with
 | pane n => intro W H e; exact fits_two _ _ _ e
 | split r s l t ihl ihr =>
  intro W H e
  rw [Tr.fits] at e
  cases r
  ·simp only [Bool.false_eq_true, if_false, Bool.and_eq_true] at e
   have h1 := ihl _ _ e.1
   have h2 := ihr _ _ e.2
   have : mx l.lh t.lh ≤ H := mx_le.2 ⟨h1.2, h2.2⟩
   simp only [Tr.lw, Tr.lh, Bool.false_eq_true, if_false]; omega
  ·simp only [if_true, Bool.and_eq_true] at e
   have h1 := ihl _ _ e.1
   have h2 := ihr _ _ e.2
   have : mx l.lw t.lw ≤ W := mx_le.2 ⟨h1.1, h2.1⟩
   simp only [Tr.lw, Tr.lh, if_true]; omega
/-- The split at sb that the pane n is a part of may be given another size. -/
def MoveOK (X : Bx) (w : World) (t : Tr) (b : Nat) (bs : List Nat) (n : Int) (sb : Nat) : Prop :=
 ∃ r s bl br, BF sb (X.node r s bl br) w ∧ sb ∈ bs ∧ (0 ≤ s ∧ s ≤ 1000) ∧ ∀ d w', Turned w w' [sb] → BF sb (X.node r (s + d) bl br) w' → TreeAt X w' (t.mv n d) b bs
def Shp (X : Bx) (cs : Array Value) : Prop := (∃ m, cs = X.leaf m) ∨ ∃ r s bl br, cs = X.node r s bl br
/-- The other part, at ob, may be laid over the split at sb that the pane n is a part of. -/
def KillOK (X : Bx) (w : World) (t : Tr) (b : Nat) (bs : List Nat) (n : Int) (sb ob : Nat) : Prop :=
 ∃ cs, Shp X cs ∧ BF ob cs w ∧ sb ∈ bs ∧ (∃ cs0, Shp X cs0 ∧ BF sb cs0 w) ∧ ∀ w', Turned w w' [sb] → BF sb cs w' → ∃ bs', TreeAt X w' (t.kl n) b bs' ∧ (∀ k ∈ bs', k ∈ bs) ∧ bs'.Nodup
section
variable {X : Bx} {w : World} {r : Bool} {s : Int} {l t : Tr} {b bl br : Nat} {Ls Rs : List Nat} {n : Int}
end
end Go.Proofs.Ytgnlgiihmgfghaa
