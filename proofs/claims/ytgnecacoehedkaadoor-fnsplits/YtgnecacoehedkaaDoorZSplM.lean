/- A pane's place split in two. Plain mathematics, and trees in memory. -/
import Derived.Test.YtgnecacoehedkaaDoorZSpM
import Derived.Test.YtgnecacoehedkaaDoorZAtJ
namespace Go.Proofs.YtgnecacoehedkaaDoor
open Go.ChangeShapes Go.WideShapes Go.ChangeAt Go.RowKit
def Tr.spl : Tr → Int → Bool → Int → Int → Tr
 | ⟨.inl m⟩, n, r, s, f => if m = n then .split r s (.pane n) (.pane f) else .pane m
 | ⟨.inr (r0, s0, l, t)⟩, n, r, s, f => .split r0 s0 (l.spl n r s f) (t.spl n r s f)
/-- The columns (rows, if r) of the place of the pane n. -/
def Tr.sid : Tr → Int → Bool → Int → Int → Int
 | ⟨.inl _⟩, _, r, W, H => if r then H else W
 | ⟨.inr (r0, s, l, t)⟩, n, r, W, H => if n ∈ l.panes then (if r0 then l.sid n r W s else l.sid n r s H) else (if r0 then t.sid n r W (H - s) else t.sid n r (W - s) H)
theorem spl_id : ∀ (t : Tr) (n : Int) (r : Bool) (s f : Int), n ∉ t.panes → t.spl n r s f = t := by
 intro t
 induction t using Tr.ind with
 | pane m => intro n r s f h; simp only [Tr.panes, List.mem_singleton] at h; rw [Tr.spl, if_neg (fun e => h e.symm)]
 | split r0 s0 l t ihl ihr =>
  intro n r s f h
  simp only [Tr.panes, List.mem_append, not_or] at h
  rw [Tr.spl, ihl n r s f h.1, ihr n r s f h.2]
theorem cnt_panes : ∀ t : Tr, t.cnt + 1 = 2 * t.panes.length := by
 intro t
 induction t using Tr.ind with
 | pane m => rfl
 | split r s l t ihl ihr => simp only [Tr.cnt, Tr.panes, List.length_append]; omega
theorem spl_mem : ∀ (t : Tr) (n : Int) (r : Bool) (s f m : Int), m ∈ (t.spl n r s f).panes ↔ m ∈ t.panes ∨ (m = f ∧ n ∈ t.panes) := by
 intro t
 induction t using Tr.ind with
 | pane k =>
  intro n r s f m
  rw [Tr.spl]
  split
  ·rename_i e; subst e; simp [Tr.panes]
  ·rename_i e
   simp only [Tr.panes, List.mem_singleton]
   constructor
   ·exact .inl
   ·rintro (h | ⟨_, h⟩)
    ·exact h
    ·exact absurd h.symm e
 | split r0 s0 l t ihl ihr =>
  intro n r s f m
  simp only [Tr.spl, Tr.panes, List.mem_append, ihl n r s f m, ihr n r s f m]
  constructor
  ·rintro ((h | h) | (h | h))
   ·exact .inl (.inl h)
   ·exact .inr ⟨h.1, .inl h.2⟩
   ·exact .inl (.inr h)
   ·exact .inr ⟨h.1, .inr h.2⟩
  ·rintro ((h | h) | ⟨h, h2 | h2⟩)
   ·exact .inl (.inl h)
   ·exact .inr (.inl h)
   ·exact .inl (.inr ⟨h, h2⟩)
   ·exact .inr (.inr ⟨h, h2⟩)
theorem spl_nodup : ∀ (t : Tr) (n : Int) (r : Bool) (s f : Int), t.panes.Nodup → f ∉ t.panes → (t.spl n r s f).panes.Nodup := by
 intro t
 induction t using Tr.ind with
 | pane k =>
  intro n r s f _ hf
  rw [Tr.spl]
  split
  ·rename_i e
   subst e
   simp only [Tr.panes, List.mem_singleton] at hf
   simp only [Tr.panes, List.singleton_append, List.nodup_cons, List.mem_singleton, List.not_mem_nil, not_false_eq_true, List.nodup_nil, and_self, and_true]
   exact fun e => hf e.symm
  ·simp [Tr.panes]
 | split r0 s0 l t ihl ihr =>
  intro n r s f hn hf
  simp only [Tr.panes, List.nodup_append, List.mem_append, not_or] at hn hf
  simp only [Tr.spl, Tr.panes, List.nodup_append]
  refine ⟨ihl n r s f hn.1 hf.1, ihr n r s f hn.2.1 hf.2, fun x hx y hy e => ?_⟩
  subst e
  rw [spl_mem] at hx hy
  rcases hx with h1 | ⟨h1, h1'⟩ <;> rcases hy with h2 | ⟨h2, h2'⟩
  ·exact hn.2.2 x h1 x h2 rfl
  ·subst h2; exact hf.1 h1
  ·subst h1; exact hf.2 h2
  ·exact hn.2.2 n h1' n h2' rfl
theorem spl_good : ∀ (t : Tr) (n : Int) (r : Bool) (s f : Int), t.good → pnB f = true → (t.spl n r s f).good := by
 intro t
 induction t using Tr.ind with
 | pane k =>
  intro n r s f hg hf
  rw [Tr.spl]
  split
  ·rename_i e; subst e; exact ⟨hg, hf⟩
  ·exact hg
 | split r0 s0 l t ihl ihr => intro n r s f hg hf; exact ⟨ihl n r s f hg.1 hf, ihr n r s f hg.2 hf⟩
theorem spl_cnt : ∀ (t : Tr) (n : Int) (r : Bool) (s f : Int), t.panes.Nodup → n ∈ t.panes → (t.spl n r s f).cnt = t.cnt + 2 := by
 intro t
 induction t using Tr.ind with
 | pane k => intro n r s f _ h; simp only [Tr.panes, List.mem_singleton] at h; rw [Tr.spl, if_pos h.symm]; rfl
 | split r0 s0 l t ihl ihr =>
  intro n r s f hn h
  simp only [Tr.panes, List.nodup_append, List.mem_append] at hn h
  rcases h with h | h
  ·rw [Tr.spl, spl_id t n r s f (fun h2 => hn.2.2 n h n h2 rfl)]
   simp only [Tr.cnt, ihl n r s f hn.1 h]; omega
  ·rw [Tr.spl, spl_id l n r s f (fun h2 => hn.2.2 n h2 n h rfl)]
   simp only [Tr.cnt, ihr n r s f hn.2.1 h]; omega
theorem sid_bd : ∀ (t : Tr) (n : Int) (r : Bool) (W H : Int), t.fits W H = true → W ≤ 1000 → H ≤ 1000 → 2 ≤ t.sid n r W H ∧ t.sid n r W H ≤ 1000 := by
 intro t
 induction t using Tr.ind with
 | pane k =>
  intro n r W H hf hW hH
  have := fits_two _ _ _ hf
  rw [Tr.sid]; split <;> omega
 | split r0 s l t ihl ihr =>
  intro n r W H hf hW hH
  rw [Tr.fits] at hf
  rw [Tr.sid]
  cases r0
  ·simp only [Bool.false_eq_true, if_false, Bool.and_eq_true] at hf ⊢
   have h1 := fits_two _ _ _ hf.1
   have h2 := fits_two _ _ _ hf.2
   split
   ·exact ihl n r _ _ hf.1 (by omega) hH
   ·exact ihr n r _ _ hf.2 (by omega) hH
  ·simp only [if_true, Bool.and_eq_true] at hf ⊢
   have h1 := fits_two _ _ _ hf.1
   have h2 := fits_two _ _ _ hf.2
   split
   ·exact ihl n r _ _ hf.1 hW (by omega)
   ·exact ihr n r _ _ hf.2 hW (by omega)
theorem spl_fits : ∀ (t : Tr) (n : Int) (r : Bool) (f W H : Int), t.fits W H = true → t.panes.Nodup → n ∈ t.panes → (t.spl n r (t.sid n r W H / 2) f).fits W H = decide (2 ≤ t.sid n r W H / 2) := by
 intro t
 induction t using Tr.ind with
 | pane k =>
  intro n r f W H hf _ h
  simp only [Tr.panes, List.mem_singleton] at h
  have h2 := fits_two _ _ _ hf
  rw [Tr.spl, if_pos h.symm, Tr.sid, Tr.fits]
  cases r
  ·simp only [Bool.false_eq_true, if_false, Tr.fits]
   by_cases e : 2 ≤ W / 2
   ·rw [decide_eq_true e, decide_eq_true (by omega), decide_eq_true (by omega)]; rfl
   ·rw [decide_eq_false e, decide_eq_false (by omega)]; rfl
  ·simp only [if_true, Tr.fits]
   by_cases e : 2 ≤ H / 2
   ·rw [decide_eq_true e, decide_eq_true (by omega), decide_eq_true (by omega)]; rfl
   ·rw [decide_eq_false e, decide_eq_false (by omega)]; rfl
 | split r0 s l t ihl ihr =>
  intro n r f W H hf hn h
  simp only [Tr.panes, List.nodup_append, List.mem_append] at hn h
  rw [Tr.fits] at hf
  by_cases hm : n ∈ l.panes
  ·rw [Tr.spl, spl_id t n _ _ f (fun h2 => hn.2.2 n hm n h2 rfl), Tr.sid, if_pos hm, Tr.fits]
   cases r0
   ·simp only [Bool.false_eq_true, if_false, Bool.and_eq_true] at hf ⊢
    rw [ihl n r f s H hf.1 hn.1 hm, hf.2, Bool.and_true]
   ·simp only [if_true, Bool.and_eq_true] at hf ⊢
    rw [ihl n r f W s hf.1 hn.1 hm, hf.2, Bool.and_true]
  ·have hm2 : n ∈ t.panes := h.resolve_left hm
   rw [Tr.spl, spl_id l n _ _ f hm, Tr.sid, if_neg hm, Tr.fits]
   cases r0
   ·simp only [Bool.false_eq_true, if_false, Bool.and_eq_true] at hf ⊢
    rw [ihr n r f (W - s) H hf.2 hn.2.1 hm2, hf.1, Bool.true_and]
   ·simp only [if_true, Bool.and_eq_true] at hf ⊢
    rw [ihr n r f W (H - s) hf.2 hn.2.1 hm2, hf.1, Bool.true_and]
theorem prs_flat : ∀ (t : Tr) (f : Nat) (l : List Pt) (k : Nat) (rest : List Pt), t.good → l.drop k = t.flat k ++ rest → l.length < f + k → prs f l k = some t := by
 intro t
 induction t using Tr.ind with
 | pane n =>
  intro f l k rest hg hd hf
  have hk : k < l.length := by
   by_cases e : k < l.length
   ·exact e
   ·rw [List.drop_of_length_le (by omega)] at hd; simp [Tr.flat] at hd
  obtain ⟨f', rfl⟩ : ∃ f', f = f' + 1 := ⟨f - 1, by omega⟩
  rw [List.drop_eq_getElem_cons hk] at hd
  simp only [Tr.flat, List.singleton_append] at hd
  injection hd with hp _
  have hpn : 1 ≤ n ∧ n ≤ 1000 := of_decide_eq_true hg
  rw [prs_pane (p := ⟨n, false, 0, -1, -1⟩) (by rw [List.getElem?_eq_getElem hk, hp]) (by simp only; omega), if_pos ⟨rfl, hg⟩]
 | split r s a c iha ihc =>
  intro f l k rest hg hd hf
  have hk : k < l.length := by
   by_cases e : k < l.length
   ·exact e
   ·rw [List.drop_of_length_le (by omega)] at hd; simp [Tr.flat] at hd
  obtain ⟨f', rfl⟩ : ∃ f', f = f' + 1 := ⟨f - 1, by omega⟩
  rw [List.drop_eq_getElem_cons hk] at hd
  simp only [Tr.flat, List.cons_append, List.append_assoc] at hd
  injection hd with hp hd
  have h1 := iha f' l (k + 1) _ hg.1 hd (by omega)
  have hd2 := congrArg (List.drop a.cnt) hd
  have e0 : List.drop a.cnt (a.flat (k + 1)) = [] := List.drop_of_length_le (by rw [Tr.flat_len]; omega)
  rw [List.drop_drop, List.drop_append_of_le_length (by rw [Tr.flat_len]; omega), e0, List.nil_append] at hd2
  have h2 := ihc f' l (k + 1 + a.cnt) rest hg.2 hd2 (by have := a.cnt_pos; omega)
  rw [prs_both (p := ⟨0, r, s, ((k + 1 : Nat) : Int), ((k + 1 + a.cnt : Nat) : Int)⟩) (by rw [List.getElem?_eq_getElem hk, hp]) rfl h1 h2, if_pos ⟨rfl, rfl⟩]
/-- The pane at sb may be turned into a split of it and another one. -/
def SplitOK (X : Bx) (w : World) (t : Tr) (b : Nat) (bs : List Nat) (n : Int) (sb : Nat) : Prop :=
 BF sb (X.leaf n) w ∧ sb ∈ bs ∧ ∀ w' r s p q f, Turned w w' [sb] → BF sb (X.node r s p q) w' → BF p (X.leaf n) w' → BF q (X.leaf f) w' → ∃ bs', TreeAt X w' (t.spl n r s f) b bs'
section
variable {X : Bx} {w : World} {r : Bool} {s : Int} {l t : Tr} {b bl br : Nat} {Ls Rs : List Nat} {n : Int}
end
end Go.Proofs.YtgnecacoehedkaaDoor
