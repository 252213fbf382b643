/- Panes moved and killed in trees; a split of a tree in memory, turned. Plain mathematics, and trees in memory. -/
import Derived.Test.YtgnecacoehedkaaDoorZG6
namespace Go.Proofs.YtgnecacoehedkaaDoor
open Go.ChangeShapes Go.WideShapes Go.ChangeAt Go.RowKit
def Tr.is : Tr → Int → Bool
 | ⟨.inl m⟩, n => m == n
 | ⟨.inr (_, _, _, _)⟩, _ => false
def Tr.mv : Tr → Int → Int → Tr
 | ⟨.inl m⟩, _, _ => .pane m
 | ⟨.inr (r, s, l, t)⟩, n, d => if l.is n || t.is n then .split r (s + d) l t else if n ∈ l.panes then .split r s (l.mv n d) t else .split r s l (t.mv n d)
def Tr.kl : Tr → Int → Tr
 | ⟨.inl m⟩, _ => .pane m
 | ⟨.inr (r, s, l, t)⟩, n => if l.is n then t else if t.is n then l else .split r s (l.kl n) (t.kl n)
def Tr.szok : Tr → Prop
 | ⟨.inl _⟩ => True
 | ⟨.inr (_, s, l, t)⟩ => (0 ≤ s ∧ s ≤ 1000) ∧ l.szok ∧ t.szok
def spC (t : Tr) (n : Int) : Int := if t.is n then 17 else if n ∈ t.panes then 0 else 5
theorem is_panes {t : Tr} {n : Int} (h : t.is n = true) : t = .pane n := by
 cases t using Tr.ind with
 | pane m => simp [Tr.is] at h; rw [h]
 | split r s l t _ _ => simp [Tr.is] at h
theorem is_mem {t : Tr} {n : Int} (h : t.is n = true) : n ∈ t.panes := by rw [is_panes h]; simp [Tr.panes]
theorem pane_is {m n : Int} (h : n ∈ (Tr.pane m).panes) : (Tr.pane m).is n = true := by simp [Tr.panes] at h; simp [Tr.is, h]
theorem fits_szok : ∀ (t : Tr) (W H : Int), W ≤ 1000 → H ≤ 1000 → t.fits W H = true → t.szok := by
 intro t
 induction t using Tr.ind with
 | pane n => intro W H _ _ _; trivial
 | split r s l t ihl ihr =>
  intro W H hW hH e
  rw [Tr.fits] at e
  cases r
  ·simp only [Bool.false_eq_true, if_false, Bool.and_eq_true] at e
   have h1 := fits_two _ _ _ e.1
   have h2 := fits_two _ _ _ e.2
   exact ⟨by omega, ihl _ _ (by omega) hH e.1, ihr _ _ (by omega) hH e.2⟩
  ·simp only [if_true, Bool.and_eq_true] at e
   have h1 := fits_two _ _ _ e.1
   have h2 := fits_two _ _ _ e.2
   exact ⟨by omega, ihl _ _ hW (by omega) e.1, ihr _ _ hW (by omega) e.2⟩
theorem kl_id : ∀ (t : Tr) (n : Int), n ∉ t.panes → t.kl n = t := by
 intro t
 induction t using Tr.ind with
 | pane m => intro n _; rfl
 | split r s l t ihl ihr =>
  intro n h
  simp only [Tr.panes, List.mem_append, not_or] at h
  have h1 : ¬ l.is n = true := fun e => h.1 (is_mem e)
  have h2 : ¬ t.is n = true := fun e => h.2 (is_mem e)
  rw [Tr.kl, if_neg h1, if_neg h2, ihl n h.1, ihr n h.2]
theorem mv_cnt : ∀ (t : Tr) (n d : Int), (t.mv n d).cnt = t.cnt := by
 intro t
 induction t using Tr.ind with
 | pane m => intro n d; rfl
 | split r s l t ihl ihr => intro n d; rw [Tr.mv]; split; rfl; split <;> simp only [Tr.cnt, ihl, ihr]
theorem mv_least : ∀ (t : Tr) (n d : Int), (t.mv n d).lw = t.lw ∧ (t.mv n d).lh = t.lh := by
 intro t
 induction t using Tr.ind with
 | pane m => intro n d; exact ⟨rfl, rfl⟩
 | split r s l t ihl ihr =>
  intro n d
  rw [Tr.mv]
  split
  ·exact ⟨rfl, rfl⟩
  ·split
   ·simp only [Tr.lw, Tr.lh, (ihl n d).1, (ihl n d).2, and_self]
   ·simp only [Tr.lw, Tr.lh, (ihr n d).1, (ihr n d).2, and_self]
theorem kl_cnt : ∀ (t : Tr) (n : Int), (t.kl n).cnt ≤ t.cnt := by
 intro t
 induction t using Tr.ind with
 | pane m => intro n; exact Nat.le_refl _
 | split r s l t ihl ihr =>
  intro n
  rw [Tr.kl]
  split
  ·simp only [Tr.cnt]; omega
  ·split
   ·simp only [Tr.cnt]; omega
   ·have := ihl n; have := ihr n; simp only [Tr.cnt]; omega
theorem kl_least : ∀ (t : Tr) (n : Int), (t.kl n).lw ≤ t.lw ∧ (t.kl n).lh ≤ t.lh := by
 intro t
 induction t using Tr.ind with
 | pane m => intro n; exact ⟨Int.le_refl _, Int.le_refl _⟩
 | split r s l t ihl ihr =>
  intro n
  have h1 := le_mx l.lw t.lw
  have h2 := le_mx l.lh t.lh
  have b1 := least_bd l
  have b2 := least_bd t
  rw [Tr.kl]
  split
  ·cases r <;> simp only [Tr.lw, Tr.lh, Bool.false_eq_true, if_false, if_true] <;> omega
  ·split
   ·cases r <;> simp only [Tr.lw, Tr.lh, Bool.false_eq_true, if_false, if_true] <;> omega
   ·have i1 := ihl n
    have i2 := ihr n
    have m1 : mx (l.kl n).lw (t.kl n).lw ≤ mx l.lw t.lw := mx_le.2 ⟨by omega, by omega⟩
    have m2 : mx (l.kl n).lh (t.kl n).lh ≤ mx l.lh t.lh := mx_le.2 ⟨by omega, by omega⟩
    cases r <;> simp only [Tr.lw, Tr.lh, Bool.false_eq_true, if_false, if_true] <;> omega
theorem fits_least : ∀ (t : Tr) (W H : Int), t.fits W H = true → t.lw ≤ W ∧ t.lh ≤ H := by
 intro t
 induction t using Tr.ind with
 | pane n => intro W H e; exact fits_two _ _ _ e
 | split r s l t ihl ihr =>
  intro W H e
  rw [Tr.fits] at e
  cases r
  ·simp only [Bool.false_eq_true, if_false, Bool.and_eq_true] at e
   have h1 := ihl _ _ e.1
   have h2 := ihr _ _ e.2
   have : mx l.lh t.lh ≤ H := mx_le.2 ⟨h1.2, h2.2⟩
   simp only [Tr.lw, Tr.lh, Bool.false_eq_true, if_false]; omega
  ·simp only [if_true, Bool.and_eq_true] at e
   have h1 := ihl _ _ e.1
   have h2 := ihr _ _ e.2
   have : mx l.lw t.lw ≤ W := mx_le.2 ⟨h1.1, h2.1⟩
   simp only [Tr.lw, Tr.lh, if_true]; omega
/-- The split at sb that the pane n is a part of may be given another size. -/
def MoveOK (X : Bx) (w : World) (t : Tr) (b : Nat) (bs : List Nat) (n : Int) (sb : Nat) : Prop :=
 ∃ r s bl br, BF sb (X.node r s bl br) w ∧ sb ∈ bs ∧ (0 ≤ s ∧ s ≤ 1000) ∧ ∀ d w', Turned w w' [sb] → BF sb (X.node r (s + d) bl br) w' → TreeAt X w' (t.mv n d) b bs
def Shp (X : Bx) (cs : Array Value) : Prop := (∃ m, cs = X.leaf m) ∨ ∃ r s bl br, cs = X.node r s bl br
/-- The other part, at ob, may be laid over the split at sb that the pane n is a part of. -/
def KillOK (X : Bx) (w : World) (t : Tr) (b : Nat) (bs : List Nat) (n : Int) (sb ob : Nat) : Prop :=
 ∃ cs, Shp X cs ∧ BF ob cs w ∧ sb ∈ bs ∧ (∃ cs0, Shp X cs0 ∧ BF sb cs0 w) ∧ ∀ w', Turned w w' [sb] → BF sb cs w' → ∃ bs', TreeAt X w' (t.kl n) b bs' ∧ (∀ k ∈ bs', k ∈ bs) ∧ bs'.Nodup
theorem TreeAt.rootOf {X : Bx} {w : World} : ∀ {t : Tr} {b : Nat} {bs : List Nat}, TreeAt X w t b bs → ∃ cs rest, bs = b :: rest ∧ Shp X cs ∧ BF b cs w ∧ ∀ w' b', w.heap.size ≤ w'.heap.size → BF b' cs w' → (∀ k ∈ rest, w'.heap[k]? = w.heap[k]?) → TreeAt X w' t b' (b' :: rest)
 | ⟨.inl n⟩, b, bs, ⟨e, h⟩ => ⟨X.leaf n, [], e, .inl ⟨n, rfl⟩, h, fun w' b' _ h2 _ => ⟨rfl, h2⟩⟩
 | ⟨.inr (r, s, l, t)⟩, b, bs, ⟨bl, br, Ls, Rs, e, h, h1, h2⟩ => ⟨X.node r s bl br, Ls ++ Rs, e, .inr ⟨r, s, bl, br, rfl⟩, h, fun w' b' hs hb hk =>
   ⟨bl, br, Ls, Rs, rfl, hb, h1.keep hs (fun k hk1 => hk k (by simp [hk1])), h2.keep hs (fun k hk1 => hk k (by simp [hk1]))⟩⟩
section
variable {X : Bx} {w : World} {r : Bool} {s : Int} {l t : Tr} {b bl br : Nat} {Ls Rs : List Nat} {n : Int}
theorem moveOK_here (hn : (b :: (Ls ++ Rs)).Nodup) (hs : 0 ≤ s ∧ s ≤ 1000) (hb : BF b (X.node r s bl br) w) (hl : TreeAt X w l bl Ls) (hr : TreeAt X w t br Rs) (hi : l.is n = true ∨ t.is n = true) : MoveOK X w (.split r s l t) b (b :: (Ls ++ Rs)) n b := by
 rw [List.nodup_cons, List.mem_append] at hn
 refine ⟨r, s, bl, br, hb, by simp, hs, fun d w' ht hb' => ?_⟩
 rw [Tr.mv, if_pos (by rcases hi with h | h <;> simp [h])]
 exact ⟨bl, br, Ls, Rs, rfl, hb', hl.turned ht (fun k hk h => by simp at h; exact hn.1 (.inl (h ▸ hk))), hr.turned ht (fun k hk h => by simp at h; exact hn.1 (.inr (h ▸ hk)))⟩
theorem killOK_left (hn : (b :: (Ls ++ Rs)).Nodup) (hb : BF b (X.node r s bl br) w) (hr : TreeAt X w t br Rs) (hi : l.is n = true) : KillOK X w (.split r s l t) b (b :: (Ls ++ Rs)) n b br := by
 rw [List.nodup_cons, List.mem_append, List.nodup_append] at hn
 obtain ⟨cs, rest, e, hz, hc, hk⟩ := hr.rootOf
 refine ⟨cs, hz, hc, by simp, ⟨_, .inr ⟨r, s, bl, br, rfl⟩, hb⟩, fun w' ht hb' => ⟨b :: rest, ?_, ?_, ?_⟩⟩
 ·rw [Tr.kl, if_pos hi]
  exact hk w' b ht.size hb' (fun k hk1 => ht.block k (hr.lt k (by rw [e]; simp [hk1])) (fun h => by simp at h; exact hn.1 (.inr (by rw [e, ← h]; simp [hk1]))))
 ·intro k hk1
  simp only [List.mem_cons] at hk1 ⊢
  rcases hk1 with h | h
  ·exact .inl h
  ·right; rw [e]; simp [h]
 ·rw [List.nodup_cons]
  refine ⟨fun h => hn.1 (.inr (by rw [e]; simp [h])), ?_⟩
  have := hn.2.2.1
  rw [e, List.nodup_cons] at this
  exact this.2
theorem killOK_right (hn : (b :: (Ls ++ Rs)).Nodup) (hb : BF b (X.node r s bl br) w) (hl : TreeAt X w l bl Ls) (hno : ¬ l.is n = true) (hi : t.is n = true) : KillOK X w (.split r s l t) b (b :: (Ls ++ Rs)) n b bl := by
 rw [List.nodup_cons, List.mem_append, List.nodup_append] at hn
 obtain ⟨cs, rest, e, hz, hc, hk⟩ := hl.rootOf
 refine ⟨cs, hz, hc, by simp, ⟨_, .inr ⟨r, s, bl, br, rfl⟩, hb⟩, fun w' ht hb' => ⟨b :: rest, ?_, ?_, ?_⟩⟩
 ·rw [Tr.kl, if_neg hno, if_pos hi]
  exact hk w' b ht.size hb' (fun k hk1 => ht.block k (hl.lt k (by rw [e]; simp [hk1])) (fun h => by simp at h; exact hn.1 (.inl (by rw [e, ← h]; simp [hk1]))))
 ·intro k hk1
  simp only [List.mem_cons] at hk1 ⊢
  rcases hk1 with h | h
  ·exact .inl h
  ·right; rw [e]; simp [h]
 ·rw [List.nodup_cons]
  refine ⟨fun h => hn.1 (.inl (by rw [e]; simp [h])), ?_⟩
  have := hn.2.1
  rw [e, List.nodup_cons] at this
  exact this.2
theorem moveOK_left (hn : (b :: (Ls ++ Rs)).Nodup) (hb : BF b (X.node r s bl br) w) (hr : TreeAt X w t br Rs) (h1 : ¬ l.is n = true) (h2 : ¬ t.is n = true) (hm : n ∈ l.panes) {sb : Nat} (h : MoveOK X w l bl Ls n sb) : MoveOK X w (.split r s l t) b (b :: (Ls ++ Rs)) n sb := by
 rw [List.nodup_cons, List.mem_append, List.nodup_append] at hn
 obtain ⟨r2, s2, bl2, br2, q1, q2, q3, q4⟩ := h
 refine ⟨r2, s2, bl2, br2, q1, by simp [q2], q3, fun d w' ht hb' => ?_⟩
 rw [Tr.mv, if_neg (by simp [h1, h2]), if_pos hm]
 exact ⟨bl, br, Ls, Rs, rfl, hb.turned ht (fun h => by simp at h; exact hn.1 (.inl (h ▸ q2))), q4 d w' ht hb', hr.turned ht (fun k hk h => by simp at h; exact hn.2.2.2 sb q2 k hk h.symm)⟩
theorem moveOK_right (hn : (b :: (Ls ++ Rs)).Nodup) (hb : BF b (X.node r s bl br) w) (hl : TreeAt X w l bl Ls) (h1 : ¬ l.is n = true) (h2 : ¬ t.is n = true) (hm : n ∉ l.panes) {sb : Nat} (h : MoveOK X w t br Rs n sb) : MoveOK X w (.split r s l t) b (b :: (Ls ++ Rs)) n sb := by
 rw [List.nodup_cons, List.mem_append, List.nodup_append] at hn
 obtain ⟨r2, s2, bl2, br2, q1, q2, q3, q4⟩ := h
 refine ⟨r2, s2, bl2, br2, q1, by simp [q2], q3, fun d w' ht hb' => ?_⟩
 rw [Tr.mv, if_neg (by simp [h1, h2]), if_neg hm]
 exact ⟨bl, br, Ls, Rs, rfl, hb.turned ht (fun h => by simp at h; exact hn.1 (.inr (h ▸ q2))), hl.turned ht (fun k hk h => by simp at h; exact hn.2.2.2 k hk sb q2 h), q4 d w' ht hb'⟩
theorem killOK_inl (hn : (b :: (Ls ++ Rs)).Nodup) (hb : BF b (X.node r s bl br) w) (hr : TreeAt X w t br Rs) (h1 : ¬ l.is n = true) (h2 : ¬ t.is n = true) (hm : n ∉ t.panes) {sb ob : Nat} (h : KillOK X w l bl Ls n sb ob) : KillOK X w (.split r s l t) b (b :: (Ls ++ Rs)) n sb ob := by
 rw [List.nodup_cons, List.mem_append, List.nodup_append] at hn
 obtain ⟨cs, hz, q1, q2, q3, q4⟩ := h
 refine ⟨cs, hz, q1, by simp [q2], q3, fun w' ht hb' => ?_⟩
 obtain ⟨bs', p1, p2, p3⟩ := q4 w' ht hb'
 refine ⟨b :: (bs' ++ Rs), ?_, ?_, ?_⟩
 ·rw [Tr.kl, if_neg h1, if_neg h2, kl_id t n hm]
  exact ⟨bl, br, bs', Rs, rfl, hb.turned ht (fun h => by simp at h; exact hn.1 (.inl (h ▸ q2))), p1, hr.turned ht (fun k hk h => by simp at h; exact hn.2.2.2 sb q2 k hk h.symm)⟩
 ·intro k hk
  simp only [List.mem_cons, List.mem_append] at hk ⊢
  rcases hk with h | h | h
  ·exact .inl h
  ·exact .inr (.inl (p2 k h))
  ·exact .inr (.inr h)
 ·rw [List.nodup_cons, List.mem_append, List.nodup_append]
  exact ⟨fun h => hn.1 (by rcases h with h | h; exact .inl (p2 b h); exact .inr h), p3, hn.2.2.1, fun x hx y hy => hn.2.2.2 x (p2 x hx) y hy⟩
theorem killOK_inr (hn : (b :: (Ls ++ Rs)).Nodup) (hb : BF b (X.node r s bl br) w) (hl : TreeAt X w l bl Ls) (h1 : ¬ l.is n = true) (h2 : ¬ t.is n = true) (hm : n ∉ l.panes) {sb ob : Nat} (h : KillOK X w t br Rs n sb ob) : KillOK X w (.split r s l t) b (b :: (Ls ++ Rs)) n sb ob := by
 rw [List.nodup_cons, List.mem_append, List.nodup_append] at hn
 obtain ⟨cs, hz, q1, q2, q3, q4⟩ := h
 refine ⟨cs, hz, q1, by simp [q2], q3, fun w' ht hb' => ?_⟩
 obtain ⟨bs', p1, p2, p3⟩ := q4 w' ht hb'
 refine ⟨b :: (Ls ++ bs'), ?_, ?_, ?_⟩
 ·rw [Tr.kl, if_neg h1, if_neg h2, kl_id l n hm]
  exact ⟨bl, br, Ls, bs', rfl, hb.turned ht (fun h => by simp at h; exact hn.1 (.inr (h ▸ q2))), hl.turned ht (fun k hk h => by simp at h; exact hn.2.2.2 k hk sb q2 h), p1⟩
 ·intro k hk
  simp only [List.mem_cons, List.mem_append] at hk ⊢
  rcases hk with h | h | h
  ·exact .inl h
  ·exact .inr (.inl h)
  ·exact .inr (.inr (p2 k h))
 ·rw [List.nodup_cons, List.mem_append, List.nodup_append]
  exact ⟨fun h => hn.1 (by rcases h with h | h; exact .inl h; exact .inr (p2 b h)), hn.2.1, p3, fun x hx y hy => hn.2.2.2 x hx y (p2 y hy)⟩
end
end Go.Proofs.YtgnecacoehedkaaDoor
