/- Texts put together: PrsM MinM FitM. -/
import Derived.Test.YtgnecacoehedkaaDoorZTreM
import Derived.Test.YtgnecacoehedkaaDoorZG0
/- Reading a tree off a row of parts; when it is right. Plain mathematics. -/
namespace Go.Proofs.YtgnecacoehedkaaDoor
open Go.ChangeShapes Go.WideShapes Go.ChangeAt Go.RowKit
def pnP (n : Int) : Pt := ⟨n, false, 0, -1, -1⟩
/-- A part that is just a pane's. -/
def pnQ (p : Pt) : Bool := !p.rows && (p.size == 0 && (p.left == -1 && p.right == -1))
theorem pnQ_iff (p : Pt) : pnQ p = true ↔ p = pnP p.pane := by
 cases p
 simp [pnQ, pnP]
/-- The tree whose parts stand from place k on (f: more than there are parts left). -/
def prs : Nat → List Pt → Nat → Option Tr
 | 0, _, _ => none
 | f + 1, l, k =>
  match l[k]? with
  | none => none
  | some p =>
   if p.pane ≠ 0 then (if pnQ p = true ∧ pnB p.pane = true then some (.pane p.pane) else none)
   else match prs f l (k + 1) with
    | none => none
    | some a => match prs f l (k + 1 + a.cnt) with
     | none => none
     | some b => if p.left = ((k + 1 : Nat) : Int) ∧ p.right = ((k + 1 + a.cnt : Nat) : Int) then some (.split p.rows p.size a b) else none
def Tr.panes : Tr → List Int
 | ⟨.inl n⟩ => [n]
 | ⟨.inr (_, _, l, r)⟩ => l.panes ++ r.panes
def Tr.good : Tr → Prop
 | ⟨.inl n⟩ => pnB n = true
 | ⟨.inr (_, _, l, r)⟩ => l.good ∧ r.good
def Tr.fits : Tr → Int → Int → Bool
 | ⟨.inl _⟩, w, h => decide (2 ≤ w ∧ 2 ≤ h)
 | ⟨.inr (rows, s, l, r)⟩, w, h => if rows then l.fits w s && r.fits w (h - s) else l.fits s h && r.fits (w - s) h
theorem prs_spec : ∀ (f : Nat) (l : List Pt) (k : Nat) (t : Tr), prs f l k = some t → k + t.cnt ≤ l.length ∧ l.drop k = t.flat k ++ l.drop (k + t.cnt) ∧ t.good := by
 intro f
 induction f with
 | zero => intro l k t h; simp [prs] at h
 | succ f ih =>
  intro l k t h
  rw [prs] at h
  cases hp : l[k]? with
  | none => rw [hp] at h; cases h
  | some p =>
   rw [hp] at h
   obtain ⟨hk, hpk⟩ := List.getElem?_eq_some_iff.1 hp
   simp only at h
   by_cases h0 : p.pane ≠ 0
   ·rw [if_pos h0] at h
    split at h
    ·rename_i hc
     cases h
     refine ⟨by simp only [Tr.cnt]; omega, ?_, hc.2⟩
     rw [List.drop_eq_getElem_cons hk, hpk]
     simp only [Tr.flat, Tr.cnt, List.singleton_append]
     rw [(pnQ_iff p).1 hc.1]
     rfl
    ·cases h
   ·rw [if_neg h0] at h
    cases ha : prs f l (k + 1) with
    | none => rw [ha] at h; cases h
    | some a =>
     rw [ha] at h
     simp only at h
     cases hb : prs f l (k + 1 + a.cnt) with
     | none => rw [hb] at h; cases h
     | some b =>
      rw [hb] at h
      simp only at h
      split at h
      ·rename_i hc
       cases h
       obtain ⟨a1, a2, a3⟩ := ih l _ _ ha
       obtain ⟨b1, b2, b3⟩ := ih l _ _ hb
       refine ⟨by simp only [Tr.cnt]; omega, ?_, a3, b3⟩
       rw [List.drop_eq_getElem_cons hk, hpk, a2, b2]
       simp only [Tr.flat, Tr.cnt, List.cons_append, List.append_assoc]
       have hpane : p.pane = 0 := by simpa using h0
       rw [show k + (1 + a.cnt + b.cnt) = k + 1 + a.cnt + b.cnt from by omega]
       congr 1
       cases p
       simp only at hc hpane ⊢
       rw [hc.1, hc.2, hpane]
      ·cases h
theorem fits_two : ∀ (t : Tr) (w h : Int), t.fits w h = true → 2 ≤ w ∧ 2 ≤ h := by
 intro t
 induction t using Tr.ind with
 | pane n => intro w h e; exact of_decide_eq_true e
 | split rows s l r ihl ihr =>
  intro w h e
  rw [Tr.fits] at e
  cases rows with
  | true =>
   simp only [if_true, Bool.and_eq_true] at e
   have := ihl _ _ e.1; have := ihr _ _ e.2; omega
  | false =>
   simp only [Bool.false_eq_true, if_false, Bool.and_eq_true] at e
   have := ihl _ _ e.1; have := ihr _ _ e.2; omega
/-- The tree of a layout that is right for w columns and h rows. -/
def tof (l : List Pt) (w h : Int) : Option Tr :=
 if l.length ≤ 11 then
  match prs 12 l 0 with
  | none => none
  | some t => if t.cnt = l.length ∧ t.panes.Nodup ∧ t.fits w h = true then some t else none
 else none
theorem tof_flat {l : List Pt} {w h : Int} {t : Tr} (e : tof l w h = some t) : l = t.flat 0 ∧ t.cnt = l.length ∧ t.cnt ≤ 11 ∧ t.good ∧ t.panes.Nodup ∧ t.fits w h = true := by
 unfold tof at e
 split at e
 ·rename_i hl
  cases hp : prs 12 l 0 with
  | none => rw [hp] at e; cases e
  | some t' =>
   rw [hp] at e
   simp only at e
   split at e
   ·rename_i hc
    cases e
    obtain ⟨h1, h2, h3⟩ := prs_spec _ _ _ _ hp
    refine ⟨?_, hc.1, by omega, h3, hc.2.1, hc.2.2⟩
    simpa [hc.1] using h2
   ·cases e
 ·cases e
theorem flat_panes : ∀ (t : Tr) (k : Nat), t.good → ((t.flat k).map Pt.pane).filter (fun n => n != 0) = t.panes := by
 intro t
 induction t using Tr.ind with
 | pane n =>
  intro k hg
  have : 1 ≤ n ∧ n ≤ 1000 := of_decide_eq_true hg
  simp only [Tr.flat, Tr.panes, List.map_cons, List.map_nil]
  rw [List.filter_cons_of_pos (by simp; omega)]
  rfl
 | split rows s l r ihl ihr =>
  intro k hg
  simp only [Tr.flat, Tr.panes, List.map_cons, List.map_append]
  rw [List.filter_cons_of_neg (by simp), List.filter_append, ihl _ hg.1, ihr _ hg.2]
end Go.Proofs.YtgnecacoehedkaaDoor

/- The lesser and the greater of two numbers. -/
namespace Go.Proofs.YtgnecacoehedkaaDoor
open Go.ChangeShapes Go.WideShapes Go.ChangeAt Go.RowKit
/-- The lesser of two numbers. -/
def mn (x y : Int) : Int := if y < x then y else x
theorem run_mn {P : Program} {w : World} (ts : Array TypeId) (t : TypeId) (k k' : IntKind) (x y : Int) : (Builtin.min_ ts t #[.int k x, .int k' y]).run P w = .ok (.int k (mn x y)) w := by
 simp [Builtin.min_, Builtin.min2, mn]
/-- The greater of two numbers. -/
def mx (x y : Int) : Int := if x < y then y else x
theorem run_mx {P : Program} {w : World} (ts : Array TypeId) (t : TypeId) (k k' : IntKind) (x y : Int) : (Builtin.max_ ts t #[.int k x, .int k' y]).run P w = .ok (.int k (mx x y)) w := by
 simp [Builtin.max_, Builtin.max2, mx]
end Go.Proofs.YtgnecacoehedkaaDoor

/- What a tree needs, and how it is fitted. Plain mathematics. -/
namespace Go.Proofs.YtgnecacoehedkaaDoor
open Go.ChangeShapes Go.WideShapes Go.ChangeAt Go.RowKit
def Tr.lw : Tr → Int
 | ⟨.inl _⟩ => 2
 | ⟨.inr (r, _, l, t)⟩ => if r then mx l.lw t.lw else l.lw + t.lw
def Tr.lh : Tr → Int
 | ⟨.inl _⟩ => 2
 | ⟨.inr (r, _, l, t)⟩ => if r then l.lh + t.lh else mx l.lh t.lh
theorem mx_le {x y z : Int} : mx x y ≤ z ↔ x ≤ z ∧ y ≤ z := by unfold mx; split <;> omega
theorem le_mx (x y : Int) : x ≤ mx x y ∧ y ≤ mx x y := by unfold mx; split <;> omega
theorem least_bd : ∀ t : Tr, 2 ≤ t.lw ∧ t.lw ≤ 2 * t.cnt ∧ 2 ≤ t.lh ∧ t.lh ≤ 2 * t.cnt := by
 intro t
 induction t using Tr.ind with
 | pane n => simp [Tr.lw, Tr.lh, Tr.cnt]
 | split r s l t ihl ihr =>
  have h1 := le_mx l.lw t.lw
  have h2 := le_mx l.lh t.lh
  have h3 : mx l.lw t.lw ≤ 2 * (l.cnt + t.cnt) := mx_le.2 ⟨by omega, by omega⟩
  have h4 : mx l.lh t.lh ≤ 2 * (l.cnt + t.cnt) := mx_le.2 ⟨by omega, by omega⟩
  cases r <;> simp only [Tr.lw, Tr.lh, Tr.cnt, Bool.false_eq_true, if_false, if_true] <;> omega
/-- The nearest size that leaves both parts what they need. -/
def ftS (s a z : Int) : Int := mn (mx s a) z
theorem ftS_bd {s a z : Int} (h : a ≤ z) : a ≤ ftS s a z ∧ ftS s a z ≤ z := by unfold ftS mn; have := (le_mx s a).2; split <;> omega
def Tr.fit : Tr → Int → Int → Tr
 | ⟨.inl n⟩, _, _ => .pane n
 | ⟨.inr (r, s, l, t)⟩, W, H => if r then .split r (ftS s l.lh (H - t.lh)) (l.fit W (ftS s l.lh (H - t.lh))) (t.fit W (H - ftS s l.lh (H - t.lh))) else .split r (ftS s l.lw (W - t.lw)) (l.fit (ftS s l.lw (W - t.lw)) H) (t.fit (W - ftS s l.lw (W - t.lw)) H)
theorem fit_cnt : ∀ (t : Tr) (W H : Int), (t.fit W H).cnt = t.cnt := by
 intro t
 induction t using Tr.ind with
 | pane n => intro W H; rfl
 | split r s l t ihl ihr => intro W H; cases r <;> simp only [Tr.fit, Tr.cnt, Bool.false_eq_true, if_false, if_true, ihl, ihr]
/-- Nothing turned but the blocks bs, and what is new. -/
structure Turned (w w' : World) (bs : List Nat) : Prop where
 os : w'.os = w.os
 tape : w'.tape = w.tape
 output : w'.output = w.output
 size : w.heap.size ≤ w'.heap.size
 block : ∀ k, k < w.heap.size → k ∉ bs → w'.heap[k]? = w.heap[k]?
theorem Turned.refl (w : World) (bs : List Nat) : Turned w w bs := ⟨rfl, rfl, rfl, Nat.le_refl _, fun _ _ _ => rfl⟩
theorem Turned.of_below {w w' : World} (h : Below w.heap.size w w') (bs : List Nat) : Turned w w' bs := ⟨h.os, h.tape, h.output, h.size, fun k hk _ => h.block k hk⟩
theorem Turned.trans {w w' w'' : World} {bs : List Nat} (h : Turned w w' bs) (h2 : Turned w' w'' bs) : Turned w w'' bs :=
 ⟨h2.os.trans h.os, h2.tape.trans h.tape, h2.output.trans h.output, Nat.le_trans h.size h2.size, fun k hk hn => (h2.block k (Nat.lt_of_lt_of_le hk h.size) hn).trans (h.block k hk hn)⟩
theorem Turned.more {w w' : World} {bs cs : List Nat} (h : Turned w w' bs) (hs : ∀ k ∈ bs, k ∈ cs) : Turned w w' cs := ⟨h.os, h.tape, h.output, h.size, fun k hk hn => h.block k hk (fun h2 => hn (hs k h2))⟩
theorem Turned.set {w : World} {bs : List Nat} {k o : Nat} {v : Value} (h : k ∈ bs) : Turned w (w.setCell ⟨k, o, none⟩ v) bs := by
 refine ⟨rfl, rfl, rfl, by simp, fun j _ hj => ?_⟩
 have hk' : k ≠ j := fun e => hj (e ▸ h)
 simp [World.setCell, Array.getElem?_modify, hk']
theorem Turned.below {w w' : World} {bs : List Nat} {B : Nat} (h : Turned w w' bs) (hB : ∀ k ∈ bs, B ≤ k) (hs : B ≤ w.heap.size) : Below B w w' := ⟨h.os, h.tape, h.output, h.size, fun k hk => h.block k (by omega) (fun h2 => by have := hB k h2; omega)⟩
theorem Turned.drew {w w' : World} {bs : List Nat} (h : Turned w w' bs) : Turned w w'.drew bs := ⟨h.os, h.tape, h.output, h.size, h.block⟩
theorem TreeAt.turned {X : Bx} {w w' : World} {t : Tr} {b : Nat} {bs cs : List Nat} (h : TreeAt X w t b bs) (ht : Turned w w' cs) (hd : ∀ k ∈ bs, k ∉ cs) : TreeAt X w' t b bs := h.keep ht.size (fun k hk => ht.block k (h.lt k hk) (hd k hk))
theorem BF.turned {n : Nat} {cs : Array Value} {w w' : World} {bs : List Nat} (h : BF n cs w) (ht : Turned w w' bs) (hd : n ∉ bs) : BF n cs w' := h.keep ht.size (ht.block n h.lt hd)
end Go.Proofs.YtgnecacoehedkaaDoor
