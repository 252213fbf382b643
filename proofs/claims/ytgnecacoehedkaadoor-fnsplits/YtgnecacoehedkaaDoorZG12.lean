/- Texts put together: LayT Sits Own3. -/
import Derived.Test.YtgnecacoehedkaaDoorZSplM
import Derived.Test.YtgnecacoehedkaaDoorZSpM
import Derived.Test.YtgnecacoehedkaaDoorZG6
import Derived.Test.YtgnecacoehedkaaDoorZTreM
/- Layouts split and killed again, moved, fitted: their panes. Plain mathematics. -/
namespace Go.Proofs.YtgnecacoehedkaaDoor
open Go.ChangeShapes Go.WideShapes Go.ChangeAt Go.RowKit
theorem spl_is : ∀ (t : Tr) (n : Int) (r : Bool) (s f : Int), f ∉ t.panes → (t.spl n r s f).is f = false
 | ⟨.inl m⟩, n, r, s, f, h => by
  simp only [Tr.panes, List.mem_singleton] at h
  rw [Tr.spl]
  split
  ·rfl
  ·simp only [Tr.is, beq_eq_false_iff_ne]
   exact fun e => h e.symm
 | ⟨.inr (_, _, _, _)⟩, _, _, _, _, _ => rfl
/-- What is split and killed again is as it was. -/
theorem kl_spl : ∀ (t : Tr) (n : Int) (r : Bool) (s f : Int), f ∉ t.panes → (t.spl n r s f).kl f = t := by
 intro t
 induction t using Tr.ind with
 | pane m =>
  intro n r s f h
  simp only [Tr.panes, List.mem_singleton] at h
  rw [Tr.spl]
  split
  ·rename_i e
   subst e
   rw [Tr.kl, if_neg (by simp only [Tr.is, beq_iff_eq]; exact fun e => h e.symm), if_pos (by simp [Tr.is])]
  ·rfl
 | split r0 s0 l t ihl iht =>
  intro n r s f h
  simp only [Tr.panes, List.mem_append, not_or] at h
  rw [Tr.spl, Tr.kl, spl_is l n r s f h.1, spl_is t n r s f h.2, ihl n r s f h.1, iht n r s f h.2]
  simp
theorem spl_panes : ∀ (t : Tr) (n : Int) (r : Bool) (s f : Int), t.panes.Nodup → n ∈ t.panes → (t.spl n r s f).panes.length = t.panes.length + 1 := by
 intro t n r s f h hn
 have h1 := cnt_panes t
 have h2 := cnt_panes (t.spl n r s f)
 have h3 := spl_cnt t n r s f h hn
 omega
theorem mv_panes : ∀ (t : Tr) (n d : Int), (t.mv n d).panes = t.panes := by
 intro t
 induction t using Tr.ind with
 | pane m => intro n d; rfl
 | split r s l t ihl iht =>
  intro n d
  rw [Tr.mv]
  split
  ·rfl
  ·split
   ·simp only [Tr.panes, ihl]
   ·simp only [Tr.panes, iht]
theorem fit_panes : ∀ (t : Tr) (W H : Int), (t.fit W H).panes = t.panes := by
 intro t
 induction t using Tr.ind with
 | pane n => intro W H; rfl
 | split r s l t ihl ihr => intro W H; cases r <;> simp only [Tr.fit, Tr.panes, Bool.false_eq_true, if_false, if_true, ihl, ihr]
/-- What is fitted fits, where there is room for the least. -/
theorem fit_fits : ∀ (t : Tr) (W H : Int), t.lw ≤ W → t.lh ≤ H → (t.fit W H).fits W H = true := by
 intro t
 induction t using Tr.ind with
 | pane n => intro W H h1 h2; simp only [Tr.lw, Tr.lh] at h1 h2; simp only [Tr.fit, Tr.fits]; exact decide_eq_true ⟨h1, h2⟩
 | split r s l t ihl ihr =>
  intro W H h1 h2
  cases r
  ·simp only [Tr.lw, Tr.lh, Bool.false_eq_true, if_false] at h1 h2
   obtain ⟨h3, h4⟩ := mx_le.1 h2
   have hb := ftS_bd (s := s) (a := l.lw) (z := W - t.lw) (by omega)
   simp only [Tr.fit, Tr.fits, Bool.false_eq_true, if_false, Bool.and_eq_true]
   exact ⟨ihl _ _ hb.1 h3, ihr _ _ (by omega) h4⟩
  ·simp only [Tr.lw, Tr.lh, if_true] at h1 h2
   obtain ⟨h3, h4⟩ := mx_le.1 h1
   have hb := ftS_bd (s := s) (a := l.lh) (z := H - t.lh) (by omega)
   simp only [Tr.fit, Tr.fits, if_true, Bool.and_eq_true]
   exact ⟨ihl _ _ h3 hb.1, ihr _ _ h4 (by omega)⟩
end Go.Proofs.YtgnecacoehedkaaDoor

/- A tree whose parts stand in a row. -/
namespace Go.Proofs.YtgnecacoehedkaaDoor
open Go.ChangeShapes Go.WideShapes Go.ChangeAt Go.RowKit
/-- The tree t's parts stand from place k on. -/
def Sits (l : List Pt) (k : Nat) (t : Tr) : Prop := ∃ rest, l.drop k = t.flat k ++ rest
theorem drop_head {l : List Pt} {k : Nat} {p : Pt} {r : List Pt} (h : l.drop k = p :: r) : l[k]? = some p ∧ l.drop (k + 1) = r ∧ k < l.length := by
 have hk : k < l.length := by
  by_cases e : k < l.length
  ·exact e
  ·rw [List.drop_of_length_le (by omega)] at h; cases h
 rw [List.drop_eq_getElem_cons hk] at h
 injection h with h1 h2
 exact ⟨by rw [List.getElem?_eq_getElem hk, h1], h2, hk⟩
theorem Sits.pane {l : List Pt} {k : Nat} {n : Int} (h : Sits l k (.pane n)) : l[k]? = some ⟨n, false, 0, -1, -1⟩ ∧ k < l.length := by
 obtain ⟨r, h⟩ := h
 have := drop_head (p := ⟨n, false, 0, -1, -1⟩) (r := r) h
 exact ⟨this.1, this.2.2⟩
theorem Sits.split {l : List Pt} {k : Nat} {b : Bool} {s : Int} {a c : Tr} (h : Sits l k (.split b s a c)) : l[k]? = some ⟨0, b, s, ((k + 1 : Nat) : Int), ((k + 1 + a.cnt : Nat) : Int)⟩ ∧ k < l.length ∧ Sits l (k + 1) a ∧ Sits l (k + 1 + a.cnt) c := by
 obtain ⟨r, h⟩ := h
 have h' : l.drop k = ⟨0, b, s, ((k + 1 : Nat) : Int), ((k + 1 + a.cnt : Nat) : Int)⟩ :: (a.flat (k + 1) ++ (c.flat (k + 1 + a.cnt) ++ r)) := by rw [h]; simp only [Tr.flat, List.cons_append, List.append_assoc]
 obtain ⟨h1, h2, h3⟩ := drop_head h'
 refine ⟨h1, h3, ⟨_, h2⟩, ⟨r, ?_⟩⟩
 have := congrArg (List.drop a.cnt) h2
 rw [List.drop_drop] at this
 rw [this, List.drop_append_of_le_length (by rw [Tr.flat_len]; omega), List.drop_of_length_le (by rw [Tr.flat_len]; omega), List.nil_append]
end Go.Proofs.YtgnecacoehedkaaDoor

/- Where an owned row lies; trees behind a draw. -/
namespace Go.Proofs.YtgnecacoehedkaaDoor
open Go.ChangeShapes Go.WideShapes Go.ChangeAt Go.RowKit
theorem own_at {w : World} {base : Nat} {e : TypeId} {z : Nat} {a : Option Addr} {n cap : Nat} {xs : List Value} (h : w.ownsRow base e z (.slice a n cap) n xs) (hn : 0 < n) : ∃ g, a = some ⟨g, 0, none⟩ := by
 rcases h.2 with ⟨e, e2⟩ | ⟨g, cap, cur, e, _⟩
 ·omega
 ·cases e; exact ⟨_, rfl⟩
theorem TreeAt.drew {X : Bx} {w : World} {t : Tr} {b : Nat} {bs : List Nat} (h : TreeAt X w t b bs) : TreeAt X w.drew t b bs := h.keep (Nat.le_refl _) (fun _ _ => rfl)
end Go.Proofs.YtgnecacoehedkaaDoor
