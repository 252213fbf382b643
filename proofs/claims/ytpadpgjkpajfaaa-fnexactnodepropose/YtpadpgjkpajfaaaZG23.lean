/- Texts put together: NnM AdM AnM. -/
import Derived.Test.YtpadpgjkpajfaaaZNdR
import Derived.Test.YtpadpgjkpajfaaaZG3
import Derived.Test.YtpadpgjkpajfaaaZMsM
/- What a new node is. -/
namespace Go.Proofs.Ytpadpgjkpajfaaa
open Go.ChangeShapes Go.WideShapes Go.ChangeAt Go.RowKit
set_option linter.unusedVariables false
def NewIs (id nd : Int) (i0 i1 i3 i9 : Int) (u : Bool) (lx lg : List Int) (c : Int) : Prop :=
  if inB nd 1 5 && inB id 0 (nd - 1) then i0 = id ∧ i1 = nd ∧ i3 = -1 ∧ i9 = 5 + id ∧ u = true ∧ lx = List.replicate nd.toNat 1 ∧ lg = List.replicate nd.toNat 0 ∧ c = 0
  else i0 = 0 ∧ i1 = 0 ∧ i3 = 0 ∧ i9 = 0 ∧ u = false ∧ lx = [] ∧ lg = [] ∧ c = 4
def Apart (lo hi l0 h0 l1 h1 l2 h2 l3 h3 : Nat) : Prop := (h0 ≤ l1 ∨ h1 ≤ l0) ∧ (h0 ≤ l2 ∨ h2 ≤ l0) ∧ (h0 ≤ l3 ∨ h3 ≤ l0) ∧ (h1 ≤ l2 ∨ h2 ≤ l1) ∧ (h1 ≤ l3 ∨ h3 ≤ l1) ∧ (h2 ≤ l3 ∨ h3 ≤ l2) ∧ lo ≤ l0 ∧ h0 ≤ hi ∧ lo ≤ l1 ∧ h1 ≤ hi ∧ lo ≤ l2 ∧ h2 ≤ hi ∧ lo ≤ l3 ∧ h3 ≤ hi
/-- A node that was answered, with its rows. -/
def NewTo (w w' : World) (e : Ending) (i0 i1 i3 i9 : Int) (u : Bool) (lx lg : List Int) (nx ng : Nat) (c : Int) : Prop :=
  ∃ a cap av cv ax cx ag cg l0 h0 l1 h1 l2 h2 l3 h3, e = .returned (.tuple #[.agg #[.int .i64 i0, .int .i64 i1, .int .i64 0, .int .i64 i3, .int .i64 0, .bool u, .slice a 0 cap, .int .i64 0, .int .i64 0, .int .i64 i9, .slice av 0 cv, .slice ax nx cx, .slice ag ng cg], .int .i64 c]) ∧ (HeldZ 2 w' l0 h0 49 (.slice a 0 cap) 0 [] ∧ Held w' l1 h1 3 (.slice av 0 cv) 0 [] ∧ Held w' l2 h2 3 (.slice ax nx cx) nx (cI lx) ∧ Held w' l3 h3 3 (.slice ag ng cg) ng (cI lg)) ∧ Apart w.heap.size w'.heap.size l0 h0 l1 h1 l2 h2 l3 h3
theorem heldZ_nil {z : Nat} (w : World) (lo hi : Nat) (e : TypeId) (h : hi ≤ w.heap.size) : HeldZ z w lo hi e (.slice none 0 0) 0 [] := ⟨World.ownsRow_nil _ _ _ _, (fun k hk => by cases hk), h⟩
theorem held_nil (w : World) (lo hi : Nat) (e : TypeId) (h : hi ≤ w.heap.size) : Held w lo hi e (.slice none 0 0) 0 [] := ⟨World.ownsRow_nil _ _ _ _, (fun k hk => by cases hk), h⟩
end Go.Proofs.Ytpadpgjkpajfaaa

/- How far a leader knows to be committed. Plain mathematics. -/
namespace Go.Proofs.Ytpadpgjkpajfaaa
open Go.ChangeShapes Go.WideShapes Go.ChangeAt Go.RowKit
set_option linter.unusedVariables false
/-- The last place up to k above c with an entry of the term tm that more than half have; c if there is none. -/
def advN (id tm : Int) (nd : Nat) (l : List Ent) (lg : List Int) (c : Nat) : Nat → Nat
  | 0 => c
  | k + 1 => if k + 1 ≤ c then c else if tAt l (k + 1) = tm ∧ nd < 2 * holds id ((k + 1 : Nat) : Int) lg then k + 1 else advN id tm nd l lg c k
theorem advN_end {id tm : Int} {nd : Nat} {l : List Ent} {lg : List Int} {c k : Nat} (h : k ≤ c) : advN id tm nd l lg c k = c := by
  cases k with
  | zero => rfl
  | succ k => simp only [advN, if_pos h]
theorem advN_hit {id tm : Int} {nd : Nat} {l : List Ent} {lg : List Int} {c k : Nat} (h : ¬ k + 1 ≤ c) (h1 : tAt l (k + 1) = tm) (h2 : nd < 2 * holds id ((k + 1 : Nat) : Int) lg) : advN id tm nd l lg c (k + 1) = k + 1 := by
  simp only [advN, if_neg h]; rw [if_pos ⟨h1, h2⟩]
theorem advN_miss {id tm : Int} {nd : Nat} {l : List Ent} {lg : List Int} {c k : Nat} (h : ¬ k + 1 ≤ c) (h1 : ¬ (tAt l (k + 1) = tm ∧ nd < 2 * holds id ((k + 1 : Nat) : Int) lg)) : advN id tm nd l lg c (k + 1) = advN id tm nd l lg c k := by
  simp only [advN, if_neg h]; rw [if_neg h1]
theorem holds_le (id p : Int) (l : List Int) : holds id p l ≤ 1 + l.length := by unfold holds; have := holdA_le id p l 0; omega
end Go.Proofs.Ytpadpgjkpajfaaa

/- Answers that hold a node and messages. -/
namespace Go.Proofs.Ytpadpgjkpajfaaa
open Go.ChangeShapes Go.WideShapes Go.ChangeAt Go.RowKit
set_option linter.unusedVariables false
structure Nf where
  id : Int
  nd : Int
  tm : Int
  vt : Int
  ro : Int
  up : Bool
  l : List Ent
  cm : Int
  el : Int
  wt : Int
  lv : List Int
  lx : List Int
  lg : List Int
def nfZ : Nf := ⟨0, 0, 0, 0, 0, false, [], 0, 0, 0, [], [], []⟩
def nfB (N : Nf) : Bool := nodeB N.id N.nd N.tm N.vt N.ro N.cm N.el N.wt N.up N.l N.lv N.lx N.lg
/-- An answer of the program: every row its own. -/
def PAns (w w' : World) (e : Ending) (N : Nf) (M : List Mg) (c : Int) : Prop :=
  ∃ eA eC vA vC xA xC gA gC l0 h0 l1 h1 l2 h2 l3 h3 vm L lom, e = .returned (.tuple #[.agg #[.int .i64 N.id, .int .i64 N.nd, .int .i64 N.tm, .int .i64 N.vt, .int .i64 N.ro, .bool N.up, .slice eA N.l.length eC, .int .i64 N.cm, .int .i64 N.el, .int .i64 N.wt, .slice vA N.lv.length vC, .slice xA N.lx.length xC, .slice gA N.lg.length gC], vm, .int .i64 c]) ∧ (HeldZ 2 w' l0 h0 49 (.slice eA N.l.length eC) N.l.length (cE N.l) ∧ Held w' l1 h1 3 (.slice vA N.lv.length vC) N.lv.length (cI N.lv) ∧ Held w' l2 h2 3 (.slice xA N.lx.length xC) N.lx.length (cI N.lx) ∧ Held w' l3 h3 3 (.slice gA N.lg.length gC) N.lg.length (cI N.lg)) ∧ Apart w.heap.size lom l0 h0 l1 h1 l2 h2 l3 h3 ∧ (w.heap.size ≤ lom ∧ lom ≤ w'.heap.size) ∧ L.map (·.1) = M ∧ MOwn w' lom vm L
/-- An answer of the specification: every row can be read. -/
def SAns (w' : World) (e : Ending) (N : Nf) (M : List Mg) (c : Int) : Prop :=
  ∃ eA eC vA vC xA xC gA gC vm L, e = .returned (.tuple #[.agg #[.int .i64 N.id, .int .i64 N.nd, .int .i64 N.tm, .int .i64 N.vt, .int .i64 N.ro, .bool N.up, .slice eA N.l.length eC, .int .i64 N.cm, .int .i64 N.el, .int .i64 N.wt, .slice vA N.lv.length vC, .slice xA N.lx.length xC, .slice gA N.lg.length gC], vm, .int .i64 c]) ∧ (RowV w' eA (cE N.l) ∧ RowV w' vA (cI N.lv) ∧ RowV w' xA (cI N.lx) ∧ RowV w' gA (cI N.lg)) ∧ L.map (·.1) = M ∧ MRow w' vm L
theorem pans_zero {w w' : World} (c : Int) (h : w.heap.size ≤ w'.heap.size) : PAns w w' (.returned (.tuple #[.agg #[.int .i64 0, .int .i64 0, .int .i64 0, .int .i64 0, .int .i64 0, .bool false, .slice none 0 0, .int .i64 0, .int .i64 0, .int .i64 0, .slice none 0 0, .slice none 0 0, .slice none 0 0], .slice none 0 0, .int .i64 c])) nfZ [] c :=
  ⟨none, 0, none, 0, none, 0, none, 0, w.heap.size, w.heap.size, w.heap.size, w.heap.size, w.heap.size, w.heap.size, w.heap.size, w.heap.size, .slice none 0 0, [], w.heap.size, rfl, ⟨heldZ_nil _ _ _ _ h, held_nil _ _ _ _ h, held_nil _ _ _ _ h, held_nil _ _ _ _ h⟩, by unfold Apart; omega, ⟨Nat.le_refl _, h⟩, rfl, MOwn.nil _ _⟩
def jOf (lx : List Int) (t : Nat) : Nat := (lx.getD t 1 - 1).toNat
theorem plB_at {n : Int} : ∀ (lx lg : List Int), plB n lx lg = true → lx.length = lg.length → ∀ t (h : t < lx.length), 1 ≤ lx[t] ∧ lx[t] ≤ n + 1
  | [], _, _, _, t, h => by simp at h
  | x :: lx, [], _, hl, _, _ => by simp at hl
  | x :: lx, g :: lg, hb, hl, t, h => by
    unfold plB at hb
    simp only [Bool.and_eq_true] at hb
    cases t with
    | zero => have := hb.1.1; unfold inB at this; simpa using this
    | succ t => exact plB_at lx lg hb.2 (by simpa using hl) t (by simpa using h)
/-- What is known of a right node. -/
theorem nf_parts {N : Nf} (h : nfB N = true) : ∃ nd c : Nat, N.nd = (nd : Int) ∧ N.cm = (c : Int) ∧ nd ≤ 5 ∧ 1 ≤ nd ∧ c ≤ N.l.length ∧ N.l.length ≤ 60 ∧ N.lx.length = nd ∧ N.lg.length = nd ∧ (∀ t (h : t < N.lx.length), N.lx[t] = (jOf N.lx t : Int) + 1 ∧ jOf N.lx t ≤ N.l.length) ∧ logB N.tm 1 N.l = true ∧ (0 ≤ N.tm ∧ N.tm ≤ 1000) ∧ (0 ≤ N.id ∧ N.id < N.nd) ∧ (0 ≤ N.el ∧ N.el ≤ 1000) ∧ upB N.nd 0 N.lv = true := by
  unfold nfB nodeB at h
  simp only [Bool.and_eq_true] at h
  obtain ⟨⟨⟨⟨⟨⟨⟨⟨⟨h0, h1⟩, h2⟩, h3⟩, h4⟩, h5⟩, h6⟩, h7⟩, h8⟩, h9⟩ := h
  obtain ⟨s1, s2, s3, s4⟩ := state_parts h3
  unfold placesB at h9
  simp only [Bool.and_eq_true, decide_eq_true_eq] at h9
  obtain ⟨⟨p1, p2⟩, p3⟩ := h9
  unfold inB at h0 h5 h1 h6
  simp at h0 h5 h1 h6
  refine ⟨N.nd.toNat, N.cm.toNat, by omega, by omega, by omega, by omega, by omega, s3, by omega, by omega, fun t ht => ?_, s4, s1, by omega, by omega, h8⟩
  have hp := plB_at N.lx N.lg p3 (by omega) t ht
  have hg : N.lx.getD t 1 = N.lx[t] := by simp [List.getD_eq_getElem?_getD, List.getElem?_eq_getElem ht]
  unfold jOf
  rw [hg]
  omega
theorem logB_sorted {T : Int} : ∀ (l : List Ent) (p : Int), logB T p l = true → ∀ i j (hi : i < l.length) (hj : j < l.length), i ≤ j → p ≤ l[i].1 ∧ l[i].1 ≤ l[j].1 ∧ l[j].1 ≤ T
  | [], _, _, i, _, hi, _, _ => by simp at hi
  | e :: l, p, h, i, j, hi, hj, hij => by
    unfold logB entB inB at h
    simp only [Bool.and_eq_true, decide_eq_true_eq] at h
    obtain ⟨⟨⟨h1, h2⟩, h3⟩, h4⟩ := h
    cases i with
    | zero =>
      cases j with
      | zero => exact ⟨h1, Int.le_refl _, h2⟩
      | succ j =>
        have := logB_sorted l e.1 h4 j j (by simpa using hj) (by simpa using hj) (Nat.le_refl _)
        exact ⟨h1, this.1, this.2.2⟩
    | succ i =>
      cases j with
      | zero => omega
      | succ j =>
        have := logB_sorted l e.1 h4 i j (by simpa using hi) (by simpa using hj) (by omega)
        exact ⟨Int.le_trans h1 this.1, this.2⟩
theorem tAt_app {l : List Ent} {e : Ent} {k : Nat} (h : k ≤ l.length) : tAt (l ++ [e]) k = tAt l k := by
  cases k with
  | zero => rw [tAt_zero, tAt_zero]
  | succ k => rw [tAt_succ _ k (by simp; omega), tAt_succ l k h, List.getElem_append_left h]
theorem tAt_last {l : List Ent} {e : Ent} : tAt (l ++ [e]) (l.length + 1) = e.1 := by
  rw [tAt_succ _ l.length (by simp)]; simp
/-- In a right log the entries of the own term are the last ones. -/
theorem own_last {l : List Ent} {tm : Int} (h : logB tm 1 l = true) (k : Nat) (hk : k ≤ l.length) (hne : tAt l k ≠ tm) (j : Nat) (h0 : 0 < j) (hj : j ≤ k) : tAt l j ≠ tm := by
  obtain ⟨k', rfl⟩ : ∃ k', k = k' + 1 := ⟨k - 1, by omega⟩
  obtain ⟨j', rfl⟩ : ∃ j', j = j' + 1 := ⟨j - 1, by omega⟩
  have hs := logB_sorted l 1 h j' k' (by omega) (by omega) (by omega)
  rw [tAt_succ l k' (by omega)] at hne
  rw [tAt_succ l j' (by omega)]
  omega
theorem own_lastA {l : List Ent} {tm : Int} {d : ByteArray} (h : logB tm 1 l = true) (k : Nat) (hk : k ≤ l.length + 1) (hne : tAt (l ++ [(tm, d)]) k ≠ tm) (j : Nat) (h0 : 0 < j) (hj : j ≤ k) : tAt (l ++ [(tm, d)]) j ≠ tm := by
  by_cases e : k = l.length + 1
  · rw [e, tAt_last] at hne; exact absurd rfl hne
  · rw [tAt_app (by omega)] at hne
    rw [tAt_app (by omega)]
    exact own_last h k (by omega) hne j h0 hj
end Go.Proofs.Ytpadpgjkpajfaaa
