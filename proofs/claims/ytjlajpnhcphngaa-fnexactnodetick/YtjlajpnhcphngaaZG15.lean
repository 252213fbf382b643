/- Texts put together: MsM NnM AdM AnM. -/
import Derived.Test.YtjlajpnhcphngaaZTlM
import Derived.Test.YtjlajpnhcphngaaZG12
import Derived.Test.YtjlajpnhcphngaaZG14
import Derived.Test.YtjlajpnhcphngaaZG1
/- Rows of messages: how they are read, how they are marked. -/
namespace Go.Proofs.Ytjlajpnhcphngaa
open Go.ChangeShapes Go.WideShapes Go.ChangeAt Go.RowKit
set_option linter.unusedVariables false
/-- A row of messages that can be read. -/
structure MRow (w : World) (v : Value) (L : List MgA) : Prop where
  row : ∃ a cap, v = .slice a L.length cap ∧ RowV w a (cMs L)
  ent : ∀ p ∈ L, RowV w p.2.1 (cE p.1.es)
theorem MOwn.read {w : World} {lo : Nat} {v : Value} {L : List MgA} (h : MOwn w lo v L) : MRow w v L := ⟨ownZ_rowV h.row, fun p hp => rowZ_at (h.ent p hp)⟩
theorem MRow.below {w w' : World} {v : Value} {L : List MgA} (h : MRow w v L) (hb : Below w.heap.size w w') : MRow w' v L := by
  obtain ⟨⟨a, cap, e, hr⟩, he⟩ := h
  exact ⟨⟨a, cap, e, hr.below hb⟩, fun p hp => (he p hp).below hb⟩
theorem cMs_at (L : List MgA) (k : Nat) (h : k < L.length) (j : Nat) (hj : j < 9) : (cMs L)[k * 9 + j]? = (cM L[k])[j]? := by
  induction L generalizing k with
  | nil => simp at h
  | cons p L ih =>
    have e : cMs (p :: L) = cM p ++ cMs L := rfl
    have hl : (cM p).length = 9 := rfl
    rw [e]
    cases k with
    | zero => rw [List.getElem?_append_left (by omega)]; simp
    | succ k =>
      rw [List.getElem?_append_right (by omega), hl, show (k + 1) * 9 + j - 9 = k * 9 + j from by omega, ih k (by simpa using h)]
      simp
/-- The nine cells of a message. -/
def M9 (w : World) (b o : Nat) (p : MgA) : Prop := w.cell? ⟨b, o, none⟩ = some (.int .i64 p.1.kd) ∧ w.cell? ⟨b, o + 1, none⟩ = some (.int .i64 p.1.fr) ∧ w.cell? ⟨b, o + 2, none⟩ = some (.int .i64 p.1.dst) ∧ w.cell? ⟨b, o + 3, none⟩ = some (.int .i64 p.1.tm) ∧ w.cell? ⟨b, o + 4, none⟩ = some (.int .i64 p.1.ix) ∧ w.cell? ⟨b, o + 5, none⟩ = some (.int .i64 p.1.lt) ∧ w.cell? ⟨b, o + 6, none⟩ = some (.int .i64 p.1.cm) ∧ w.cell? ⟨b, o + 7, none⟩ = some (.bool p.1.ok) ∧ w.cell? ⟨b, o + 8, none⟩ = some (.slice p.2.1 p.1.es.length p.2.2)
theorem row_msg {w : World} {b off : Nat} {L : List MgA} (hc : ∀ i u, (cMs L)[i]? = some u → w.cell? ⟨b, off + i, none⟩ = some u) (k : Nat) (h : k < L.length) : M9 w b (off + k * 9) L[k] := by
  have q : ∀ j u, j < 9 → (cM L[k])[j]? = some u → w.cell? ⟨b, off + k * 9 + j, none⟩ = some u := fun j u hj hu => by
    rw [Nat.add_assoc]; exact hc _ _ ((cMs_at L k h j hj).trans hu)
  exact ⟨q 0 _ (by decide) rfl, q 1 _ (by decide) rfl, q 2 _ (by decide) rfl, q 3 _ (by decide) rfl, q 4 _ (by decide) rfl, q 5 _ (by decide) rfl, q 6 _ (by decide) rfl, q 7 _ (by decide) rfl, q 8 _ (by decide) rfl⟩
theorem M9.below {w w' : World} {b o : Nat} {p : MgA} {B : Nat} (h : M9 w b o p) (hb : Below B w w') (hlt : b < B) : M9 w' b o p := by
  obtain ⟨h0, h1, h2, h3, h4, h5, h6, h7, h8⟩ := h
  have q : ∀ j u, w.cell? ⟨b, j, none⟩ = some u → w'.cell? ⟨b, j, none⟩ = some u := fun j u hu => (hb.cell (p := ⟨b, j, none⟩) hlt).trans hu
  exact ⟨q _ _ h0, q _ _ h1, q _ _ h2, q _ _ h3, q _ _ h4, q _ _ h5, q _ _ h6, q _ _ h7, q _ _ h8⟩
/-- The marks of a row of entries, as entries. -/
def mkEs (k n : Nat) : List Ent := (List.range n).map fun j => (((k + j * 2 : Nat) : Int), mtS (k + (j * 2 + 1)))
theorem mkEs_len (k n : Nat) : (mkEs k n).length = n := by simp [mkEs]
theorem mkEs_ones (k n : Nat) : cE (mkEs k n) = onesEnt k n := by
  apply List.ext_getElem?
  intro i
  by_cases h : i < n * 2
  · obtain ⟨t, ht⟩ : ∃ t, t = i / 2 := ⟨_, rfl⟩
    have htl : t < (mkEs k n).length := by rw [mkEs_len]; omega
    have hc := cE_at (mkEs k n) t htl
    have hr : (onesEnt k n)[i]? = some (mkE k i) := by unfold onesEnt; rw [List.getElem?_map, List.getElem?_range h]; rfl
    rw [hr]
    have hg : (mkEs k n)[t] = (((k + t * 2 : Nat) : Int), mtS (k + (t * 2 + 1))) := by simp [mkEs]
    rw [hg] at hc
    rcases Nat.mod_two_eq_zero_or_one i with h2 | h2
    · have e : i = t * 2 := by omega
      rw [e, hc.1, mkE_even]
    · have e : i = t * 2 + 1 := by omega
      rw [e, hc.2, mkE_odd]
  · rw [List.getElem?_eq_none (by rw [cE_len, mkEs_len]; omega), List.getElem?_eq_none (by unfold onesEnt; simp; omega)]
def okM (k : Nat) : Bool := (k : Int) % 3 == 0
/-- A message marked from k on. -/
def mkMg (k : Nat) (p : MgA) : MgA := (⟨((k : Nat) : Int), ((k + 1 : Nat) : Int), ((k + 2 : Nat) : Int), ((k + 3 : Nat) : Int), ((k + 4 : Nat) : Int), ((k + 5 : Nat) : Int), ((k + 6 : Nat) : Int), okM (k + 7), mkEs (k + 8) p.1.es.length⟩, p.2)
theorem sl_mk (k : Nat) (p : MgA) : sl (mkMg k p) = sl p := by unfold sl mkMg; simp only [mkEs_len]
/-- Where the marks of message t begin. -/
def kAt (k : Nat) : List MgA → Nat → Nat
  | _, 0 => k
  | [], _ + 1 => k
  | p :: L, t + 1 => kAt (k + 8 + p.1.es.length * 2) L t
def markL (k : Nat) : List MgA → List MgA
  | [] => []
  | p :: L => mkMg k p :: markL (k + 8 + p.1.es.length * 2) L
theorem markL_len (k : Nat) (L : List MgA) : (markL k L).length = L.length := by
  induction L generalizing k with
  | nil => rfl
  | cons p L ih => simp [markL, ih]
theorem markL_at (k : Nat) (L : List MgA) (t : Nat) (h : t < L.length) : (markL k L)[t]'(by rw [markL_len]; exact h) = mkMg (kAt k L t) L[t] := by
  induction L generalizing k t with
  | nil => simp at h
  | cons p L ih =>
    cases t with
    | zero => rfl
    | succ t => simp only [markL, List.getElem_cons_succ, kAt]; exact ih _ t (by simpa using h)
theorem kAt_succ (k : Nat) (L : List MgA) (t : Nat) (h : t < L.length) : kAt k L (t + 1) = kAt k L t + 8 + L[t].1.es.length * 2 := by
  induction L generalizing k t with
  | nil => simp at h
  | cons p L ih =>
    cases t with
    | zero => cases L <;> rfl
    | succ t => simp only [kAt, List.getElem_cons_succ]; exact ih _ t (by simpa using h)
theorem kAt_le (k : Nat) (L : List MgA) : ∀ s t, s ≤ t → t ≤ L.length → kAt k L s ≤ kAt k L t
  | s, 0, h, _ => by rw [Nat.le_zero.1 h]; exact Nat.le_refl _
  | s, t + 1, h, hl => by
    by_cases e : s = t + 1
    · rw [e]; exact Nat.le_refl _
    · have h1 := kAt_le k L s t (by omega) (by omega)
      rw [kAt_succ k L t (by omega)]; omega
/-- The first j cells as they become, the others as they were. -/
def mix (xs ys : List Value) (j : Nat) : List Value := ys.take j ++ xs.drop j
theorem mix_zero (xs ys : List Value) : mix xs ys 0 = xs := by simp [mix]
theorem mix_all (xs ys : List Value) (j : Nat) (h : xs.length ≤ j) (h2 : ys.length ≤ j) : mix xs ys j = ys := by simp [mix, List.take_of_length_le h2, List.drop_of_length_le h]
theorem mix_at (xs ys : List Value) (j : Nat) (h : j ≤ ys.length) : (mix xs ys j)[j]? = xs[j]? := by
  unfold mix
  rw [List.getElem?_append_right (by simp; omega), List.length_take, Nat.min_eq_left h, Nat.sub_self, List.getElem?_drop]
  simp
theorem mix_set (xs ys : List Value) (j : Nat) (u : Value) (hx : j < xs.length) (hy : ys[j]? = some u) : (mix xs ys j).set j u = mix xs ys (j + 1) := by
  have hyl : j < ys.length := by
    rcases Nat.lt_or_ge j ys.length with h | h
    · exact h
    · rw [List.getElem?_eq_none h] at hy; cases hy
  have hg : ys[j] = u := by rw [List.getElem?_eq_getElem hyl] at hy; exact Option.some.inj hy
  unfold mix
  rw [List.set_append_right _ _ (by simp; omega), List.length_take, Nat.min_eq_left (Nat.le_of_lt hyl), Nat.sub_self, List.drop_eq_getElem_cons hx, List.set_cons_zero, List.take_succ_eq_append_getElem hyl, hg]
  simp
theorem mix_same (xs ys : List Value) (j : Nat) (hx : j < xs.length) (hy : ys[j]? = xs[j]?) : mix xs ys j = mix xs ys (j + 1) := by
  rw [List.getElem?_eq_getElem hx] at hy
  have := mix_set xs ys j _ hx hy
  rw [← this]
  have hm := mix_at xs ys j (by rcases Nat.lt_or_ge j ys.length with h | h; exact Nat.le_of_lt h; rw [List.getElem?_eq_none h] at hy; cases hy)
  rw [List.getElem?_eq_getElem hx] at hm
  obtain ⟨hl, hv⟩ := List.getElem?_eq_some_iff.1 hm
  rw [← hv, List.set_getElem_self]
end Go.Proofs.Ytjlajpnhcphngaa

/- What a new node is. -/
namespace Go.Proofs.Ytjlajpnhcphngaa
open Go.ChangeShapes Go.WideShapes Go.ChangeAt Go.RowKit
set_option linter.unusedVariables false
def NewIs (id nd : Int) (i0 i1 i3 i9 : Int) (u : Bool) (lx lg : List Int) (c : Int) : Prop :=
  if inB nd 1 5 && inB id 0 (nd - 1) then i0 = id ∧ i1 = nd ∧ i3 = -1 ∧ i9 = 5 + id ∧ u = true ∧ lx = List.replicate nd.toNat 1 ∧ lg = List.replicate nd.toNat 0 ∧ c = 0
  else i0 = 0 ∧ i1 = 0 ∧ i3 = 0 ∧ i9 = 0 ∧ u = false ∧ lx = [] ∧ lg = [] ∧ c = 4
def Apart (lo hi l0 h0 l1 h1 l2 h2 l3 h3 : Nat) : Prop := (h0 ≤ l1 ∨ h1 ≤ l0) ∧ (h0 ≤ l2 ∨ h2 ≤ l0) ∧ (h0 ≤ l3 ∨ h3 ≤ l0) ∧ (h1 ≤ l2 ∨ h2 ≤ l1) ∧ (h1 ≤ l3 ∨ h3 ≤ l1) ∧ (h2 ≤ l3 ∨ h3 ≤ l2) ∧ lo ≤ l0 ∧ h0 ≤ hi ∧ lo ≤ l1 ∧ h1 ≤ hi ∧ lo ≤ l2 ∧ h2 ≤ hi ∧ lo ≤ l3 ∧ h3 ≤ hi
/-- A node that was answered, with its rows. -/
def NewTo (w w' : World) (e : Ending) (i0 i1 i3 i9 : Int) (u : Bool) (lx lg : List Int) (nx ng : Nat) (c : Int) : Prop :=
  ∃ a cap av cv ax cx ag cg l0 h0 l1 h1 l2 h2 l3 h3, e = .returned (.tuple #[.agg #[.int .i64 i0, .int .i64 i1, .int .i64 0, .int .i64 i3, .int .i64 0, .bool u, .slice a 0 cap, .int .i64 0, .int .i64 0, .int .i64 i9, .slice av 0 cv, .slice ax nx cx, .slice ag ng cg], .int .i64 c]) ∧ (HeldZ 2 w' l0 h0 68 (.slice a 0 cap) 0 [] ∧ Held w' l1 h1 3 (.slice av 0 cv) 0 [] ∧ Held w' l2 h2 3 (.slice ax nx cx) nx (cI lx) ∧ Held w' l3 h3 3 (.slice ag ng cg) ng (cI lg)) ∧ Apart w.heap.size w'.heap.size l0 h0 l1 h1 l2 h2 l3 h3
theorem heldZ_nil {z : Nat} (w : World) (lo hi : Nat) (e : TypeId) (h : hi ≤ w.heap.size) : HeldZ z w lo hi e (.slice none 0 0) 0 [] := ⟨World.ownsRow_nil _ _ _ _, (fun k hk => by cases hk), h⟩
theorem held_nil (w : World) (lo hi : Nat) (e : TypeId) (h : hi ≤ w.heap.size) : Held w lo hi e (.slice none 0 0) 0 [] := ⟨World.ownsRow_nil _ _ _ _, (fun k hk => by cases hk), h⟩
end Go.Proofs.Ytjlajpnhcphngaa

/- How far a leader knows to be committed. Plain mathematics. -/
namespace Go.Proofs.Ytjlajpnhcphngaa
open Go.ChangeShapes Go.WideShapes Go.ChangeAt Go.RowKit
set_option linter.unusedVariables false
/-- The last place up to k above c with an entry of the term tm that more than half have; c if there is none. -/
def advN (id tm : Int) (nd : Nat) (l : List Ent) (lg : List Int) (c : Nat) : Nat → Nat
  | 0 => c
  | k + 1 => if k + 1 ≤ c then c else if tAt l (k + 1) = tm ∧ nd < 2 * holds id ((k + 1 : Nat) : Int) lg then k + 1 else advN id tm nd l lg c k
theorem advN_end {id tm : Int} {nd : Nat} {l : List Ent} {lg : List Int} {c k : Nat} (h : k ≤ c) : advN id tm nd l lg c k = c := by
  cases k with
  | zero => rfl
  | succ k => simp only [advN, if_pos h]
theorem advN_hit {id tm : Int} {nd : Nat} {l : List Ent} {lg : List Int} {c k : Nat} (h : ¬ k + 1 ≤ c) (h1 : tAt l (k + 1) = tm) (h2 : nd < 2 * holds id ((k + 1 : Nat) : Int) lg) : advN id tm nd l lg c (k + 1) = k + 1 := by
  simp only [advN, if_neg h]; rw [if_pos ⟨h1, h2⟩]
theorem advN_miss {id tm : Int} {nd : Nat} {l : List Ent} {lg : List Int} {c k : Nat} (h : ¬ k + 1 ≤ c) (h1 : ¬ (tAt l (k + 1) = tm ∧ nd < 2 * holds id ((k + 1 : Nat) : Int) lg)) : advN id tm nd l lg c (k + 1) = advN id tm nd l lg c k := by
  simp only [advN, if_neg h]; rw [if_neg h1]
theorem holds_le (id p : Int) (l : List Int) : holds id p l ≤ 1 + l.length := by unfold holds; have := holdA_le id p l 0; omega
end Go.Proofs.Ytjlajpnhcphngaa

/- Answers that hold a node and messages. -/
namespace Go.Proofs.Ytjlajpnhcphngaa
open Go.ChangeShapes Go.WideShapes Go.ChangeAt Go.RowKit
set_option linter.unusedVariables false
structure Nf where
  id : Int
  nd : Int
  tm : Int
  vt : Int
  ro : Int
  up : Bool
  l : List Ent
  cm : Int
  el : Int
  wt : Int
  lv : List Int
  lx : List Int
  lg : List Int
def nfZ : Nf := ⟨0, 0, 0, 0, 0, false, [], 0, 0, 0, [], [], []⟩
def nfB (N : Nf) : Bool := nodeB N.id N.nd N.tm N.vt N.ro N.cm N.el N.wt N.up N.l N.lv N.lx N.lg
/-- An answer of the program: every row its own. -/
def PAns (w w' : World) (e : Ending) (N : Nf) (M : List Mg) (c : Int) : Prop :=
  ∃ eA eC vA vC xA xC gA gC l0 h0 l1 h1 l2 h2 l3 h3 vm L lom, e = .returned (.tuple #[.agg #[.int .i64 N.id, .int .i64 N.nd, .int .i64 N.tm, .int .i64 N.vt, .int .i64 N.ro, .bool N.up, .slice eA N.l.length eC, .int .i64 N.cm, .int .i64 N.el, .int .i64 N.wt, .slice vA N.lv.length vC, .slice xA N.lx.length xC, .slice gA N.lg.length gC], vm, .int .i64 c]) ∧ (HeldZ 2 w' l0 h0 68 (.slice eA N.l.length eC) N.l.length (cE N.l) ∧ Held w' l1 h1 3 (.slice vA N.lv.length vC) N.lv.length (cI N.lv) ∧ Held w' l2 h2 3 (.slice xA N.lx.length xC) N.lx.length (cI N.lx) ∧ Held w' l3 h3 3 (.slice gA N.lg.length gC) N.lg.length (cI N.lg)) ∧ Apart w.heap.size lom l0 h0 l1 h1 l2 h2 l3 h3 ∧ (w.heap.size ≤ lom ∧ lom ≤ w'.heap.size) ∧ L.map (·.1) = M ∧ MOwn w' lom vm L
/-- An answer of the specification: every row can be read. -/
def SAns (w' : World) (e : Ending) (N : Nf) (M : List Mg) (c : Int) : Prop :=
  ∃ eA eC vA vC xA xC gA gC vm L, e = .returned (.tuple #[.agg #[.int .i64 N.id, .int .i64 N.nd, .int .i64 N.tm, .int .i64 N.vt, .int .i64 N.ro, .bool N.up, .slice eA N.l.length eC, .int .i64 N.cm, .int .i64 N.el, .int .i64 N.wt, .slice vA N.lv.length vC, .slice xA N.lx.length xC, .slice gA N.lg.length gC], vm, .int .i64 c]) ∧ (RowV w' eA (cE N.l) ∧ RowV w' vA (cI N.lv) ∧ RowV w' xA (cI N.lx) ∧ RowV w' gA (cI N.lg)) ∧ L.map (·.1) = M ∧ MRow w' vm L
theorem pans_zero {w w' : World} (c : Int) (h : w.heap.size ≤ w'.heap.size) : PAns w w' (.returned (.tuple #[.agg #[.int .i64 0, .int .i64 0, .int .i64 0, .int .i64 0, .int .i64 0, .bool false, .slice none 0 0, .int .i64 0, .int .i64 0, .int .i64 0, .slice none 0 0, .slice none 0 0, .slice none 0 0], .slice none 0 0, .int .i64 c])) nfZ [] c :=
  ⟨none, 0, none, 0, none, 0, none, 0, w.heap.size, w.heap.size, w.heap.size, w.heap.size, w.heap.size, w.heap.size, w.heap.size, w.heap.size, .slice none 0 0, [], w.heap.size, rfl, ⟨heldZ_nil _ _ _ _ h, held_nil _ _ _ _ h, held_nil _ _ _ _ h, held_nil _ _ _ _ h⟩, by unfold Apart; omega, ⟨Nat.le_refl _, h⟩, rfl, MOwn.nil _ _⟩
def jOf (lx : List Int) (t : Nat) : Nat := (lx.getD t 1 - 1).toNat
theorem plB_at {n : Int} : ∀ (lx lg : List Int), plB n lx lg = true → lx.length = lg.length → ∀ t (h : t < lx.length), 1 ≤ lx[t] ∧ lx[t] ≤ n + 1
  | [], _, _, _, t, h => by simp at h
  | x :: lx, [], _, hl, _, _ => by simp at hl
  | x :: lx, g :: lg, hb, hl, t, h => by
    unfold plB at hb
    simp only [Bool.and_eq_true] at hb
    cases t with
    | zero => have := hb.1.1; unfold inB at this; simpa using this
    | succ t => exact plB_at lx lg hb.2 (by simpa using hl) t (by simpa using h)
/-- What is known of a right node. -/
theorem nf_parts {N : Nf} (h : nfB N = true) : ∃ nd c : Nat, N.nd = (nd : Int) ∧ N.cm = (c : Int) ∧ nd ≤ 5 ∧ 1 ≤ nd ∧ c ≤ N.l.length ∧ N.l.length ≤ 60 ∧ N.lx.length = nd ∧ N.lg.length = nd ∧ (∀ t (h : t < N.lx.length), N.lx[t] = (jOf N.lx t : Int) + 1 ∧ jOf N.lx t ≤ N.l.length) ∧ logB N.tm 1 N.l = true ∧ (0 ≤ N.tm ∧ N.tm ≤ 1000) ∧ (0 ≤ N.id ∧ N.id < N.nd) ∧ (0 ≤ N.el ∧ N.el ≤ 1000) ∧ upB N.nd 0 N.lv = true := by
  unfold nfB nodeB at h
  simp only [Bool.and_eq_true] at h
  obtain ⟨⟨⟨⟨⟨⟨⟨⟨⟨h0, h1⟩, h2⟩, h3⟩, h4⟩, h5⟩, h6⟩, h7⟩, h8⟩, h9⟩ := h
  obtain ⟨s1, s2, s3, s4⟩ := state_parts h3
  unfold placesB at h9
  simp only [Bool.and_eq_true, decide_eq_true_eq] at h9
  obtain ⟨⟨p1, p2⟩, p3⟩ := h9
  unfold inB at h0 h5 h1 h6
  simp at h0 h5 h1 h6
  refine ⟨N.nd.toNat, N.cm.toNat, by omega, by omega, by omega, by omega, by omega, s3, by omega, by omega, fun t ht => ?_, s4, s1, by omega, by omega, h8⟩
  have hp := plB_at N.lx N.lg p3 (by omega) t ht
  have hg : N.lx.getD t 1 = N.lx[t] := by simp [List.getD_eq_getElem?_getD, List.getElem?_eq_getElem ht]
  unfold jOf
  rw [hg]
  omega
theorem logB_sorted {T : Int} : ∀ (l : List Ent) (p : Int), logB T p l = true → ∀ i j (hi : i < l.length) (hj : j < l.length), i ≤ j → p ≤ l[i].1 ∧ l[i].1 ≤ l[j].1 ∧ l[j].1 ≤ T
  | [], _, _, i, _, hi, _, _ => by simp at hi
  | e :: l, p, h, i, j, hi, hj, hij => by
    unfold logB entB inB at h
    simp only [Bool.and_eq_true, decide_eq_true_eq] at h
    obtain ⟨⟨⟨h1, h2⟩, h3⟩, h4⟩ := h
    cases i with
    | zero =>
      cases j with
      | zero => exact ⟨h1, Int.le_refl _, h2⟩
      | succ j =>
        have := logB_sorted l e.1 h4 j j (by simpa using hj) (by simpa using hj) (Nat.le_refl _)
        exact ⟨h1, this.1, this.2.2⟩
    | succ i =>
      cases j with
      | zero => omega
      | succ j =>
        have := logB_sorted l e.1 h4 i j (by simpa using hi) (by simpa using hj) (by omega)
        exact ⟨Int.le_trans h1 this.1, this.2⟩
theorem tAt_app {l : List Ent} {e : Ent} {k : Nat} (h : k ≤ l.length) : tAt (l ++ [e]) k = tAt l k := by
  cases k with
  | zero => rw [tAt_zero, tAt_zero]
  | succ k => rw [tAt_succ _ k (by simp; omega), tAt_succ l k h, List.getElem_append_left h]
theorem tAt_last {l : List Ent} {e : Ent} : tAt (l ++ [e]) (l.length + 1) = e.1 := by
  rw [tAt_succ _ l.length (by simp)]; simp
/-- In a right log the entries of the own term are the last ones. -/
theorem own_last {l : List Ent} {tm : Int} (h : logB tm 1 l = true) (k : Nat) (hk : k ≤ l.length) (hne : tAt l k ≠ tm) (j : Nat) (h0 : 0 < j) (hj : j ≤ k) : tAt l j ≠ tm := by
  obtain ⟨k', rfl⟩ : ∃ k', k = k' + 1 := ⟨k - 1, by omega⟩
  obtain ⟨j', rfl⟩ : ∃ j', j = j' + 1 := ⟨j - 1, by omega⟩
  have hs := logB_sorted l 1 h j' k' (by omega) (by omega) (by omega)
  rw [tAt_succ l k' (by omega)] at hne
  rw [tAt_succ l j' (by omega)]
  omega
theorem own_lastA {l : List Ent} {tm : Int} {d : ByteArray} (h : logB tm 1 l = true) (k : Nat) (hk : k ≤ l.length + 1) (hne : tAt (l ++ [(tm, d)]) k ≠ tm) (j : Nat) (h0 : 0 < j) (hj : j ≤ k) : tAt (l ++ [(tm, d)]) j ≠ tm := by
  by_cases e : k = l.length + 1
  · rw [e, tAt_last] at hne; exact absurd rfl hne
  · rw [tAt_app (by omega)] at hne
    rw [tAt_app (by omega)]
    exact own_last h k (by omega) hne j h0 hj
end Go.Proofs.Ytjlajpnhcphngaa
