/- Rows of messages, each with its entries in a row of its own. -/
import Derived.Test.YtjlajpnhcphngaaZNpJ
namespace Go.Proofs.Ytjlajpnhcphngaa
open Go.ChangeShapes Go.WideShapes Go.ChangeAt Go.RowKit
set_option linter.unusedVariables false
structure Mg where
  kd : Int
  fr : Int
  dst : Int
  tm : Int
  ix : Int
  lt : Int
  cm : Int
  ok : Bool
  es : List Ent
/-- A message and where its entries lie. -/
abbrev MgA := Mg × Option Addr × Nat
def sl (p : MgA) : Value := .slice p.2.1 p.1.es.length p.2.2
def cM (p : MgA) : List Value := [.int .i64 p.1.kd, .int .i64 p.1.fr, .int .i64 p.1.dst, .int .i64 p.1.tm, .int .i64 p.1.ix, .int .i64 p.1.lt, .int .i64 p.1.cm, .bool p.1.ok, sl p]
def cMs (L : List MgA) : List Value := L.flatMap cM
theorem cMs_app (L M : List MgA) : cMs (L ++ M) = cMs L ++ cMs M := by simp [cMs]
theorem cMs_one1 (p : MgA) : cMs [p] = cM p := by simp [cMs]
theorem cMs_len (L : List MgA) : (cMs L).length = L.length * 9 := by
  induction L with
  | nil => rfl
  | cons p L ih => show (cM p ++ cMs L).length = _; rw [List.length_append, ih]; simp [cM]; omega
theorem cM_one (p : MgA) : ∀ u ∈ cM p, u.oneCell' = true := by
  intro u hu
  simp [cM, sl] at hu
  rcases hu with rfl | rfl | rfl | rfl | rfl | rfl | rfl | rfl | rfl <;> rfl
/-- A row of messages that is owned, its entries' rows too, all apart. -/
structure MOwn (w : World) (lo : Nat) (v : Value) (L : List MgA) : Prop where
  row : w.ownsRow lo 54 9 v L.length (cMs L)
  ent : ∀ p ∈ L, w.ownsRow lo 68 2 (sl p) p.1.es.length (cE p.1.es)
  apart : L.Pairwise (fun p q => ∀ j, (sl p).ownBlock = some j → (sl q).ownBlock ≠ some j)
  off : ∀ p ∈ L, ∀ j, (sl p).ownBlock = some j → v.ownBlock ≠ some j
theorem own_grown {w w' : World} {base : Nat} {e : TypeId} {z : Nat} {v : Value} {n : Nat} {xs : List Value} {row : Option Nat} (h : w.ownsRow base e z v n xs) (hg : w.grownBy w' row) (hne : ∀ j, v.ownBlock = some j → row ≠ some j) : w'.ownsRow base e z v n xs := by
  have hlt := h.lt
  obtain ⟨h1, h2⟩ := h
  refine ⟨h1, ?_⟩
  rcases h2 with h2 | ⟨g, cap, cur, rfl, hbg, hgc, hrest⟩
  · exact .inl h2
  · exact .inr ⟨g, cap, cur, rfl, hbg, (hg.block g (hlt g rfl).2 (fun e => hne g rfl e.symm)).trans hgc, hrest⟩
theorem MOwn.nil (w : World) (lo : Nat) : MOwn w lo (.slice none 0 0) [] :=
  ⟨World.ownsRow_nil _ _ _ _, (fun p h => by cases h), List.Pairwise.nil, (fun p h => by cases h)⟩
theorem MOwn.below {w w' : World} {lo : Nat} {v : Value} {L : List MgA} (h : MOwn w lo v L) (hb : Below w.heap.size w w') : MOwn w' lo v L :=
  ⟨((heldZ_of h.row).below hb (Nat.le_refl _)).own, fun p hp => ((heldZ_of (h.ent p hp)).below hb (Nat.le_refl _)).own, h.apart, h.off⟩
theorem MOwn.low {w : World} {lo lo2 : Nat} {v : Value} {L : List MgA} (h : MOwn w lo v L) (hb : lo2 ≤ lo) : MOwn w lo2 v L :=
  ⟨own_low h.row hb, fun p hp => own_low (h.ent p hp) hb, h.apart, h.off⟩
theorem MOwn.snoc {w0 w w' : World} {lo : Nat} {v : Value} {L : List MgA} {p : MgA} {g cap : Nat} (h : MOwn w lo v L) (hlt : ∀ q ∈ L, ∀ j, (sl q).ownBlock = some j → j < w0.heap.size) (hv : ∀ j, v.ownBlock = some j → j < w0.heap.size) (hp : w.ownsRow lo 68 2 (sl p) p.1.es.length (cE p.1.es)) (hf : ∀ j, (sl p).ownBlock = some j → w0.heap.size ≤ j) (hg : w.grownBy w' v.ownBlock) (ho : w'.ownsRow lo 54 9 (.slice (some ⟨g, 0, none⟩) (L.length + 1) cap) (L.length + 1) (cMs L ++ cM p)) (hat : v.ownBlock = some g ∨ g = w.heap.size) : MOwn w' lo (.slice (some ⟨g, 0, none⟩) (L.length + 1) cap) (L ++ [p]) := by
  refine ⟨?_, ?_, ?_, ?_⟩
  · rw [cMs_app, cMs_one1, List.length_append]; exact ho
  · intro q hq
    rcases List.mem_append.1 hq with hq | hq
    · exact own_grown (h.ent q hq) hg (fun j hj => h.off q hq j hj)
    · obtain rfl : q = p := by simpa using hq
      exact own_grown hp hg (fun j hj e => by have := hf j hj; have := hv j e; omega)
  · rw [List.pairwise_append]
    refine ⟨h.apart, by simp, fun a ha b hb j hj => ?_⟩
    obtain rfl : b = p := by simpa using hb
    intro e
    have := hlt a ha j hj; have := hf j e; omega
  · intro q hq j hj e
    have e1 : g = j := Option.some.inj e
    subst e1
    rcases List.mem_append.1 hq with hq | hq
    · rcases hat with h1 | h1
      · exact h.off q hq g hj h1
      · have := ((h.ent q hq).lt g hj).2; omega
    · obtain rfl : q = p := by simpa using hq
      rcases hat with h1 | h1
      · have := hf g hj; have := hv g h1; omega
      · have := (hp.lt g hj).2; omega
/-- What a node tells node t. -/
def tellM (id tm cm : Int) (l : List Ent) (J : Nat → Nat) (t : Nat) : Mg := ⟨3, id, (t : Int), tm, (J t : Int), tAt l (J t), cm, false, l.drop (J t)⟩
/-- What it tells those below t, itself left out. -/
def tls (id tm cm : Int) (l : List Ent) (J : Nat → Nat) (t : Nat) : List Mg := ((List.range t).filter fun (u : Nat) => decide ((u : Int) ≠ id)).map (tellM id tm cm l J)
theorem tls_self {id tm cm : Int} {l : List Ent} {J : Nat → Nat} {t : Nat} (h : (t : Int) = id) : tls id tm cm l J (t + 1) = tls id tm cm l J t := by
  unfold tls; rw [List.range_succ, List.filter_append]; simp [h]
theorem tls_snoc {id tm cm : Int} {l : List Ent} {J : Nat → Nat} {t : Nat} (h : ¬ (t : Int) = id) : tls id tm cm l J (t + 1) = tls id tm cm l J t ++ [tellM id tm cm l J t] := by
  unfold tls; rw [List.range_succ, List.filter_append, List.map_append]; simp [h]
theorem tls_len (id tm cm : Int) (l : List Ent) (J : Nat → Nat) (t : Nat) : (tls id tm cm l J t).length ≤ t := by
  unfold tls; rw [List.length_map]
  exact Nat.le_trans (List.length_filter_le _ _) (by simp)
end Go.Proofs.Ytjlajpnhcphngaa
