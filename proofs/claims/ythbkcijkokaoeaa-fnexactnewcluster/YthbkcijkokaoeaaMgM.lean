/- Rows of messages, each with its entries in a row of its own: how they are read. -/
import Derived.Test.YthbkcijkokaoeaaSteM
import Derived.Test.YthbkcijkokaoeaaEntM
namespace Go.Proofs.Ythbkcijkokaoeaa
open Go.ChangeShapes Go.WideShapes Go.ChangeAt Go.RowKit
set_option linter.unusedVariables false
structure Mg where
  kd : Int
  fr : Int
  dst : Int
  tm : Int
  ix : Int
  lt : Int
  cm : Int
  ok : Bool
  es : List Ent
/-- A message and where its entries lie. -/
abbrev MgA := Mg × Option Addr × Nat
def sl (p : MgA) : Value := .slice p.2.1 p.1.es.length p.2.2
def cM (p : MgA) : List Value := [.int .i64 p.1.kd, .int .i64 p.1.fr, .int .i64 p.1.dst, .int .i64 p.1.tm, .int .i64 p.1.ix, .int .i64 p.1.lt, .int .i64 p.1.cm, .bool p.1.ok, sl p]
def cMs (L : List MgA) : List Value := L.flatMap cM
theorem cMs_app (L M : List MgA) : cMs (L ++ M) = cMs L ++ cMs M := by simp [cMs]
theorem cMs_one1 (p : MgA) : cMs [p] = cM p := by simp [cMs]
theorem cMs_len (L : List MgA) : (cMs L).length = L.length * 9 := by
  induction L with
  | nil => rfl
  | cons p L ih => show (cM p ++ cMs L).length = _; rw [List.length_append, ih]; simp [cM]; omega
theorem cM_one (p : MgA) : ∀ u ∈ cM p, u.oneCell' = true := by
  intro u hu
  simp [cM, sl] at hu
  rcases hu with rfl | rfl | rfl | rfl | rfl | rfl | rfl | rfl | rfl <;> rfl
/-- A row of messages that can be read. -/
structure MRow (w : World) (v : Value) (L : List MgA) : Prop where
  row : ∃ a cap, v = .slice a L.length cap ∧ RowV w a (cMs L)
  ent : ∀ p ∈ L, RowV w p.2.1 (cE p.1.es)
theorem MRow.below {w w' : World} {v : Value} {L : List MgA} (h : MRow w v L) (hb : Below w.heap.size w w') : MRow w' v L := by
  obtain ⟨⟨a, cap, e, hr⟩, he⟩ := h
  exact ⟨⟨a, cap, e, hr.below hb⟩, fun p hp => (he p hp).below hb⟩
theorem cMs_at (L : List MgA) (k : Nat) (h : k < L.length) (j : Nat) (hj : j < 9) : (cMs L)[k * 9 + j]? = (cM L[k])[j]? := by
  induction L generalizing k with
  | nil => simp at h
  | cons p L ih =>
    have e : cMs (p :: L) = cM p ++ cMs L := rfl
    have hl : (cM p).length = 9 := rfl
    rw [e]
    cases k with
    | zero => rw [List.getElem?_append_left (by omega)]; simp
    | succ k =>
      rw [List.getElem?_append_right (by omega), hl, show (k + 1) * 9 + j - 9 = k * 9 + j from by omega, ih k (by simpa using h)]
      simp
/-- The nine cells of a message. -/
def M9 (w : World) (b o : Nat) (p : MgA) : Prop := w.cell? ⟨b, o, none⟩ = some (.int .i64 p.1.kd) ∧ w.cell? ⟨b, o + 1, none⟩ = some (.int .i64 p.1.fr) ∧ w.cell? ⟨b, o + 2, none⟩ = some (.int .i64 p.1.dst) ∧ w.cell? ⟨b, o + 3, none⟩ = some (.int .i64 p.1.tm) ∧ w.cell? ⟨b, o + 4, none⟩ = some (.int .i64 p.1.ix) ∧ w.cell? ⟨b, o + 5, none⟩ = some (.int .i64 p.1.lt) ∧ w.cell? ⟨b, o + 6, none⟩ = some (.int .i64 p.1.cm) ∧ w.cell? ⟨b, o + 7, none⟩ = some (.bool p.1.ok) ∧ w.cell? ⟨b, o + 8, none⟩ = some (.slice p.2.1 p.1.es.length p.2.2)
theorem row_msg {w : World} {b off : Nat} {L : List MgA} (hc : ∀ i u, (cMs L)[i]? = some u → w.cell? ⟨b, off + i, none⟩ = some u) (k : Nat) (h : k < L.length) : M9 w b (off + k * 9) L[k] := by
  have q : ∀ j u, j < 9 → (cM L[k])[j]? = some u → w.cell? ⟨b, off + k * 9 + j, none⟩ = some u := fun j u hj hu => by
    rw [Nat.add_assoc]; exact hc _ _ ((cMs_at L k h j hj).trans hu)
  exact ⟨q 0 _ (by decide) rfl, q 1 _ (by decide) rfl, q 2 _ (by decide) rfl, q 3 _ (by decide) rfl, q 4 _ (by decide) rfl, q 5 _ (by decide) rfl, q 6 _ (by decide) rfl, q 7 _ (by decide) rfl, q 8 _ (by decide) rfl⟩
theorem M9.below {w w' : World} {b o : Nat} {p : MgA} {B : Nat} (h : M9 w b o p) (hb : Below B w w') (hlt : b < B) : M9 w' b o p := by
  obtain ⟨h0, h1, h2, h3, h4, h5, h6, h7, h8⟩ := h
  have q : ∀ j u, w.cell? ⟨b, j, none⟩ = some u → w'.cell? ⟨b, j, none⟩ = some u := fun j u hu => (hb.cell (p := ⟨b, j, none⟩) hlt).trans hu
  exact ⟨q _ _ h0, q _ _ h1, q _ _ h2, q _ _ h3, q _ _ h4, q _ _ h5, q _ _ h6, q _ _ h7, q _ _ h8⟩
end Go.Proofs.Ythbkcijkokaoeaa
