/- Rows of nodes, of stores: how they are read. -/
import Derived.Test.YthbkcijkokaoeaaFlM
import Derived.Test.YthbkcijkokaoeaaNfM
import Derived.Test.YthbkcijkokaoeaaMgM
import Derived.Test.YthbkcijkokaoeaaIntS
import Derived.Test.YthbkcijkokaoeaaStrS
namespace Go.Proofs.Ythbkcijkokaoeaa
open Go.ChangeShapes Go.WideShapes Go.ChangeAt Go.RowKit
set_option linter.unusedVariables false
def RD.read (w : World) (r : RD) : Prop := ∃ a cap, r.v = .slice a r.n cap ∧ RowV w a r.xs
theorem RD.read_own {w : World} {lo : Nat} {r : RD} (h : r.own w lo) : r.read w := ownZ_rowV h
theorem RD.read.below {w w' : World} {r : RD} (h : r.read w) (hb : Below w.heap.size w w') : r.read w' := by
  obtain ⟨a, cap, e, hr⟩ := h
  exact ⟨a, cap, e, hr.below hb⟩
/-- A row of records that can be read, with the rows of each. -/
structure RRow {A : Type} (c : A → List Value) (rows : A → List RD) (w : World) (v : Value) (L : List A) : Prop where
  row : ∃ a cap, v = .slice a L.length cap ∧ RowV w a (L.flatMap c)
  ent : ∀ p ∈ L, ∀ r ∈ rows p, r.read w
theorem RRow.below {A : Type} {c : A → List Value} {rows : A → List RD} {w w' : World} {v : Value} {L : List A} (h : RRow c rows w v L) (hb : Below w.heap.size w w') : RRow c rows w' v L := by
  obtain ⟨⟨a, cap, e, hr⟩, he⟩ := h
  exact ⟨⟨a, cap, e, hr.below hb⟩, fun p hp r hr => (he p hp r hr).below hb⟩
theorem RRow.of_own {A : Type} {c : A → List Value} {rows : A → List RD} {w : World} {lo lo2 z : Nat} {t : TypeId} {v : Value} {L : List A} (h : w.ownsRow lo t z v L.length (L.flatMap c)) (hF : FOwn w lo2 (L.flatMap rows)) : RRow c rows w v L :=
  ⟨ownZ_rowV h, fun p hp r hr => RD.read_own (hF.own r (List.mem_flatMap.2 ⟨p, hp, hr⟩))⟩
/-- A node and where its rows lie. -/
structure NdA where
  n : Nf
  ea : Option Addr
  ec : Nat
  va : Option Addr
  vc : Nat
  xa : Option Addr
  xc : Nat
  ga : Option Addr
  gc : Nat
def cN (p : NdA) : List Value := [.int .i64 p.n.id, .int .i64 p.n.nd, .int .i64 p.n.tm, .int .i64 p.n.vt, .int .i64 p.n.ro, .bool p.n.up, .slice p.ea p.n.l.length p.ec, .int .i64 p.n.cm, .int .i64 p.n.el, .int .i64 p.n.wt, .slice p.va p.n.lv.length p.vc, .slice p.xa p.n.lx.length p.xc, .slice p.ga p.n.lg.length p.gc]
def nrows (p : NdA) : List RD := [⟨67, 2, .slice p.ea p.n.l.length p.ec, p.n.l.length, cE p.n.l⟩, ⟨3, 1, .slice p.va p.n.lv.length p.vc, p.n.lv.length, cI p.n.lv⟩, ⟨3, 1, .slice p.xa p.n.lx.length p.xc, p.n.lx.length, cI p.n.lx⟩, ⟨3, 1, .slice p.ga p.n.lg.length p.gc, p.n.lg.length, cI p.n.lg⟩]
def NdA.fits (M : Nat) (p : NdA) : Prop := p.n.l.length ≤ M ∧ p.n.lv.length ≤ M ∧ p.n.lx.length ≤ M ∧ p.n.lg.length ≤ M ∧ ∀ k (h : k < p.n.l.length), p.n.l[k].2.size ≤ M
theorem fits_n {M : Nat} {p q : NdA} (h : p.fits M) (e : p.n = q.n) : q.fits M := by unfold NdA.fits at h ⊢; rw [← e]; exact h
/-- The cells of a node. -/
def N13 (w : World) (b o : Nat) (p : NdA) : Prop := w.cell? ⟨b, o, none⟩ = some (.int .i64 p.n.id) ∧ w.cell? ⟨b, o + 1, none⟩ = some (.int .i64 p.n.nd) ∧ w.cell? ⟨b, o + 2, none⟩ = some (.int .i64 p.n.tm) ∧ w.cell? ⟨b, o + 3, none⟩ = some (.int .i64 p.n.vt) ∧ w.cell? ⟨b, o + 4, none⟩ = some (.int .i64 p.n.ro) ∧ w.cell? ⟨b, o + 5, none⟩ = some (.bool p.n.up) ∧ w.cell? ⟨b, o + 6, none⟩ = some (.slice p.ea p.n.l.length p.ec) ∧ w.cell? ⟨b, o + 7, none⟩ = some (.int .i64 p.n.cm) ∧ w.cell? ⟨b, o + 8, none⟩ = some (.int .i64 p.n.el) ∧ w.cell? ⟨b, o + 9, none⟩ = some (.int .i64 p.n.wt) ∧ w.cell? ⟨b, o + 10, none⟩ = some (.slice p.va p.n.lv.length p.vc) ∧ w.cell? ⟨b, o + 11, none⟩ = some (.slice p.xa p.n.lx.length p.xc) ∧ w.cell? ⟨b, o + 12, none⟩ = some (.slice p.ga p.n.lg.length p.gc)
theorem row_N13 {w : World} {b off : Nat} {L : List NdA} (hc : ∀ i u, (L.flatMap cN)[i]? = some u → w.cell? ⟨b, off + i, none⟩ = some u) (k : Nat) (h : k < L.length) : N13 w b (off + k * 13) L[k] := by
  have q : ∀ j u, j < 13 → (cN L[k])[j]? = some u → w.cell? ⟨b, off + k * 13 + j, none⟩ = some u := fun j u hj hu => by
    rw [Nat.add_assoc]; exact hc _ _ ((flat_at (z := 13) (fun p => rfl) L k h j hj).trans hu)
  exact ⟨q 0 _ (by decide) rfl, q 1 _ (by decide) rfl, q 2 _ (by decide) rfl, q 3 _ (by decide) rfl, q 4 _ (by decide) rfl, q 5 _ (by decide) rfl, q 6 _ (by decide) rfl, q 7 _ (by decide) rfl, q 8 _ (by decide) rfl, q 9 _ (by decide) rfl, q 10 _ (by decide) rfl, q 11 _ (by decide) rfl, q 12 _ (by decide) rfl⟩
theorem N13.below {w w' : World} {b o : Nat} {p : NdA} {B : Nat} (h : N13 w b o p) (hb : Below B w w') (hlt : b < B) : N13 w' b o p := by
  obtain ⟨h0, h1, h2, h3, h4, h5, h6, h7, h8, h9, h10, h11, h12⟩ := h
  have q : ∀ j u, w.cell? ⟨b, j, none⟩ = some u → w'.cell? ⟨b, j, none⟩ = some u := fun j u hu => (hb.cell (p := ⟨b, j, none⟩) hlt).trans hu
  exact ⟨q _ _ h0, q _ _ h1, q _ _ h2, q _ _ h3, q _ _ h4, q _ _ h5, q _ _ h6, q _ _ h7, q _ _ h8, q _ _ h9, q _ _ h10, q _ _ h11, q _ _ h12⟩
theorem nd_rows {w : World} {p : NdA} (h : ∀ r ∈ nrows p, r.read w) : RowV w p.ea (cE p.n.l) ∧ RowV w p.va (cI p.n.lv) ∧ RowV w p.xa (cI p.n.lx) ∧ RowV w p.ga (cI p.n.lg) := by
  have q : ∀ (r : RD) (a : Option Addr) (cap : Nat), r.v = .slice a r.n cap → r ∈ nrows p → RowV w a r.xs := fun r a cap e hr => by
    obtain ⟨a2, c2, e2, h2⟩ := h r hr
    rw [e] at e2
    injection e2 with e2; subst e2; exact h2
  exact ⟨q ⟨67, 2, .slice p.ea p.n.l.length p.ec, p.n.l.length, cE p.n.l⟩ p.ea p.ec rfl (by simp [nrows]), q ⟨3, 1, .slice p.va p.n.lv.length p.vc, p.n.lv.length, cI p.n.lv⟩ p.va p.vc rfl (by simp [nrows]), q ⟨3, 1, .slice p.xa p.n.lx.length p.xc, p.n.lx.length, cI p.n.lx⟩ p.xa p.xc rfl (by simp [nrows]), q ⟨3, 1, .slice p.ga p.n.lg.length p.gc, p.n.lg.length, cI p.n.lg⟩ p.ga p.gc rfl (by simp [nrows])⟩
/-- A store: its bytes, how many are sure. -/
abbrev StA := ByteArray × Int
def cSt (p : StA) : List Value := [.string p.1, .int .i64 p.2]
def norows {A : Type} (_ : A) : List RD := []
/-- The cells of a store. -/
def S2 (w : World) (b o : Nat) (p : StA) : Prop := w.cell? ⟨b, o, none⟩ = some (.string p.1) ∧ w.cell? ⟨b, o + 1, none⟩ = some (.int .i64 p.2)
theorem row_S2 {w : World} {b off : Nat} {L : List StA} (hc : ∀ i u, (L.flatMap cSt)[i]? = some u → w.cell? ⟨b, off + i, none⟩ = some u) (k : Nat) (h : k < L.length) : S2 w b (off + k * 2) L[k] := by
  have q : ∀ j u, j < 2 → (cSt L[k])[j]? = some u → w.cell? ⟨b, off + k * 2 + j, none⟩ = some u := fun j u hj hu => by
    rw [Nat.add_assoc]; exact hc _ _ ((flat_at (z := 2) (fun p => rfl) L k h j hj).trans hu)
  exact ⟨q 0 _ (by decide) rfl, q 1 _ (by decide) rfl⟩
theorem S2.below {w w' : World} {b o : Nat} {p : StA} {B : Nat} (h : S2 w b o p) (hb : Below B w w') (hlt : b < B) : S2 w' b o p := by
  obtain ⟨h0, h1⟩ := h
  have q : ∀ j u, w.cell? ⟨b, j, none⟩ = some u → w'.cell? ⟨b, j, none⟩ = some u := fun j u hu => (hb.cell (p := ⟨b, j, none⟩) hlt).trans hu
  exact ⟨q _ _ h0, q _ _ h1⟩
def mrows (p : MgA) : List RD := [⟨67, 2, sl p, p.1.es.length, cE p.1.es⟩]
def Mg.fits (M : Nat) (p : Mg) : Prop := p.es.length ≤ M ∧ ∀ k (h : k < p.es.length), p.es[k].2.size ≤ M
theorem MRow.of {w : World} {v : Value} {L : List MgA} (h : RRow cM mrows w v L) : MRow w v L := by
  refine ⟨h.row, fun p hp => ?_⟩
  obtain ⟨a, c, e, hr⟩ := h.ent p hp _ (List.mem_singleton.2 rfl)
  unfold sl at e
  injection e with e; subst e; exact hr
theorem MRow.to {w : World} {v : Value} {L : List MgA} (h : MRow w v L) : RRow cM mrows w v L := by
  refine ⟨h.row, fun p hp r hr => ?_⟩
  obtain rfl := List.mem_singleton.1 hr
  exact ⟨p.2.1, p.2.2, rfl, h.ent p hp⟩
theorem fill_set {A : Type} (L : List A) (z p : A) (m : Nat) : (L ++ List.replicate (m + 1) z).set L.length p = (L ++ [p]) ++ List.replicate m z := by
  rw [List.set_append_right _ _ (Nat.le_refl _), Nat.sub_self, List.replicate_succ, List.set_cons_zero]; simp
theorem fill_at {A : Type} (L : List A) (z : A) (m : Nat) (h : L.length < (L ++ List.replicate (m + 1) z).length) : (L ++ List.replicate (m + 1) z)[L.length] = z := by
  rw [List.getElem_append_right (Nat.le_refl _)]; simp
theorem made_flat {A : Type} {c : A → List Value} {k : Nat} (hz : ∀ p, (c p).length = k) (hk : 0 < k) (z : A) (cs : Array Value) (hc : cs.toList = c z) (n : Nat) : (madeCells cs (n * k)).toList = (List.replicate n z).flatMap c := by
  have hl : cs.size = k := by rw [← Array.length_toList, hc, hz]
  apply List.ext_getElem?
  intro j
  by_cases hj : j < n * k
  · have h1 := flat_at hz (List.replicate n z) (j / k) (by rw [List.length_replicate]; exact Nat.div_lt_of_lt_mul (by rw [Nat.mul_comm]; exact hj)) (j % k) (Nat.mod_lt _ hk)
    rw [List.getElem_replicate, show j / k * k + j % k = j from by rw [Nat.mul_comm]; exact Nat.div_add_mod j k] at h1
    rw [h1, ← hc]
    have h2 : j % k < cs.size := by rw [hl]; exact Nat.mod_lt _ hk
    simp [madeCells, hj, hl, getElem!_pos cs (j % k) h2, Array.getElem?_eq_getElem h2]
  · rw [List.getElem?_eq_none (by simp [madeCells]; omega), List.getElem?_eq_none (by rw [flat_len hz, List.length_replicate]; omega)]
end Go.Proofs.Ythbkcijkokaoeaa
