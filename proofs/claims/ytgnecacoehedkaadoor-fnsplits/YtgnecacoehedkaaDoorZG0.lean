/- Texts put together: Base ArrM. -/
import Derived.OrdersHeld
import Derived.Test.YtgnecacoehedkaaDoorRows
import Derived.WalkKit
import Derived.ProofKit
import Derived.OpenShut
import Derived.ShutString
import Derived.WalkSpells
import Derived.WalkLawsBesides
import Derived.Deep.RegionHeld3
import Derived.Deep.AppendLies
import Derived.Laws.IdiomStrings
import Derived.Laws.OwnMore
import Derived.Deep.MidRow
import Derived.WalkSmall
import Derived.Deep.QuietTactic
import Derived.BigQuiet
/- Small laws on bytes, rows that a call owns and endings, for the walks of this seat. -/
namespace Go.Proofs.YtgnecacoehedkaaDoor
open Go.ChangeShapes Go.WideShapes Go.ChangeAt Go.RowKit
theorem hide {p : Prop} (h : p) : Hid p := h
theorem unhide {p : Prop} (h : Hid p) : p := h
theorem ret_bool {a b : Bool} (h : a = b) : Ending.returned (.bool a) = .returned (.bool b) := by rw [h]
/-- The cells of bytes. -/
def B8 (l : List UInt8) : List Value := l.map fun c => Value.int .u8 (c.toNat : Int)
theorem B8_len (l : List UInt8) : (B8 l).length = l.length := by simp [B8]
theorem wrapi (n : Int) (h0 : -4611686018427387904 ≤ n) (h1 : n ≤ 4611686018427387904) : IntKind.i64.wrap n = n := by
 simp only [IntKind.wrap, IntKind.signed, IntKind.bits]
 simp
 omega

def bAt (s : ByteArray) (i : Nat) : Int := if h : i < s.size then (s[i].toNat : Int) else 0
/-- The cells of a block that was just made. -/
theorem news_new (w : World) (cs : List Value) (t : TypeId) : ∀ j u, cs[j]? = some u → (w.alloc (.cells cs.toArray t)).cell? ((⟨w.heap.size, 0, none⟩ : Addr).add j) = some u := by
 refine World.news_of_block (cs := cs.toArray) (t := t) (fr := (0, 0)) ?_
 show (w.heap.push _)[w.heap.size]? = _
 simp
theorem news_drew (w : World) (cs : List Value) (t : TypeId) : ∀ j u, cs[j]? = some u → (w.alloc (.cells cs.toArray t)).drew.cell? ((⟨w.heap.size, 0, none⟩ : Addr).add j) = some u := news_new w cs t
/-- A slice's address a leads to the bytes l (or there are none). -/
def Row8 (w : World) (a : Option Addr) (l : List UInt8) : Prop :=
 l = [] ∨ ∃ b off, a = some ⟨b, off, none⟩ ∧ b < w.heap.size ∧ ∀ i (h : i < l.length), w.cell? ⟨b, off + i, none⟩ = some (.int .u8 (l[i].toNat : Int))
theorem Row8.below {w w' : World} {a : Option Addr} {l : List UInt8} (h : Row8 w a l) (hb : Below w.heap.size w w') : Row8 w' a l := by
 rcases h with h | ⟨b, off, e, hlt, hc⟩
 ·exact .inl h
 ·exact .inr ⟨b, off, e, Nat.lt_of_lt_of_le hlt hb.size, fun i hi => (hb.cell (p := ⟨b, off + i, none⟩) hlt).trans (hc i hi)⟩
theorem Row8.at {w : World} {a : Option Addr} {l : List UInt8} (h : Row8 w a l) (hn : 0 < l.length) :
  ∃ b off, a = some ⟨b, off, none⟩ ∧ b < w.heap.size ∧ ∀ i (h : i < l.length), w.cell? ⟨b, off + i, none⟩ = some (.int .u8 (l[i].toNat : Int)) := by
 rcases h with rfl | h
 ·simp at hn
 ·exact h
theorem qqA {A : Type} (l : List A) (i : Nat) (x : A) : l.toArray.setIfInBounds i x = (l.set i x).toArray := by simp
theorem qqB {A : Type} (a b : A) (l : List A) : (a :: l).set 0 b = b :: l := rfl
theorem qqC {A : Type} (a b : A) (l : List A) (n : Nat) : (a :: l).set (n + 1) b = a :: l.set n b := rfl
theorem wtk {P : Program} {md : Region.Mode} {ops : Array Oper} {Q : Exit → Act → World → Prop} {S : World → Prop} {i : Nat} {oi : Oper} {v : Value} {fuel : Nat} {listed : Array Bool} {a : Act} {w : World} (hi : ops[i]? = some oi) (hy : YieldsIf P ops S oi v a) (hS : S w) (h : wpAnyH P md ops Q S fuel (listed.setIfInBounds i true) (a.put oi.dst v) w) (hs : Region.noSelect ops = true := by kernel_rfl) (hf : Region.free md ops listed i = true := by kernel_rfl) (hr : (Region.ready md ops listed).contains i = true := by kernel_rfl) (hQ : ∀ c a w, Q (.panic c) (a.put oi.dst v) w → Q (.panic c) a w := by exact fun _ _ _ h => h) : wpAnyH P md ops Q S (fuel + 1) listed a w := wpAnyH_take hi hs hf hr hQ hy hS h
theorem wtv {P : Program} {md : Region.Mode} {ops : Array Oper} {Q : Exit → Act → World → Prop} {S : World → Prop} {fuel : Nat} {listed listed' : Array Bool} {a a' : Act} {w : World} {v : Value} (i : Nat) {oi : Oper} (h : wpAnyH P md ops Q S fuel listed' a' w) (hi : ops[i]? = some oi := by rfl) (hw : Region.wanted oi (yielded ops a.tmps) = true := by rfl) (hv : ∀ w', S w' → (execOp a.eval oi).run P w' = .ok (.value v) w' := by (intro w' hSw; (try dsimp only at hSw); go_simp; try with_reducible rfl)) (ha : a.put oi.dst v = a' := by ((try simp only [Act.put, qqA, qqB, qqC]); try rfl)) (hl : listed.setIfInBounds i true = listed' := by ((try simp only [qqA, qqB, qqC]); try rfl)) (hS : S w := by assumption) (hs : Region.noSelect ops = true := by kernel_rfl) (hf : Region.free md ops listed i = true := by kernel_rfl) (hr : (Region.ready md ops listed).contains i = true := by kernel_rfl) (hQ : ∀ c a w, Q (.panic c) (a.put oi.dst v) w → Q (.panic c) a w := by exact fun _ _ _ h => h) : wpAnyH P md ops Q S (fuel + 1) listed a w := by
 subst ha hl; exact wpAnyH_take hi hs hf hr hQ (Or.inl ⟨hw, hv⟩) hS h
theorem wtu {P : Program} {md : Region.Mode} {ops : Array Oper} {Q : Exit → Act → World → Prop} {S : World → Prop} {fuel : Nat} {listed listed' : Array Bool} {a a' : Act} {w : World} (i : Nat) {oi : Oper} (h : wpAnyH P md ops Q S fuel listed' a' w) (hi : ops[i]? = some oi := by rfl) (hw : Region.wanted oi (yielded ops a.tmps) = false := by rfl) (ha : a.put oi.dst undef = a' := by ((try simp only [Act.put, qqA, qqB, qqC]); try rfl)) (hl : listed.setIfInBounds i true = listed' := by ((try simp only [qqA, qqB, qqC]); try rfl)) (hS : S w := by assumption) (hs : Region.noSelect ops = true := by kernel_rfl) (hf : Region.free md ops listed i = true := by kernel_rfl) (hr : (Region.ready md ops listed).contains i = true := by kernel_rfl) (hQ : ∀ c a w, Q (.panic c) (a.put oi.dst undef) w → Q (.panic c) a w := by exact fun _ _ _ h => h) : wpAnyH P md ops Q S (fuel + 1) listed a w := by
 subst ha hl; exact wpAnyH_take hi hs hf hr hQ (Or.inr ⟨hw, rfl⟩) hS h
end Go.Proofs.YtgnecacoehedkaaDoor

/- Arrays in memory: a block whose cells are known. -/
namespace Go.Proofs.YtgnecacoehedkaaDoor
open Go.ChangeShapes Go.WideShapes Go.ChangeAt Go.RowKit

/-- Block g holds just the cells l, and may be written. -/
def ArrAt (w : World) (g : Nat) (t : TypeId) (l : List Value) : Prop := w.heap[g]? = some (.cells l.toArray t (0, 0))
theorem ArrAt.cell {w : World} {g : Nat} {t : TypeId} {l : List Value} (h : ArrAt w g t l) (k : Nat) : w.cell? ⟨g, k, none⟩ = l[k]? := by
 rw [cell_of_row w g k l.toArray t (0, 0) h]; simp
theorem ArrAt.frozen {w : World} {g : Nat} {t : TypeId} {l : List Value} (h : ArrAt w g t l) (k : Nat) : w.frozen? ⟨g, k, none⟩ = false :=
 frozen_of_row w g k l.toArray t h
theorem ArrAt.set {w : World} {g : Nat} {t : TypeId} {l : List Value} (h : ArrAt w g t l) (k : Nat) (u : Value) : ArrAt (w.setCell ⟨g, k, none⟩ u) g t (l.set k u) := by
 have := heap_setCell_same w g k l.toArray t u h
 unfold ArrAt; rw [this]; simp
theorem ArrAt.other {w : World} {g g' : Nat} {t : TypeId} {l : List Value} (h : ArrAt w g t l) (hne : g ≠ g') (k : Nat) (u : Value) : ArrAt (w.setCell ⟨g', k, none⟩ u) g t l :=
 (heap_setCell_other w ⟨g', k, none⟩ g u hne).trans h
theorem ArrAt.drew {w : World} {g : Nat} {t : TypeId} {l : List Value} (h : ArrAt w g t l) : ArrAt w.drew g t l := h
theorem ArrAt.drewN {w : World} {g : Nat} {t : TypeId} {l : List Value} (h : ArrAt w g t l) (n : Nat) : ArrAt (w.drewN n) g t l := h
theorem ArrAt.lt {w : World} {g : Nat} {t : TypeId} {l : List Value} (h : ArrAt w g t l) : g < w.heap.size := by
 rcases Nat.lt_or_ge g w.heap.size with hlt | hge
 ·exact hlt
 ·unfold ArrAt at h; rw [Array.getElem?_eq_none hge] at h; cases h
theorem ArrAt.alloc {w : World} {g : Nat} {t : TypeId} {l : List Value} (h : ArrAt w g t l) (o : Obj) : ArrAt (w.alloc o) g t l :=
 (Below.heap_alloc w o g h.lt).trans h
theorem ArrAt.below {w w' : World} {B g : Nat} {t : TypeId} {l : List Value} (h : ArrAt w g t l) (hb : Below B w w') (hg : g < B) : ArrAt w' g t l :=
 (hb.block g hg).trans h
theorem arr_new (w : World) (l : List Value) (t : TypeId) : ArrAt (w.alloc (.cells l.toArray t)) w.heap.size t l := heap_alloc_new w _
theorem ArrAt.range {w : World} {g : Nat} {t : TypeId} {l : List Value} (h : ArrAt w g t l) : w.rangeAt g 0 l := fun j v hv => by
 rw [Nat.zero_add, h.cell j, hv]
theorem ArrAt.there {w : World} {g : Nat} {t : TypeId} {l : List Value} (h : ArrAt w g t l) : w.there g 0 l.length := fun j hj => by
 rw [Nat.zero_add]
 exact ⟨by rw [h.cell j, List.getElem?_eq_getElem hj]; rfl, h.frozen j⟩

end Go.Proofs.YtgnecacoehedkaaDoor
