/- Texts put together: PrM SpL ArrM. -/
import Derived.Test.YtjlajpnhcphngaaZG15
import Derived.Test.YtjlajpnhcphngaaZG29
import Derived.Test.YtjlajpnhcphngaaZG0
import Derived.Deep.MidRow
import Derived.WalkSmall
import Derived.Deep.QuietTactic
import Derived.BigQuiet
/- What NodePropose answers. -/
namespace Go.Proofs.Ytjlajpnhcphngaa
open Go.ChangeShapes Go.WideShapes Go.ChangeAt Go.RowKit
set_option linter.unusedVariables false
def prN (N : Nf) (d : ByteArray) : Nf := { N with l := N.l ++ [(N.tm, d)], cm := ((advN N.id N.tm N.nd.toNat (N.l ++ [(N.tm, d)]) N.lg N.cm.toNat (N.l.length + 1) : Nat) : Int) }
def prA (N : Nf) (d : ByteArray) : Nf × List Mg × Int :=
  if 65536 < d.size then (nfZ, [], 2)
  else if nfB N = false then (nfZ, [], 1)
  else if inB (d.size : Int) 1 400 = false then (nfZ, [], 4)
  else if N.up = false then (N, [], 13)
  else if N.ro ≠ 2 then (N, [], 12)
  else if N.l.length = 60 then (N, [], 7)
  else (prN N d, tls N.id N.tm (prN N d).cm (prN N d).l (jOf N.lx) N.nd.toNat, 0)
end Go.Proofs.Ytjlajpnhcphngaa

/- Small things for the specification's NodePropose. -/
namespace Go.Proofs.Ytjlajpnhcphngaa
open Go.ChangeShapes Go.WideShapes Go.ChangeAt Go.RowKit
set_option linter.unusedVariables false
theorem lit_emptyM (w : World) (t : TypeId) (base : Nat) (hb : base ≤ w.heap.size) : (w.alloc (.cells #[] t)).ownsRow base t 9 (.slice (some ⟨w.heap.size, 0, none⟩) 0 0) 0 [] := by
  have h := World.ownsRow_lit (e := t) (base := base) (size := 9) w #[] 0 hb (by unfold maxLen; omega) rfl
  simpa using h
theorem own_keepB {w w' : World} {base : Nat} {e : TypeId} {z g n cap : Nat} {xs : List Value} (h : w.ownsRow base e z (.slice (some ⟨g, 0, none⟩) n cap) n xs) (hb : w'.heap[g]? = w.heap[g]?) : w'.ownsRow base e z (.slice (some ⟨g, 0, none⟩) n cap) n xs := by
  obtain ⟨h1, h2⟩ := h
  refine ⟨h1, ?_⟩
  rcases h2 with ⟨h2, _⟩ | ⟨g', cap', cur, hv, hbg, hgc, hrest⟩
  · cases h2
  · have e1 : g = g' := by injection hv with e1 _ _; injection e1 with e1; injection e1
    subst e1
    exact .inr ⟨g, cap', cur, hv, hbg, hb.trans hgc, hrest⟩
theorem own_apartS {w : World} {b b2 : Nat} {e e2 : TypeId} {z z2 : Nat} {v v2 : Value} {n n2 : Nat} {xs xs2 : List Value} (h : w.ownsRow b e z v n xs) (h2 : w.ownsRow b2 e2 z2 v2 n2 xs2) (he : e ≠ e2) : ∀ j, v.ownBlock = some j → v2.ownBlock ≠ some j := by
  intro j hj hj2
  rcases h.2 with ⟨rfl, _⟩ | ⟨g, cap, cur, rfl, _, hg, _⟩
  · cases hj
  · rcases h2.2 with ⟨rfl, _⟩ | ⟨g2, cap2, cur2, rfl, _, hg2, _⟩
    · cases hj2
    · have e1 : g = j := Option.some.inj hj
      have e2 : g2 = j := Option.some.inj hj2
      subst e1
      subst e2
      rw [hg] at hg2
      injection hg2 with hg2
      injection hg2 with _ hg2
      exact he hg2
theorem below_two {B P : Nat} {row : Option Nat} {w0 w w' : World} (h : Below B w0 w) (t : Two P row w w') (hB : B ≤ w.heap.size) (hP : B ≤ P) (hr : ∀ j, row = some j → B ≤ j) : Below B w0 w' :=
  h.trans ⟨t.os, t.tape, t.output, t.size, fun k hk => t.block k (by omega) (by omega) (fun e => by have := hr k e; omega)⟩
theorem Two.far {P : Nat} {w w' : World} (hf : ∀ k, k ≠ P → w'.heap[k]? = w.heap[k]?) (hb : Below P w w') : Two P none w w' := ⟨hb.os, hb.tape, hb.output, hb.size, fun k _ h _ => hf k h⟩
theorem offA_own {w : World} {base : Nat} {e : TypeId} {z : Nat} {a : Option Addr} {n cap : Nat} {xs : List Value} {P : Nat} {row : Option Nat} (h : w.ownsRow base e z (.slice a n cap) n xs) (h1 : ∀ j, (Value.slice a n cap).ownBlock = some j → j ≠ P ∧ row ≠ some j) : OffA P row a := fun x hx => h1 _ (own_addr h x hx)
theorem MOwn.far {w w' : World} {lo P : Nat} {v : Value} {L : List MgA} (h : MOwn w lo v L) (hf : ∀ k, k ≠ P → w'.heap[k]? = w.heap[k]?) (hP : P < lo) : MOwn w' lo v L :=
  ⟨own_farJ h.row hf (fun e => by have := (h.row.lt _ e).1; omega), fun p hp => own_farJ (h.ent p hp) hf (fun e => by have := ((h.ent p hp).lt _ e).1; omega), h.apart, h.off⟩
theorem MOwn.lit (w : World) (lo : Nat) (h : lo ≤ w.heap.size) : MOwn (w.alloc (.cells #[] 54)) lo (.slice (some ⟨w.heap.size, 0, none⟩) 0 0) [] :=
  ⟨lit_emptyM w _ lo h, (fun p hp => by cases hp), List.Pairwise.nil, (fun p hp => by cases hp)⟩
theorem mrow_nil (w : World) (a : Option Addr) (cap : Nat) : MRow w (.slice a 0 cap) [] := ⟨⟨a, cap, rfl, .inl rfl⟩, fun p hp => by cases hp⟩
end Go.Proofs.Ytjlajpnhcphngaa

/- Arrays in memory: a block whose cells are known. -/
namespace Go.Proofs.Ytjlajpnhcphngaa
open Go.ChangeShapes Go.WideShapes Go.ChangeAt Go.RowKit

/-- Block g holds just the cells l, and may be written. -/
def ArrAt (w : World) (g : Nat) (t : TypeId) (l : List Value) : Prop := w.heap[g]? = some (.cells l.toArray t (0, 0))
theorem ArrAt.cell {w : World} {g : Nat} {t : TypeId} {l : List Value} (h : ArrAt w g t l) (k : Nat) : w.cell? ⟨g, k, none⟩ = l[k]? := by
  rw [cell_of_row w g k l.toArray t (0, 0) h]; simp
theorem ArrAt.frozen {w : World} {g : Nat} {t : TypeId} {l : List Value} (h : ArrAt w g t l) (k : Nat) : w.frozen? ⟨g, k, none⟩ = false :=
  frozen_of_row w g k l.toArray t h
theorem ArrAt.set {w : World} {g : Nat} {t : TypeId} {l : List Value} (h : ArrAt w g t l) (k : Nat) (u : Value) : ArrAt (w.setCell ⟨g, k, none⟩ u) g t (l.set k u) := by
  have := heap_setCell_same w g k l.toArray t u h
  unfold ArrAt; rw [this]; simp
theorem ArrAt.other {w : World} {g g' : Nat} {t : TypeId} {l : List Value} (h : ArrAt w g t l) (hne : g ≠ g') (k : Nat) (u : Value) : ArrAt (w.setCell ⟨g', k, none⟩ u) g t l :=
  (heap_setCell_other w ⟨g', k, none⟩ g u hne).trans h
theorem ArrAt.drew {w : World} {g : Nat} {t : TypeId} {l : List Value} (h : ArrAt w g t l) : ArrAt w.drew g t l := h
theorem ArrAt.drewN {w : World} {g : Nat} {t : TypeId} {l : List Value} (h : ArrAt w g t l) (n : Nat) : ArrAt (w.drewN n) g t l := h
theorem ArrAt.lt {w : World} {g : Nat} {t : TypeId} {l : List Value} (h : ArrAt w g t l) : g < w.heap.size := by
  rcases Nat.lt_or_ge g w.heap.size with hlt | hge
  · exact hlt
  · unfold ArrAt at h; rw [Array.getElem?_eq_none hge] at h; cases h
theorem ArrAt.alloc {w : World} {g : Nat} {t : TypeId} {l : List Value} (h : ArrAt w g t l) (o : Obj) : ArrAt (w.alloc o) g t l :=
  (Below.heap_alloc w o g h.lt).trans h
theorem ArrAt.below {w w' : World} {B g : Nat} {t : TypeId} {l : List Value} (h : ArrAt w g t l) (hb : Below B w w') (hg : g < B) : ArrAt w' g t l :=
  (hb.block g hg).trans h
theorem ArrAt.range {w : World} {g : Nat} {t : TypeId} {l : List Value} (h : ArrAt w g t l) : w.rangeAt g 0 l := fun j v hv => by
  rw [Nat.zero_add, h.cell j, hv]
theorem ArrAt.there {w : World} {g : Nat} {t : TypeId} {l : List Value} (h : ArrAt w g t l) : w.there g 0 l.length := fun j hj => by
  rw [Nat.zero_add]
  exact ⟨by rw [h.cell j, List.getElem?_eq_getElem hj]; rfl, h.frozen j⟩

end Go.Proofs.Ytjlajpnhcphngaa
