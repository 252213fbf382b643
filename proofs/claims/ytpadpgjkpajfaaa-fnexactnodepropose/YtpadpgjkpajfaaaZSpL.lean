/- Small things for the specification's NodePropose. -/
import Derived.Test.YtpadpgjkpajfaaaZAlS
import Derived.Test.YtpadpgjkpajfaaaZAdS
import Derived.Test.YtpadpgjkpajfaaaZG24
namespace Go.Proofs.Ytpadpgjkpajfaaa
open Go.ChangeShapes Go.WideShapes Go.ChangeAt Go.RowKit
set_option linter.unusedVariables false
theorem lit_emptyM (w : World) (t : TypeId) (base : Nat) (hb : base ≤ w.heap.size) : (w.alloc (.cells #[] t)).ownsRow base t 9 (.slice (some ⟨w.heap.size, 0, none⟩) 0 0) 0 [] := by
  have h := World.ownsRow_lit (e := t) (base := base) (size := 9) w #[] 0 hb (by unfold maxLen; omega) rfl
  simpa using h
theorem own_keepB {w w' : World} {base : Nat} {e : TypeId} {z g n cap : Nat} {xs : List Value} (h : w.ownsRow base e z (.slice (some ⟨g, 0, none⟩) n cap) n xs) (hb : w'.heap[g]? = w.heap[g]?) : w'.ownsRow base e z (.slice (some ⟨g, 0, none⟩) n cap) n xs := by
  obtain ⟨h1, h2⟩ := h
  refine ⟨h1, ?_⟩
  rcases h2 with ⟨h2, _⟩ | ⟨g', cap', cur, hv, hbg, hgc, hrest⟩
  · cases h2
  · have e1 : g = g' := by injection hv with e1 _ _; injection e1 with e1; injection e1
    subst e1
    exact .inr ⟨g, cap', cur, hv, hbg, hb.trans hgc, hrest⟩
theorem own_apartS {w : World} {b b2 : Nat} {e e2 : TypeId} {z z2 : Nat} {v v2 : Value} {n n2 : Nat} {xs xs2 : List Value} (h : w.ownsRow b e z v n xs) (h2 : w.ownsRow b2 e2 z2 v2 n2 xs2) (he : e ≠ e2) : ∀ j, v.ownBlock = some j → v2.ownBlock ≠ some j := by
  intro j hj hj2
  rcases h.2 with ⟨rfl, _⟩ | ⟨g, cap, cur, rfl, _, hg, _⟩
  · cases hj
  · rcases h2.2 with ⟨rfl, _⟩ | ⟨g2, cap2, cur2, rfl, _, hg2, _⟩
    · cases hj2
    · have e1 : g = j := Option.some.inj hj
      have e2 : g2 = j := Option.some.inj hj2
      subst e1
      subst e2
      rw [hg] at hg2
      injection hg2 with hg2
      injection hg2 with _ hg2
      exact he hg2
theorem below_two {B P : Nat} {row : Option Nat} {w0 w w' : World} (h : Below B w0 w) (t : Two P row w w') (hB : B ≤ w.heap.size) (hP : B ≤ P) (hr : ∀ j, row = some j → B ≤ j) : Below B w0 w' :=
  h.trans ⟨t.os, t.tape, t.output, t.size, fun k hk => t.block k (by omega) (by omega) (fun e => by have := hr k e; omega)⟩
theorem Two.far {P : Nat} {w w' : World} (hf : ∀ k, k ≠ P → w'.heap[k]? = w.heap[k]?) (hb : Below P w w') : Two P none w w' := ⟨hb.os, hb.tape, hb.output, hb.size, fun k _ h _ => hf k h⟩
theorem offA_own {w : World} {base : Nat} {e : TypeId} {z : Nat} {a : Option Addr} {n cap : Nat} {xs : List Value} {P : Nat} {row : Option Nat} (h : w.ownsRow base e z (.slice a n cap) n xs) (h1 : ∀ j, (Value.slice a n cap).ownBlock = some j → j ≠ P ∧ row ≠ some j) : OffA P row a := fun x hx => h1 _ (own_addr h x hx)
theorem MOwn.far {w w' : World} {lo P : Nat} {v : Value} {L : List MgA} (h : MOwn w lo v L) (hf : ∀ k, k ≠ P → w'.heap[k]? = w.heap[k]?) (hP : P < lo) : MOwn w' lo v L :=
  ⟨own_farJ h.row hf (fun e => by have := (h.row.lt _ e).1; omega), fun p hp => own_farJ (h.ent p hp) hf (fun e => by have := ((h.ent p hp).lt _ e).1; omega), h.apart, h.off⟩
theorem MOwn.lit (w : World) (lo : Nat) (h : lo ≤ w.heap.size) : MOwn (w.alloc (.cells #[] 55)) lo (.slice (some ⟨w.heap.size, 0, none⟩) 0 0) [] :=
  ⟨lit_emptyM w _ lo h, (fun p hp => by cases hp), List.Pairwise.nil, (fun p hp => by cases hp)⟩
theorem mrow_nil (w : World) (a : Option Addr) (cap : Nat) : MRow w (.slice a 0 cap) [] := ⟨⟨a, cap, rfl, .inl rfl⟩, fun p hp => by cases hp⟩
end Go.Proofs.Ytpadpgjkpajfaaa
