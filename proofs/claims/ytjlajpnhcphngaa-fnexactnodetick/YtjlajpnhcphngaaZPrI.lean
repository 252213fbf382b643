/- NodePropose that is taken: what the program answers. -/
import Derived.Test.YtjlajpnhcphngaaZCopN
import Derived.Test.YtjlajpnhcphngaaZAdI
import Derived.Test.YtjlajpnhcphngaaZG16
import Derived.Test.YtjlajpnhcphngaaZG7
namespace Go.Proofs.Ytjlajpnhcphngaa
open Go.ChangeShapes Go.WideShapes Go.ChangeAt Go.RowKit
set_option linter.unusedVariables false
theorem own_up {w : World} {base b2 : Nat} {e : TypeId} {z : Nat} {v : Value} {n : Nat} {xs : List Value} (h : w.ownsRow base e z v n xs) (hb : ∀ j, v.ownBlock = some j → b2 ≤ j) : w.ownsRow b2 e z v n xs := by
  obtain ⟨h1, h2 | ⟨g, cap, cur, hv, hbg, hr⟩⟩ := h
  · exact ⟨h1, .inl h2⟩
  · exact ⟨h1, .inr ⟨g, cap, cur, hv, hb g (by rw [hv]; rfl), hr⟩⟩
theorem heldZ_far {z : Nat} {w w' : World} {lo hi : Nat} {e : TypeId} {v : Value} {n : Nat} {xs : List Value} {p : Nat} (h : HeldZ z w lo hi e v n xs) (hf : ∀ k, k ≠ p → w'.heap[k]? = w.heap[k]?) (hs : w.heap.size ≤ w'.heap.size) (hp : p < lo ∨ hi ≤ p) : HeldZ z w' lo hi e v n xs :=
  ⟨own_farJ h.1 hf (fun hj => by have := (h.1.lt _ hj).1; have := h.2.1 _ hj; omega), h.2.1, Nat.le_trans h.2.2 hs⟩
theorem put13 {p : Nat} {u0 u1 u2 u3 u4 u5 u6 u7 u8 u9 ua ub uc : Value} (w : World) (h : BF p #[u0, u1, u2, u3, u4, u5, u6, u7, u8, u9, ua, ub, uc] w) (v0 v1 v2 v3 v4 v5 v6 v7 v8 v9 va vb vc : Value) :
    ∃ w', w' = ((((((((((((w.setCell ⟨p, 0, none⟩ v0).setCell ⟨p, 1, none⟩ v1).setCell ⟨p, 2, none⟩ v2).setCell ⟨p, 3, none⟩ v3).setCell ⟨p, 4, none⟩ v4).setCell ⟨p, 5, none⟩ v5).setCell ⟨p, 6, none⟩ v6).setCell ⟨p, 7, none⟩ v7).setCell ⟨p, 8, none⟩ v8).setCell ⟨p, 9, none⟩ v9).setCell ⟨p, 10, none⟩ va).setCell ⟨p, 11, none⟩ vb).setCell ⟨p, 12, none⟩ vc ∧ BF p #[v0, v1, v2, v3, v4, v5, v6, v7, v8, v9, va, vb, vc] w' ∧ (∀ k, k ≠ p → w'.heap[k]? = w.heap[k]?) ∧ Below p w w' := by
  refine ⟨_, rfl, ?_, ?_, ?_⟩
  · have q0 : BF p #[v0, u1, u2, u3, u4, u5, u6, u7, u8, u9, ua, ub, uc] _ := h.set 0 (by simp) v0
    have q1 : BF p #[v0, v1, u2, u3, u4, u5, u6, u7, u8, u9, ua, ub, uc] _ := q0.set 1 (by simp) v1
    have q2 : BF p #[v0, v1, v2, u3, u4, u5, u6, u7, u8, u9, ua, ub, uc] _ := q1.set 2 (by simp) v2
    have q3 : BF p #[v0, v1, v2, v3, u4, u5, u6, u7, u8, u9, ua, ub, uc] _ := q2.set 3 (by simp) v3
    have q4 : BF p #[v0, v1, v2, v3, v4, u5, u6, u7, u8, u9, ua, ub, uc] _ := q3.set 4 (by simp) v4
    have q5 : BF p #[v0, v1, v2, v3, v4, v5, u6, u7, u8, u9, ua, ub, uc] _ := q4.set 5 (by simp) v5
    have q6 : BF p #[v0, v1, v2, v3, v4, v5, v6, u7, u8, u9, ua, ub, uc] _ := q5.set 6 (by simp) v6
    have q7 : BF p #[v0, v1, v2, v3, v4, v5, v6, v7, u8, u9, ua, ub, uc] _ := q6.set 7 (by simp) v7
    have q8 : BF p #[v0, v1, v2, v3, v4, v5, v6, v7, v8, u9, ua, ub, uc] _ := q7.set 8 (by simp) v8
    have q9 : BF p #[v0, v1, v2, v3, v4, v5, v6, v7, v8, v9, ua, ub, uc] _ := q8.set 9 (by simp) v9
    have qa : BF p #[v0, v1, v2, v3, v4, v5, v6, v7, v8, v9, va, ub, uc] _ := q9.set 10 (by simp) va
    have qb : BF p #[v0, v1, v2, v3, v4, v5, v6, v7, v8, v9, va, vb, uc] _ := qa.set 11 (by simp) vb
    exact qb.set 12 (by simp) vc
  · intro k hk; iterate 13 rw [Below.heap_setCell _ _ _ _ hk]
  · iterate 13 refine Below.setCell ?_ (by exact Nat.le_refl _) _
    exact Below.refl _ _
end Go.Proofs.Ytjlajpnhcphngaa
