/- What a new cluster is. -/
import Derived.Test.YthbkcijkokaoeaaMknM
import Derived.Test.YthbkcijkokaoeaaNnM
namespace Go.Proofs.Ythbkcijkokaoeaa
open Go.ChangeShapes Go.WideShapes Go.ChangeAt Go.RowKit
set_option linter.unusedVariables false
def newF (n i : Nat) : Nf := ⟨(i : Int), (n : Int), 0, -1, 0, true, [], 0, 0, 5 + (i : Int), [], List.replicate n 1, List.replicate n 0⟩
def newL (n k : Nat) : List Nf := (List.range k).map (newF n)
theorem newL_succ (n k : Nat) : newL n (k + 1) = newL n k ++ [newF n k] := by unfold newL; rw [List.range_succ, List.map_append]; rfl
theorem newL_len (n k : Nat) : (newL n k).length = k := by simp [newL]
def CnIs (x : Int) (nn : Nat) (c : Int) : Prop := if inB x 1 5 then x = (nn : Int) ∧ c = 0 else nn = 0 ∧ c = 4
theorem cn_ex (x : Int) : ∃ nn c, CnIs x nn c ∧ nn ≤ 5 := by
  cases h : inB x 1 5 with
  | false => exact ⟨0, 4, by unfold CnIs; rw [h]; simp, by omega⟩
  | true =>
    have h1 : 1 ≤ x ∧ x ≤ 5 := of_decide_eq_true h
    exact ⟨x.toNat, 0, by unfold CnIs; rw [h]; simp; omega, by omega⟩
theorem own_grownC {w w' : World} {base : Nat} {e : TypeId} {z : Nat} {v : Value} {n : Nat} {xs : List Value} {row : Option Nat} (h : w.ownsRow base e z v n xs) (hg : w.grownBy w' row) (hne : ∀ j, v.ownBlock = some j → row ≠ some j) : w'.ownsRow base e z v n xs := by
  refine h.kept hg ?_
  cases hb : v.ownBlock with
  | none => exact .inl rfl
  | some j => exact .inr (fun e => hne j hb e.symm)
/-- A main row that an append moved or lengthened. -/
theorem FOwn.grow {w w' : World} {lo : Nat} {r s : RD} {F : List RD} (h : FOwn w lo (r :: F)) (hg : w.grownBy w' r.v.ownBlock) (hs : s.own w' lo) (hv : ∀ j, s.v.ownBlock = some j → r.v.ownBlock = some j ∨ j = w.heap.size) : FOwn w' lo (s :: F) := by
  have hp := List.pairwise_cons.1 h.apart
  have keep : ∀ q ∈ F, q.own w' lo := fun q hq => own_grownC (h.own q (List.mem_cons_of_mem _ hq)) hg fun j hj e => hp.1 q hq j e hj
  refine ⟨fun q hq => ?_, ?_⟩
  · rcases List.mem_cons.1 hq with rfl | hq
    · exact hs
    · exact keep q hq
  · rw [List.pairwise_cons]
    refine ⟨fun q hq j hj e => ?_, hp.2⟩
    rcases hv j hj with h1 | h1
    · exact hp.1 q hq j h1 e
    · have := (h.lt q (List.mem_cons_of_mem _ hq) j e).2; omega
theorem FOwn.cons_app {w : World} {lo m : Nat} {r : RD} {F G : List RD} (h1 : FOwn w lo (r :: F)) (h2 : FOwn w m G) (hlo : lo ≤ m) (hm : ∀ q ∈ r :: F, ∀ j, q.v.ownBlock = some j → j < m) : FOwn w lo (r :: (F ++ G)) := h1.app h2 hlo hm
/-- A new node's rows, all apart. -/
theorem new_rows {w : World} {lo hi l0 h0 l1 h1 l2 h2 l3 h3 n i : Nat} {a av ax ag : Option Addr} {cap cv cx cg : Nat} (hE : HeldZ 2 w l0 h0 67 (.slice a 0 cap) 0 []) (hV : Held w l1 h1 3 (.slice av 0 cv) 0 []) (hX : Held w l2 h2 3 (.slice ax n cx) n (cI (List.replicate n 1))) (hG : Held w l3 h3 3 (.slice ag n cg) n (cI (List.replicate n 0))) (ha : Apart lo hi l0 h0 l1 h1 l2 h2 l3 h3) :
    FOwn w lo (nrows ⟨newF n i, a, cap, av, cv, ax, cx, ag, cg⟩) := by
  have e : nrows ⟨newF n i, a, cap, av, cv, ax, cx, ag, cg⟩ = [⟨67, 2, .slice a 0 cap, 0, []⟩, ⟨3, 1, .slice av 0 cv, 0, []⟩, ⟨3, 1, .slice ax n cx, n, cI (List.replicate n 1)⟩, ⟨3, 1, .slice ag n cg, n, cI (List.replicate n 0)⟩] := by
    simp [nrows, newF, cE, cI]
  rw [e]
  unfold Apart at ha
  obtain ⟨a1, a2, a3, a4, a5, a6, a7, a8, a9, a10, a11, a12, a13, a14⟩ := ha
  have kE := hE.blk
  have kV := hV.blk
  have kX := hX.blk
  have kG := hG.blk
  refine ⟨fun r hr => ?_, ?_⟩
  · simp only [List.mem_cons, List.not_mem_nil, or_false] at hr
    rcases hr with rfl | rfl | rfl | rfl
    · exact Go.Joins.ownsRow_le hE.own a7
    · exact Go.Joins.ownsRow_le hV.own a9
    · exact Go.Joins.ownsRow_le hX.own a11
    · exact Go.Joins.ownsRow_le hG.own a13
  · simp only [List.pairwise_cons, List.mem_cons, List.not_mem_nil, or_false, forall_eq_or_imp, forall_eq, List.Pairwise.nil, and_true]
    refine ⟨⟨fun j h1 h2 => ?_, fun j h1 h2 => ?_, fun j h1 h2 => ?_⟩, ⟨fun j h1 h2 => ?_, fun j h1 h2 => ?_⟩, fun j h1 h2 => ?_, fun _ h => (by cases h)⟩
    · have := kE j h1; have := kV j h2; omega
    · have := kE j h1; have := kX j h2; omega
    · have := kE j h1; have := kG j h2; omega
    · have := kV j h1; have := kX j h2; omega
    · have := kV j h1; have := kG j h2; omega
    · have := kX j h1; have := kG j h2; omega
end Go.Proofs.Ythbkcijkokaoeaa
