/- Nodes marked, one behind the other. Plain mathematics. -/
import Derived.Test.YthbkcijkokaoeaaCluM
import Derived.Test.YthbkcijkokaoeaaMkE
import Derived.Test.YthbkcijkokaoeaaNdR
import Derived.Test.YthbkcijkokaoeaaIntK
namespace Go.Proofs.Ythbkcijkokaoeaa
open Go.ChangeShapes Go.WideShapes Go.ChangeAt Go.RowKit
set_option linter.unusedVariables false
def mkI (k n : Nat) : List Int := (List.range n).map fun j => ((k + j : Nat) : Int)
theorem mkI_len (k n : Nat) : (mkI k n).length = n := by simp [mkI]
theorem mkI_ones (k n : Nat) : cI (mkI k n) = (List.range n).map fun j => .int .i64 (((k + j : Nat) : Int)) := by unfold cI mkI; rw [List.map_map]; rfl
/-- A node marked from k on. -/
def mkNd (k : Nat) (p : NdA) : NdA :=
  ⟨⟨((k : Nat) : Int), ((k + 1 : Nat) : Int), ((k + 2 : Nat) : Int), ((k + 3 : Nat) : Int), ((k + 4 : Nat) : Int), okM (k + 5), mkEs (k + 6) p.n.l.length, ((k + 6 + p.n.l.length * 2 : Nat) : Int), ((k + 6 + p.n.l.length * 2 + 1 : Nat) : Int), ((k + 6 + p.n.l.length * 2 + 2 : Nat) : Int),
    mkI (k + 6 + p.n.l.length * 2 + 3) p.n.lv.length, mkI (k + 6 + p.n.l.length * 2 + 3 + p.n.lv.length) p.n.lx.length, mkI (k + 6 + p.n.l.length * 2 + 3 + p.n.lv.length + p.n.lx.length) p.n.lg.length⟩, p.ea, p.ec, p.va, p.vc, p.xa, p.xc, p.ga, p.gc⟩
def kN (k : Nat) (p : NdA) : Nat := k + 6 + p.n.l.length * 2 + 3 + p.n.lv.length + p.n.lx.length + p.n.lg.length
/-- Where the marks of node t begin. -/
def kAtN (k : Nat) : List NdA → Nat → Nat
  | _, 0 => k
  | [], _ + 1 => k
  | p :: L, t + 1 => kAtN (kN k p) L t
def markNs (k : Nat) : List NdA → List NdA
  | [] => []
  | p :: L => mkNd k p :: markNs (kN k p) L
theorem markNs_len (k : Nat) (L : List NdA) : (markNs k L).length = L.length := by
  induction L generalizing k with
  | nil => rfl
  | cons p L ih => simp [markNs, ih]
theorem markNs_at (k : Nat) (L : List NdA) (t : Nat) (h : t < L.length) : (markNs k L)[t]'(by rw [markNs_len]; exact h) = mkNd (kAtN k L t) L[t] := by
  induction L generalizing k t with
  | nil => simp at h
  | cons p L ih =>
    cases t with
    | zero => rfl
    | succ t => simp only [markNs, List.getElem_cons_succ, kAtN]; exact ih _ t (by simpa using h)
theorem kAtN_succ (k : Nat) (L : List NdA) (t : Nat) (h : t < L.length) : kAtN k L (t + 1) = kN (kAtN k L t) L[t] := by
  induction L generalizing k t with
  | nil => simp at h
  | cons p L ih =>
    cases t with
    | zero => cases L <;> rfl
    | succ t => simp only [kAtN, List.getElem_cons_succ]; exact ih _ t (by simpa using h)
theorem kAtN_le (k : Nat) (L : List NdA) : ∀ s t, s ≤ t → t ≤ L.length → kAtN k L s ≤ kAtN k L t
  | s, 0, h, _ => by rw [Nat.le_zero.1 h]; exact Nat.le_refl _
  | s, t + 1, h, hl => by
    by_cases e : s = t + 1
    · rw [e]; exact Nat.le_refl _
    · have h1 := kAtN_le k L s t (by omega) (by omega)
      rw [kAtN_succ k L t (by omega)]; unfold kN; omega
theorem kAtN_pos (k : Nat) (L : List NdA) (t : Nat) (h : t ≤ L.length) : k ≤ kAtN k L t := by
  have := kAtN_le k L 0 t (Nat.zero_le _) h
  cases L <;> exact this
/-- The rows of a row of nodes, all apart. -/
def ndF (v : Value) (n : Nat) (L : List NdA) : List RD := ⟨38, 13, v, n, L.flatMap cN⟩ :: L.flatMap nrows
theorem FOwn.turnAt {w w' : World} {lo : Nat} {L L2 F G : List RD} {r s : RD} (h : FOwn w lo L) (e : L = F ++ r :: G) (e2 : L2 = F ++ s :: G) (hg : w.grownBy w' r.v.ownBlock) (hs : s.own w' lo) (hv : s.v.ownBlock = r.v.ownBlock) : FOwn w' lo L2 := by
  subst e e2; exact h.turn hg hs hv
theorem FOwn.head {w : World} {lo : Nat} {r : RD} {L : List RD} (h : FOwn w lo (r :: L)) : w.ownsRow lo r.t r.z r.v r.n r.xs := h.own r (List.mem_cons_self ..)
theorem FOwn.mem {w : World} {lo : Nat} {F G : List RD} {r : RD} (h : FOwn w lo (F ++ r :: G)) : w.ownsRow lo r.t r.z r.v r.n r.xs := h.own r (List.mem_append_right _ (List.mem_cons_self ..))
theorem FOwn.outs {w w' : World} {lo lo2 hi2 : Nat} {F : List RD} (h : FOwn w lo F) (ho : Outs lo2 hi2 w w') (hd : hi2 ≤ lo ∨ ∀ r ∈ F, ∀ j, r.v.ownBlock = some j → j < lo2) : FOwn w' lo F := by
  refine ⟨fun r hr => ?_, h.apart⟩
  have hr' : w.ownsRow lo r.t r.z r.v r.n r.xs := h.own r hr
  obtain ⟨hl, h2⟩ := hr'
  refine ⟨hl, ?_⟩
  rcases h2 with h2 | ⟨g, cap, cur, e, hbg, hg, hrest⟩
  · exact .inl h2
  · have hgl : g < w.heap.size := by rcases Nat.lt_or_ge g w.heap.size with h | h; exact h; rw [Array.getElem?_eq_none h] at hg; cases hg
    have hk : g < lo2 ∨ hi2 ≤ g := by
      rcases hd with hd | hd
      · exact .inr (by omega)
      · exact .inl (hd r hr g (by rw [e]; rfl))
    exact .inr ⟨g, cap, cur, e, hbg, (ho.block g hgl hk).trans hg, hrest⟩
end Go.Proofs.Ythbkcijkokaoeaa
