/- Texts put together: AnL PrM. -/
import Derived.Test.YtpadpgjkpajfaaaZG23
/- Answers of a node and messages, in letters; what a mark elsewhere leaves; how far marks go. -/
namespace Go.Proofs.Ytpadpgjkpajfaaa
open Go.ChangeShapes Go.WideShapes Go.ChangeAt Go.RowKit
set_option linter.unusedVariables false
def PAnsL (w w' : World) (e : Ending) (id' nd' tm' vt' ro' : Int) (up' : Bool) (l' : List Ent) (cm' el' wt' : Int) (lv' lx' lg' : List Int) (n' nv' nx' ng' m' : Nat) (M : List Mg) (cc : Int) : Prop :=
  ∃ eA eC vA vC xA xC gA gC l0 h0 l1 h1 l2 h2 l3 h3 am cq L lom, e = .returned (.tuple #[.agg #[.int .i64 id', .int .i64 nd', .int .i64 tm', .int .i64 vt', .int .i64 ro', .bool up', .slice eA n' eC, .int .i64 cm', .int .i64 el', .int .i64 wt', .slice vA nv' vC, .slice xA nx' xC, .slice gA ng' gC], .slice am m' cq, .int .i64 cc]) ∧ (HeldZ 2 w' l0 h0 49 (.slice eA n' eC) n' (cE l') ∧ Held w' l1 h1 3 (.slice vA nv' vC) nv' (cI lv') ∧ Held w' l2 h2 3 (.slice xA nx' xC) nx' (cI lx') ∧ Held w' l3 h3 3 (.slice gA ng' gC) ng' (cI lg')) ∧ Apart w.heap.size lom l0 h0 l1 h1 l2 h2 l3 h3 ∧ (w.heap.size ≤ lom ∧ lom ≤ w'.heap.size) ∧ L.map (·.1) = M ∧ L.length = m' ∧ MOwn w' lom (.slice am m' cq) L
def SAnsL (w' : World) (e : Ending) (id' nd' tm' vt' ro' : Int) (up' : Bool) (l' : List Ent) (cm' el' wt' : Int) (lv' lx' lg' : List Int) (n' nv' nx' ng' m' : Nat) (M : List Mg) (cc : Int) : Prop :=
  ∃ eA eC vA vC xA xC gA gC am cq L, e = .returned (.tuple #[.agg #[.int .i64 id', .int .i64 nd', .int .i64 tm', .int .i64 vt', .int .i64 ro', .bool up', .slice eA n' eC, .int .i64 cm', .int .i64 el', .int .i64 wt', .slice vA nv' vC, .slice xA nx' xC, .slice gA ng' gC], .slice am m' cq, .int .i64 cc]) ∧ (RowV w' eA (cE l') ∧ RowV w' vA (cI lv') ∧ RowV w' xA (cI lx') ∧ RowV w' gA (cI lg')) ∧ L.map (·.1) = M ∧ L.length = m' ∧ MRow w' (.slice am m' cq) L
theorem PAns.toL {w w' : World} {e : Ending} {id' nd' tm' vt' ro' : Int} {up' : Bool} {l' : List Ent} {cm' el' wt' : Int} {lv' lx' lg' : List Int} {n' nv' nx' ng' m' : Nat} {M : List Mg} {cc : Int} (HN' : Hid (l'.length = n')) (HNv' : Hid (lv'.length = nv')) (HNx' : Hid (lx'.length = nx')) (HNg' : Hid (lg'.length = ng')) (HNM : Hid (M.length = m')) (h : PAns w w' e ⟨id', nd', tm', vt', ro', up', l', cm', el', wt', lv', lx', lg'⟩ M cc) : PAnsL w w' e id' nd' tm' vt' ro' up' l' cm' el' wt' lv' lx' lg' n' nv' nx' ng' m' M cc := by
  obtain rfl := unhide HN'
  obtain rfl := unhide HNv'
  obtain rfl := unhide HNx'
  obtain rfl := unhide HNg'
  obtain ⟨eA, eC, vA, vC, xA, xC, gA, gC, l0, h0, l1, h1, l2, h2, l3, h3, vm, L, lom, rfl, hh, ha, hs, hL, hM⟩ := h
  have hm : L.length = m' := by rw [← unhide HNM, ← hL, List.length_map]
  obtain ⟨am, cq, rfl, -⟩ := ownZ_rowV hM.row
  rw [hm] at hM ⊢
  exact ⟨eA, eC, vA, vC, xA, xC, gA, gC, l0, h0, l1, h1, l2, h2, l3, h3, am, cq, L, lom, rfl, hh, ha, hs, hL, hm, hM⟩
theorem MOwn.outs {w w' : World} {lo lo2 hi2 : Nat} {v : Value} {L : List MgA} (h : MOwn w lo v L) (ho : Outs lo2 hi2 w w') (hd : hi2 ≤ lo) : MOwn w' lo v L :=
  ⟨((heldZ_of h.row).outs ho (.inr hd)).own, fun p hp => ((heldZ_of (h.ent p hp)).outs ho (.inr hd)).own, h.apart, h.off⟩
theorem kAt_most (k B : Nat) (L : List MgA) (h : ∀ p ∈ L, p.1.es.length ≤ B) : ∀ t, t ≤ L.length → kAt k L t ≤ k + t * (8 + B * 2)
  | 0, _ => by cases L <;> simp [kAt]
  | t + 1, ht => by
    have h1 := kAt_most k B L h t (by omega)
    have h2 := h _ (List.getElem_mem (by omega : t < L.length))
    rw [kAt_succ k L t (by omega), Nat.succ_mul]
    omega
end Go.Proofs.Ytpadpgjkpajfaaa

/- What NodePropose answers. -/
namespace Go.Proofs.Ytpadpgjkpajfaaa
open Go.ChangeShapes Go.WideShapes Go.ChangeAt Go.RowKit
set_option linter.unusedVariables false
def prN (N : Nf) (d : ByteArray) : Nf := { N with l := N.l ++ [(N.tm, d)], cm := ((advN N.id N.tm N.nd.toNat (N.l ++ [(N.tm, d)]) N.lg N.cm.toNat (N.l.length + 1) : Nat) : Int) }
def prA (N : Nf) (d : ByteArray) : Nf × List Mg × Int :=
  if 65536 < d.size then (nfZ, [], 2)
  else if nfB N = false then (nfZ, [], 1)
  else if inB (d.size : Int) 1 400 = false then (nfZ, [], 4)
  else if N.up = false then (N, [], 13)
  else if N.ro ≠ 2 then (N, [], 12)
  else if N.l.length = 60 then (N, [], 7)
  else (prN N d, tls N.id N.tm (prN N d).cm (prN N d).l (jOf N.lx) N.nd.toNat, 0)
end Go.Proofs.Ytpadpgjkpajfaaa
