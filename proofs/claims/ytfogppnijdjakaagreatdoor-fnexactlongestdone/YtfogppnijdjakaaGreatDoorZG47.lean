/- Texts put together: MksI UtM NpM UtI ClnJ NpI NpJ TlM MsM. -/
import Derived.Test.YtfogppnijdjakaaGreatDoorZG45
import Derived.Test.YtfogppnijdjakaaGreatDoorZG7
import Derived.Test.YtfogppnijdjakaaGreatDoorZG2
import Derived.Deep.Cut
import Derived.Test.YtfogppnijdjakaaGreatDoorZG1
import Derived.Test.YtfogppnijdjakaaGreatDoorZG29
import Derived.Test.YtfogppnijdjakaaGreatDoorZG14
import Derived.Test.YtfogppnijdjakaaGreatDoorZG9
/- Rows of stores in the law's own words: their marks, these found again. -/
namespace Go.Proofs.YtfogppnijdjakaaGreatDoor
open Go.ChangeShapes Go.WideShapes Go.ChangeAt Go.RowKit
set_option linter.unusedVariables false
def mkT (k0 j : Nat) : Value := if j % 2 = 0 then .string (mtS (k0 + j)) else .int .i64 ((k0 + j : Nat) : Int)
theorem mkT_even (k0 j : Nat) : mkT k0 (j * 2) = .string (mtS (k0 + j * 2)) := by unfold mkT; rw [if_pos (by omega)]
theorem mkT_odd (k0 j : Nat) : mkT k0 (j * 2 + 1) = .int .i64 ((k0 + (j * 2 + 1) : Nat) : Int) := by unfold mkT; rw [if_neg (by omega)]
def onesSto (k0 n : Nat) : List Value := (List.range (n * 2)).map (mkT k0)
set_option maxHeartbeats 4000000 in
set_option maxRecDepth 100000 in
theorem markSto (v : Value) (n lo hi k0 : Nat) (xs : List Value) (h1 : 0 < k0) (hk0 : k0 + n * 2 ≤ 30000000) (w : World) (h : HeldZ 2 w lo hi 74 v n xs) :
  Calls Tryz.prog 29 #[v, .int .i64 (k0 : Int)] w fun e w' => e = .returned (.int .i64 ((k0 + n * 2 : Nat) : Int)) ∧ HeldZ 2 w' lo hi 74 v n (onesSto k0 n) ∧ w.grownBy w' v.ownBlock := by
 have HX := hide (show xs.length = n * 2 from h.1.1)
 unfold onesSto
 rcases h.1.2 with ⟨rfl, rfl⟩ | ⟨g, cap, cur, rfl, _⟩
 ·go_enter Tryz.func29, Tryz.ntmps29
  go_wp2_with fail
  go_loopw [1, 5] (fun kk i wr => kk = .int .i64 (k0 : Int) ∧ i = .int .i64 0 ∧ wr = w) (fun _ _ _ => 0)
  case atStart => exact ⟨rfl, rfl, rfl⟩
  case round =>
   obtain ⟨rfl, rfl, rfl⟩ := hrel
   have h' : HeldZ 2 wr lo hi 74 (.slice none 0 0) 0 ((List.range (0 * 2)).map (mkT k0)) := by
    have := List.length_eq_zero_iff.1 ((unhide HX).trans (by omega)); subst this; exact h
   go_wp2_with fail
   go_ret
   exact ⟨ret_int (by simp), h', grownBy_refl _ _⟩
 ·have HH := hide h
  clear h
  go_enter Tryz.func29, Tryz.ntmps29
  go_wp2_with fail
  go_loopw [1, 5] (fun kk i wr => ∃ j q : Nat, j ≤ n ∧ Hid (q = k0 + j * 2) ∧ i = .int .i64 j ∧ kk = .int .i64 (q : Int) ∧ Hid (HeldZ 2 wr lo hi 74 (.slice (some ⟨g, 0, none⟩) n cap) n (markV xs (mkT k0) (j * 2))) ∧ Hid (w.grownBy wr (some g))) (fun _ i _ => n - (intOf i).toNat)
  case atStart => exact ⟨0, k0, by omega, by show k0 = k0 + 0 * 2; omega, rfl, rfl, by rw [Nat.zero_mul, markV_zero]; exact HH, grownBy_refl _ _⟩
  case round =>
   clear HH
   obtain ⟨j, q, hj, HQ, rfl, rfl, HH, HG⟩ := hrel
   by_cases hlt : j < n
   ·obtain ⟨u0, hu0⟩ := cell_of (xs := xs) (j := j * 2) (by rw [unhide HX]; omega)
    obtain ⟨u1, hu1⟩ := cell_of (xs := xs) (j := j * 2 + 1) (by rw [unhide HX]; omega)
    have hqp : 0 < q := by have := unhide HQ; omega
    have hqn : q ≤ 33000000 := by have := unhide HQ; omega
    have hqb4 : q ≤ 40000000 := by omega
    obtain ⟨q1, hq1⟩ : ∃ q1, q1 = q + 1 := ⟨_, rfl⟩
    have HQ1 := hide hq1
    have hlt' : (j : Int) < (n : Int) := by omega
    have hlt0 : (0 : Int) ≤ (j : Int) := by omega
    have hqb : (q : Int) ≤ 33000000 := by omega
    have a1 : (q : Int) + 1 = (q1 : Int) := by omega
    have HU0 := hide hu0
    have HU1 := hide hu1
    clear hu0 hu1 hq1
    go_wp2_with fail
    refine (markText27 q hqp hqb4 _).mono ?_
    rintro e w2 ⟨rfl, hb2⟩
    have H2 := (unhide HH).below hb2 (unhide HH).le
    have hown2 := H2.1
    have hc3 : w2.cell? ⟨g, j * 2, none⟩ = some u0 := by rw [hown2.cellAt (j * 2) (by omega), markV_at, unhide HU0]
    have hf3 := hown2.frozenAt (j * 2)
    have R := (hown2.stored (j * 2) (mkT k0 (j * 2))).1
    rw [markV_set xs (mkT k0) (j * 2) (by rw [unhide HX]; omega), mkT_even] at R
    have hqe : k0 + j * 2 = q := by have := unhide HQ; omega
    rw [hqe] at R
    have RH : Hid (HeldZ 2 (w2.setCell ⟨g, j * 2, none⟩ (.string (mtS q))) lo hi 74 (.slice (some ⟨g, 0, none⟩) n cap) n (markV xs (mkT k0) (j * 2 + 1))) := ⟨R, H2.2.1, by have := H2.2.2; simpa using this⟩
    have RG := hide (World.grownBy.trans' (World.grownBy.trans' (unhide HG) (below_asGrown hb2)) (stored_grown (g := g) (j := j * 2) (u := .string (mtS q))))
    have hz2 : ¬ w2.heap.size = g := by have := (H2.blk g rfl).2; have := H2.le; omega
    clear R hown2 H2 hqe hb2 HH HG HU0
    go_upto_region 6 with fail
    clear hc3 hf3 hz2
    generalize w2.setCell ⟨g, j * 2, none⟩ (.string (mtS q)) = w1 at RH RG ⊢
    have hown := (unhide RH).1
    have hc2 : w1.cell? ⟨g, j * 2 + 1, none⟩ = some u1 := by rw [hown.cellAt (j * 2 + 1) (by omega), markV_at, unhide HU1]
    have hf2 := hown.frozenAt (j * 2 + 1)
    have R := (hown.stored (j * 2 + 1) (mkT k0 (j * 2 + 1))).1
    rw [markV_set xs (mkT k0) (j * 2 + 1) (by rw [unhide HX]; omega), mkT_odd, show j * 2 + 1 + 1 = (j + 1) * 2 from by omega] at R
    have hqe : ((k0 + (j * 2 + 1) : Nat) : Int) = (q1 : Int) := by have := unhide HQ; have := unhide HQ1; omega
    rw [hqe] at R
    have RH2 : Hid (HeldZ 2 (w1.setCell ⟨g, j * 2 + 1, none⟩ (.int .i64 (q1 : Int))) lo hi 74 (.slice (some ⟨g, 0, none⟩) n cap) n (markV xs (mkT k0) ((j + 1) * 2))) := ⟨R, (unhide RH).2.1, by have := (unhide RH).2.2; simpa using this⟩
    have RG2 := hide (World.grownBy.trans' (unhide RG) (stored_grown (g := g) (j := j * 2 + 1) (u := .int .i64 (q1 : Int))))
    have a2 : (q1 : Int) ≤ 40000000 := by have := unhide HQ1; omega
    clear R hown hqe RH RG HU1 a1
    go_wp2_with fail
    go_roundw
    case rel => exact ⟨j + 1, q1 + 1, by omega, by show q1 + 1 = k0 + (j + 1) * 2; have := unhide HQ; have := unhide HQ1; omega, by go_num, by go_num, RH2, RG2⟩
    case measure => simp [intOf]; omega
   ·have ej : j = n := by omega
    rw [ej, markV_all xs _ (n * 2) (unhide HX).symm] at HH
    have eq2 : (q : Int) = ((k0 + n * 2 : Nat) : Int) := by rw [unhide HQ, ej]
    go_wp2_with fail
    go_ret
    exact ⟨ret_int eq2, unhide HH, unhide HG⟩
end Go.Proofs.YtfogppnijdjakaaGreatDoor

/- The term at a place, and whether a log is up to date. Plain mathematics. -/
namespace Go.Proofs.YtfogppnijdjakaaGreatDoor
open Go.ChangeShapes Go.WideShapes Go.ChangeAt Go.RowKit
set_option linter.unusedVariables false
/-- The term at place k, counted from 1; that of place 0 is 0. -/
def tAt (l : List Ent) (k : Nat) : Int := if h : 0 < k ∧ k - 1 < l.length then l[k - 1].1 else 0
def utB (n : Int) (T iq tq : Int) : Bool := decide (T < tq) || (decide (tq = T) && decide (n ≤ iq))
end Go.Proofs.YtfogppnijdjakaaGreatDoor

/- How many nodes have a place. Plain mathematics. -/
namespace Go.Proofs.YtfogppnijdjakaaGreatDoor
open Go.ChangeShapes Go.WideShapes Go.ChangeAt Go.RowKit
set_option linter.unusedVariables false
/-- Of the nodes from k on, the node itself left out, how many have place p. -/
def holdA (id p : Int) : Nat → List Int → Nat
 | _, [] => 0
 | k, x :: l => (if (k : Int) ≠ id ∧ p ≤ x then 1 else 0) + holdA id p (k + 1) l
/-- How many have place p, the node itself too. -/
def holds (id p : Int) (l : List Int) : Nat := 1 + holdA id p 0 l
end Go.Proofs.YtfogppnijdjakaaGreatDoor

/- Whether a log is up to date: what the program answers. -/
namespace Go.Proofs.YtfogppnijdjakaaGreatDoor
open Go.ChangeShapes Go.WideShapes Go.ChangeAt Go.RowKit
set_option linter.unusedVariables false
end Go.Proofs.YtfogppnijdjakaaGreatDoor

/- slices.Clone of integers: what the program answers. -/
namespace Go.Proofs.YtfogppnijdjakaaGreatDoor
open Go.ChangeShapes Go.WideShapes Go.ChangeAt Go.RowKit
set_option linter.unusedVariables false
end Go.Proofs.YtfogppnijdjakaaGreatDoor

/- A message of a node, who has a place, what a node is told: what the program answers. -/
namespace Go.Proofs.YtfogppnijdjakaaGreatDoor
open Go.ChangeShapes Go.WideShapes Go.ChangeAt Go.RowKit
set_option linter.unusedVariables false
end Go.Proofs.YtfogppnijdjakaaGreatDoor

/- What a node is told: what the program answers. -/
namespace Go.Proofs.YtfogppnijdjakaaGreatDoor
open Go.ChangeShapes Go.WideShapes Go.ChangeAt Go.RowKit
set_option linter.unusedVariables false
end Go.Proofs.YtfogppnijdjakaaGreatDoor

/- Rows of messages, each with its entries in a row of its own. -/
namespace Go.Proofs.YtfogppnijdjakaaGreatDoor
open Go.ChangeShapes Go.WideShapes Go.ChangeAt Go.RowKit
set_option linter.unusedVariables false
/-- A row of messages that is owned, its entries' rows too, all apart. -/
structure MOwn (w : World) (lo : Nat) (v : Value) (L : List MgA) : Prop where
 row : w.ownsRow lo 82 9 v L.length (cMs L)
 ent : ∀ p ∈ L, w.ownsRow lo 103 2 (sl p) p.1.es.length (cE p.1.es)
 apart : L.Pairwise (fun p q => ∀ j, (sl p).ownBlock = some j → (sl q).ownBlock ≠ some j)
 off : ∀ p ∈ L, ∀ j, (sl p).ownBlock = some j → v.ownBlock ≠ some j
theorem own_grown {w w' : World} {base : Nat} {e : TypeId} {z : Nat} {v : Value} {n : Nat} {xs : List Value} {row : Option Nat} (h : w.ownsRow base e z v n xs) (hg : w.grownBy w' row) (hne : ∀ j, v.ownBlock = some j → row ≠ some j) : w'.ownsRow base e z v n xs := by
 have hlt := h.lt
 obtain ⟨h1, h2⟩ := h
 refine ⟨h1, ?_⟩
 rcases h2 with h2 | ⟨g, cap, cur, rfl, hbg, hgc, hrest⟩
 ·exact .inl h2
 ·exact .inr ⟨g, cap, cur, rfl, hbg, (hg.block g (hlt g rfl).2 (fun e => hne g rfl e.symm)).trans hgc, hrest⟩
theorem MOwn.nil (w : World) (lo : Nat) : MOwn w lo (.slice none 0 0) [] :=
 ⟨World.ownsRow_nil _ _ _ _, (fun p h => by cases h), List.Pairwise.nil, (fun p h => by cases h)⟩
theorem MOwn.below {w w' : World} {lo : Nat} {v : Value} {L : List MgA} (h : MOwn w lo v L) (hb : Below w.heap.size w w') : MOwn w' lo v L :=
 ⟨((heldZ_of h.row).below hb (Nat.le_refl _)).own, fun p hp => ((heldZ_of (h.ent p hp)).below hb (Nat.le_refl _)).own, h.apart, h.off⟩
theorem MOwn.low {w : World} {lo lo2 : Nat} {v : Value} {L : List MgA} (h : MOwn w lo v L) (hb : lo2 ≤ lo) : MOwn w lo2 v L :=
 ⟨own_low h.row hb, fun p hp => own_low (h.ent p hp) hb, h.apart, h.off⟩
/-- What a node tells node t. -/
def tellM (id tm cm : Int) (l : List Ent) (J : Nat → Nat) (t : Nat) : Mg := ⟨3, id, (t : Int), tm, (J t : Int), tAt l (J t), cm, false, l.drop (J t)⟩
/-- What it tells those below t, itself left out. -/
def tls (id tm cm : Int) (l : List Ent) (J : Nat → Nat) (t : Nat) : List Mg := ((List.range t).filter fun (u : Nat) => decide ((u : Int) ≠ id)).map (tellM id tm cm l J)
end Go.Proofs.YtfogppnijdjakaaGreatDoor

/- Rows of messages: how they are read, how they are marked. -/
namespace Go.Proofs.YtfogppnijdjakaaGreatDoor
open Go.ChangeShapes Go.WideShapes Go.ChangeAt Go.RowKit
set_option linter.unusedVariables false
theorem MOwn.read {w : World} {lo : Nat} {v : Value} {L : List MgA} (h : MOwn w lo v L) : MRow w v L := ⟨ownZ_rowV h.row, fun p hp => rowZ_at (h.ent p hp)⟩
/-- A message marked from k on. -/
def mkMg (k : Nat) (p : MgA) : MgA := (⟨((k : Nat) : Int), ((k + 1 : Nat) : Int), ((k + 2 : Nat) : Int), ((k + 3 : Nat) : Int), ((k + 4 : Nat) : Int), ((k + 5 : Nat) : Int), ((k + 6 : Nat) : Int), okM (k + 7), mkEs (k + 8) p.1.es.length⟩, p.2)
theorem sl_mk (k : Nat) (p : MgA) : sl (mkMg k p) = sl p := by unfold sl mkMg; simp only [mkEs_len]
/-- Where the marks of message t begin. -/
def kAt (k : Nat) : List MgA → Nat → Nat
 | _, 0 => k
 | [], _ + 1 => k
 | p :: L, t + 1 => kAt (k + 8 + p.1.es.length * 2) L t
def markL (k : Nat) : List MgA → List MgA
 | [] => []
 | p :: L => mkMg k p :: markL (k + 8 + p.1.es.length * 2) L
theorem markL_len (k : Nat) (L : List MgA) : (markL k L).length = L.length := by
 induction L generalizing k with
 | nil => rfl
 | cons p L ih => simp [markL, ih]
theorem markL_at (k : Nat) (L : List MgA) (t : Nat) (h : t < L.length) : (markL k L)[t]'(by rw [markL_len]; exact h) = mkMg (kAt k L t) L[t] := by
 induction L generalizing k t with
 | nil => simp at h
 | cons p L ih =>
  cases t with
  | zero => rfl
  | succ t => simp only [markL, List.getElem_cons_succ, kAt]; exact ih _ t (by simpa using h)
theorem kAt_succ (k : Nat) (L : List MgA) (t : Nat) (h : t < L.length) : kAt k L (t + 1) = kAt k L t + 8 + L[t].1.es.length * 2 := by
 induction L generalizing k t with
 | nil => simp at h
 | cons p L ih =>
  cases t with
  | zero => cases L <;> rfl
  | succ t => simp only [kAt, List.getElem_cons_succ]; exact ih _ t (by simpa using h)
theorem kAt_le (k : Nat) (L : List MgA) : ∀ s t, s ≤ t → t ≤ L.length → kAt k L s ≤ kAt k L t
 | s, 0, h, _ => by rw [Nat.le_zero.1 h]; exact Nat.le_refl _
 | s, t + 1, h, hl => by
  by_cases e : s = t + 1
  ·rw [e]; exact Nat.le_refl _
  ·have h1 := kAt_le k L s t (by omega) (by omega)
   rw [kAt_succ k L t (by omega)]; omega
end Go.Proofs.YtfogppnijdjakaaGreatDoor
