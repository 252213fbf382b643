/- Texts put together: EntD EntK MkE IntK NdR MknM. -/
import Derived.Test.YtfogppnijdjakaaGreatDoorZG1
import Derived.Test.YtfogppnijdjakaaGreatDoorZG7
import Derived.Test.YtfogppnijdjakaaGreatDoorZG2
import Derived.Deep.Cut
import Derived.Test.YtfogppnijdjakaaGreatDoorZNdL
/- Marks of rows of a number and a text. -/
namespace Go.Proofs.YtfogppnijdjakaaGreatDoor
open Go.ChangeShapes Go.WideShapes Go.ChangeAt Go.RowKit
def mkE (k0 j : Nat) : Value := if j % 2 = 0 then .int .i64 ((k0 + j : Nat) : Int) else .string (mtS (k0 + j))
theorem mkE_even (k0 j : Nat) : mkE k0 (j * 2) = .int .i64 ((k0 + j * 2 : Nat) : Int) := by unfold mkE; rw [if_pos (by omega)]
theorem mkE_odd (k0 j : Nat) : mkE k0 (j * 2 + 1) = .string (mtS (k0 + (j * 2 + 1))) := by unfold mkE; rw [if_neg (by omega)]
def onesEnt (k0 n : Nat) : List Value := (List.range (n * 2)).map (mkE k0)
end Go.Proofs.YtfogppnijdjakaaGreatDoor

/- Rows of entries, states: what the laws' own helpers mark, and tell of marked rows. -/
namespace Go.Proofs.YtfogppnijdjakaaGreatDoor
open Go.ChangeShapes Go.WideShapes Go.ChangeAt Go.RowKit
set_option linter.unusedVariables false
set_option maxHeartbeats 1000000 in
set_option maxRecDepth 100000 in
theorem markEnt (v : Value) (n lo hi k0 : Nat) (xs : List Value) (h1 : 0 < k0) (hk0 : k0 + n * 2 ≤ 30000000) (w : World) (h : HeldZ 2 w lo hi 103 v n xs) :
  Calls Tryz.prog 52 #[v, .int .i64 (k0 : Int)] w fun e w' => e = .returned (.int .i64 ((k0 + n * 2 : Nat) : Int)) ∧ HeldZ 2 w' lo hi 103 v n (onesEnt k0 n) ∧ w.grownBy w' v.ownBlock := by
 have HX := hide (show xs.length = n * 2 from h.1.1)
 unfold onesEnt
 rcases h.1.2 with ⟨rfl, rfl⟩ | ⟨g, cap, cur, rfl, _⟩
 ·go_enter Tryz.func52, Tryz.ntmps52
  go_wp2_with fail
  go_loopw [1, 5] (fun kk i wr => kk = .int .i64 (k0 : Int) ∧ i = .int .i64 0 ∧ wr = w) (fun _ _ _ => 0)
  case atStart => exact ⟨rfl, rfl, rfl⟩
  case round =>
   obtain ⟨rfl, rfl, rfl⟩ := hrel
   have h' : HeldZ 2 wr lo hi 103 (.slice none 0 0) 0 ((List.range (0 * 2)).map (mkE k0)) := by
    have := List.length_eq_zero_iff.1 ((unhide HX).trans (by omega)); subst this; exact h
   go_wp2_with fail
   go_ret
   exact ⟨ret_int (by simp), h', grownBy_refl _ _⟩
 ·have HH := hide h
  clear h
  go_enter Tryz.func52, Tryz.ntmps52
  go_wp2_with fail
  go_loopw [1, 5] (fun kk i wr => ∃ j q : Nat, j ≤ n ∧ Hid (q = k0 + j * 2) ∧ i = .int .i64 j ∧ kk = .int .i64 (q : Int) ∧ Hid (HeldZ 2 wr lo hi 103 (.slice (some ⟨g, 0, none⟩) n cap) n (markV xs (mkE k0) (j * 2))) ∧ Hid (w.grownBy wr (some g))) (fun _ i _ => n - (intOf i).toNat)
  case atStart => exact ⟨0, k0, by omega, by show k0 = k0 + 0 * 2; omega, rfl, rfl, by rw [Nat.zero_mul, markV_zero]; exact HH, grownBy_refl _ _⟩
  case round =>
   clear HH
   obtain ⟨j, q, hj, HQ, rfl, rfl, HH, HG⟩ := hrel
   by_cases hlt : j < n
   ·obtain ⟨u0, hu0⟩ := cell_of (xs := xs) (j := j * 2) (by rw [unhide HX]; omega)
    obtain ⟨u1, hu1⟩ := cell_of (xs := xs) (j := j * 2 + 1) (by rw [unhide HX]; omega)
    have hq2 : q ≤ 33000000 := by have := unhide HQ; omega
    obtain ⟨q1, hq1⟩ : ∃ q1, q1 = q + 1 := ⟨_, rfl⟩
    have hown := (unhide HH).1
    have hc2 : wr.cell? ⟨g, j * 2, none⟩ = some u0 := by rw [hown.cellAt (j * 2) (by omega), markV_at, hu0]
    have hf2 := hown.frozenAt (j * 2)
    have R := (hown.stored (j * 2) (mkE k0 (j * 2))).1
    rw [markV_set xs (mkE k0) (j * 2) (by rw [unhide HX]; omega), mkE_even] at R
    have hqe : ((k0 + j * 2 : Nat) : Int) = (q : Int) := by rw [unhide HQ]
    rw [hqe] at R
    have RH : Hid (HeldZ 2 (wr.setCell ⟨g, j * 2, none⟩ (.int .i64 (q : Int))) lo hi 103 (.slice (some ⟨g, 0, none⟩) n cap) n (markV xs (mkE k0) (j * 2 + 1))) := ⟨R, (unhide HH).2.1, by have := (unhide HH).2.2; simpa using this⟩
    have RG := hide (World.grownBy.trans' (unhide HG) (stored_grown (g := g) (j := j * 2) (u := .int .i64 (q : Int))))
    have hlt' : (j : Int) < (n : Int) := by omega
    have hlt0 : (0 : Int) ≤ (j : Int) := by omega
    have a1 : (q : Int) + 1 = (q1 : Int) := by omega
    have hqb : (q : Int) ≤ 33000000 := by omega
    have HQ1 := hide hq1
    have hq1p : 0 < q1 := by omega
    have hq1b : q1 ≤ 40000000 := by omega
    have HU1 := hide hu1
    clear hqe R hown HH HG hu0 hu1 hq1
    go_upto_region 6 with fail
    generalize wr.setCell ⟨g, j * 2, none⟩ (.int .i64 (q : Int)) = w1 at RH RG ⊢
    go_wp2_with fail
    refine (markText27 q1 hq1p hq1b _).mono ?_
    rintro e w2 ⟨rfl, hb2⟩
    have H2 := (unhide RH).below hb2 (unhide RH).le
    have hown2 := H2.1
    have hc3 : w2.cell? ⟨g, j * 2 + 1, none⟩ = some u1 := by rw [hown2.cellAt (j * 2 + 1) (by omega), markV_at, unhide HU1]
    have hf3 := hown2.frozenAt (j * 2 + 1)
    have R := (hown2.stored (j * 2 + 1) (mkE k0 (j * 2 + 1))).1
    rw [markV_set xs (mkE k0) (j * 2 + 1) (by rw [unhide HX]; omega), mkE_odd, show j * 2 + 1 + 1 = (j + 1) * 2 from by omega] at R
    have hqe : k0 + (j * 2 + 1) = q1 := by have := unhide HQ; have := unhide HQ1; omega
    rw [hqe] at R
    have RH2 : Hid (HeldZ 2 (w2.setCell ⟨g, j * 2 + 1, none⟩ (.string (mtS q1))) lo hi 103 (.slice (some ⟨g, 0, none⟩) n cap) n (markV xs (mkE k0) ((j + 1) * 2))) := ⟨R, H2.2.1, by have := H2.2.2; simpa using this⟩
    have RG2 := hide (World.grownBy.trans' (World.grownBy.trans' (unhide RG) (below_asGrown hb2)) (stored_grown (g := g) (j := j * 2 + 1) (u := .string (mtS q1))))
    have hz2 : ¬ w2.heap.size = g := by have := (H2.blk g rfl).2; have := H2.le; omega
    have a2 : (q1 : Int) ≤ 40000000 := by omega
    clear R hown2 H2 hqe hb2 RH RG HU1 a1
    go_wp2_with fail
    go_roundw
    case rel => exact ⟨j + 1, q1 + 1, by omega, by show q1 + 1 = k0 + (j + 1) * 2; have := unhide HQ; have := unhide HQ1; omega, by go_num, by go_num, RH2, RG2⟩
    case measure => simp [intOf]; omega
   ·have ej : j = n := by omega
    rw [ej, markV_all xs _ (n * 2) (unhide HX).symm] at HH
    have eq2 : (q : Int) = ((k0 + n * 2 : Nat) : Int) := by rw [unhide HQ, ej]
    go_wp2_with fail
    go_ret
    exact ⟨ret_int eq2, unhide HH, unhide HG⟩
end Go.Proofs.YtfogppnijdjakaaGreatDoor

/- Entries as marks; a row that is turned cell by cell. -/
namespace Go.Proofs.YtfogppnijdjakaaGreatDoor
open Go.ChangeShapes Go.WideShapes Go.ChangeAt Go.RowKit
set_option linter.unusedVariables false
/-- The marks of a row of entries, as entries. -/
def mkEs (k n : Nat) : List Ent := (List.range n).map fun j => (((k + j * 2 : Nat) : Int), mtS (k + (j * 2 + 1)))
theorem mkEs_len (k n : Nat) : (mkEs k n).length = n := by simp [mkEs]
theorem mkEs_ones (k n : Nat) : cE (mkEs k n) = onesEnt k n := by
 apply List.ext_getElem?
 intro i
 by_cases h : i < n * 2
 ·obtain ⟨t, ht⟩ : ∃ t, t = i / 2 := ⟨_, rfl⟩
  have htl : t < (mkEs k n).length := by rw [mkEs_len]; omega
  have hc := cE_at (mkEs k n) t htl
  have hr : (onesEnt k n)[i]? = some (mkE k i) := by unfold onesEnt; rw [List.getElem?_map, List.getElem?_range h]; rfl
  rw [hr]
  have hg : (mkEs k n)[t] = (((k + t * 2 : Nat) : Int), mtS (k + (t * 2 + 1))) := by simp [mkEs]
  rw [hg] at hc
  rcases Nat.mod_two_eq_zero_or_one i with h2 | h2
  ·have e : i = t * 2 := by omega
   rw [e, hc.1, mkE_even]
  ·have e : i = t * 2 + 1 := by omega
   rw [e, hc.2, mkE_odd]
 ·rw [List.getElem?_eq_none (by rw [cE_len, mkEs_len]; omega), List.getElem?_eq_none (by unfold onesEnt; simp; omega)]
def okM (k : Nat) : Bool := (k : Int) % 3 == 0
/-- The first j cells as they become, the others as they were. -/
def mix (xs ys : List Value) (j : Nat) : List Value := ys.take j ++ xs.drop j
theorem mix_zero (xs ys : List Value) : mix xs ys 0 = xs := by simp [mix]
theorem mix_all (xs ys : List Value) (j : Nat) (h : xs.length ≤ j) (h2 : ys.length ≤ j) : mix xs ys j = ys := by simp [mix, List.take_of_length_le h2, List.drop_of_length_le h]
theorem mix_at (xs ys : List Value) (j : Nat) (h : j ≤ ys.length) : (mix xs ys j)[j]? = xs[j]? := by
 unfold mix
 rw [List.getElem?_append_right (by simp; omega), List.length_take, Nat.min_eq_left h, Nat.sub_self, List.getElem?_drop]
 simp
theorem mix_set (xs ys : List Value) (j : Nat) (u : Value) (hx : j < xs.length) (hy : ys[j]? = some u) : (mix xs ys j).set j u = mix xs ys (j + 1) := by
 have hyl : j < ys.length := by
  rcases Nat.lt_or_ge j ys.length with h | h
  ·exact h
  ·rw [List.getElem?_eq_none h] at hy; cases hy
 have hg : ys[j] = u := by rw [List.getElem?_eq_getElem hyl] at hy; exact Option.some.inj hy
 unfold mix
 rw [List.set_append_right _ _ (by simp; omega), List.length_take, Nat.min_eq_left (Nat.le_of_lt hyl), Nat.sub_self, List.drop_eq_getElem_cons hx, List.set_cons_zero, List.take_succ_eq_append_getElem hyl, hg]
 simp
theorem mix_same (xs ys : List Value) (j : Nat) (hx : j < xs.length) (hy : ys[j]? = xs[j]?) : mix xs ys j = mix xs ys (j + 1) := by
 rw [List.getElem?_eq_getElem hx] at hy
 have := mix_set xs ys j _ hx hy
 rw [← this]
 have hm := mix_at xs ys j (by rcases Nat.lt_or_ge j ys.length with h | h; exact Nat.le_of_lt h; rw [List.getElem?_eq_none h] at hy; cases hy)
 rw [List.getElem?_eq_getElem hx] at hm
 obtain ⟨hl, hv⟩ := List.getElem?_eq_some_iff.1 hm
 rw [← hv, List.set_getElem_self]
end Go.Proofs.YtfogppnijdjakaaGreatDoor

/- Marks in a row of integers from any number on, and these found again. -/
namespace Go.Proofs.YtfogppnijdjakaaGreatDoor
open Go.ChangeShapes Go.WideShapes Go.ChangeAt Go.RowKit
set_option maxHeartbeats 400000 in
set_option maxRecDepth 100000 in
theorem markIntK (v : Value) (n lo hi k0 : Nat) (xs : List Value) (hn : n ≤ 30000000) (hk0 : k0 ≤ 30000000) (w : World) (h : Held w lo hi 3 v n xs) :
  Calls Tryz.prog 53 #[v, .int .i64 (k0 : Int)] w fun e w' => e = .returned (.int .i64 ((k0 + n : Nat) : Int)) ∧ Held w' lo hi 3 v n ((List.range n).map fun j => .int .i64 (((k0 + j : Nat) : Int))) ∧ w.grownBy w' v.ownBlock := by
 have HX := hide (show xs.length = n from by have := h.1.1; omega)
 rcases h.1.2 with ⟨rfl, rfl⟩ | ⟨g, cap, cur, rfl, _⟩
 ·go_enter Tryz.func53, Tryz.ntmps53
  go_wp2_with fail
  go_loopw [1, 5] (fun kk i wr => kk = .int .i64 (k0 : Int) ∧ i = .int .i64 0 ∧ wr = w) (fun _ _ _ => 0)
  case atStart => exact ⟨rfl, rfl, rfl⟩
  case round =>
   obtain ⟨rfl, rfl, rfl⟩ := hrel
   have h' : Held wr lo hi 3 (.slice none 0 0) 0 ((List.range 0).map fun j => .int .i64 (((k0 + j : Nat) : Int))) := by
    have := List.length_eq_zero_iff.1 (unhide HX); subst this; exact h
   go_wp2_with fail
   go_ret
   exact ⟨ret_int (by simp), h', grownBy_refl _ _⟩
 ·have HH := hide h
  clear h
  go_enter Tryz.func53, Tryz.ntmps53
  go_wp2_with fail
  go_loopw [1, 5] (fun kk i wr => ∃ j q : Nat, j ≤ n ∧ q = k0 + j ∧ i = .int .i64 j ∧ kk = .int .i64 (q : Int) ∧ Held wr lo hi 3 (.slice (some ⟨g, 0, none⟩) n cap) n (markV xs (fun j => .int .i64 (((k0 + j : Nat) : Int))) j) ∧ w.grownBy wr (some g)) (fun _ i _ => n - (intOf i).toNat)
  case atStart => exact ⟨0, k0, by omega, rfl, rfl, rfl, by rw [markV_zero]; exact unhide HH, grownBy_refl _ _⟩
  case round =>
   clear HH
   obtain ⟨j, q, hj, hq, rfl, rfl, HH, hg⟩ := hrel
   by_cases hlt : j < n
   ·obtain ⟨u0, hu0⟩ := cell_of (xs := xs) (j := j) (by rw [unhide HX]; exact hlt)
    have hown := HH.1
    have hc2 : wr.cell? ⟨g, j, none⟩ = some u0 := by rw [hown.cellAt j (by omega), markV_at, hu0]
    have hf2 := hown.frozenAt j
    have hlt' : (j : Int) < (n : Int) := by omega
    have hq2 : (q : Int) ≤ 80000000 := by omega
    have R := (hown.stored j (.int .i64 (((k0 + j : Nat) : Int)))).1
    rw [markV_set xs (fun j => .int .i64 (((k0 + j : Nat) : Int))) j (by rw [unhide HX]; exact hlt)] at R
    have RH : Held (wr.setCell ⟨g, j, none⟩ (.int .i64 (((k0 + j : Nat) : Int)))) lo hi 3 (.slice (some ⟨g, 0, none⟩) n cap) n (markV xs (fun j => .int .i64 (((k0 + j : Nat) : Int))) (j + 1)) := ⟨R, HH.2.1, by have := HH.2.2; simpa using this⟩
    have RG := World.grownBy.trans' hg (stored_grown (g := g) (j := j) (u := .int .i64 (((k0 + j : Nat) : Int))))
    have hqe : ((k0 + j : Nat) : Int) = (q : Int) := by omega
    rw [hqe] at RH RG
    have RH := hide RH
    have RG := hide RG
    have HQ := hide hq
    clear hqe hq
    have hne : ((q : Int) != (q : Int)) = false := by simp
    clear hown R HH hg hu0
    go_wp2_with fail
    go_roundw
    case rel => exact ⟨j + 1, q + 1, by omega, by have := unhide HQ; omega, by go_num, by go_num, unhide RH, unhide RG⟩
    case measure => simp [intOf]; omega
   ·have ej : j = n := by omega
    rw [ej, markV_all xs _ n (unhide HX).symm] at HH
    have eq2 : (q : Int) = ((k0 + n : Nat) : Int) := by omega
    clear hq
    go_wp2_with fail
    go_ret
    exact ⟨ret_int eq2, HH, hg⟩

end Go.Proofs.YtfogppnijdjakaaGreatDoor

/- Marks in a node's four rows, and these found again; what lies elsewhere stands. -/
namespace Go.Proofs.YtfogppnijdjakaaGreatDoor
open Go.ChangeShapes Go.WideShapes Go.ChangeAt Go.RowKit
set_option linter.unusedVariables false
/-- Only blocks between lo and hi turned. -/
structure Outs (lo hi : Nat) (w w' : World) : Prop where
 os : w'.os = w.os
 tape : w'.tape = w.tape
 output : w'.output = w.output
 size : w.heap.size ≤ w'.heap.size
 block : ∀ k, k < w.heap.size → (k < lo ∨ hi ≤ k) → w'.heap[k]? = w.heap[k]?
theorem Outs.trans {lo hi : Nat} {a b c : World} (h : Outs lo hi a b) (k : Outs lo hi b c) : Outs lo hi a c :=
 ⟨k.os.trans h.os, k.tape.trans h.tape, k.output.trans h.output, Nat.le_trans h.size k.size, fun i hi ho => (k.block i (Nat.lt_of_lt_of_le hi h.size) ho).trans (h.block i hi ho)⟩
theorem Outs.of_below {lo hi : Nat} {w w' : World} (h : Below w.heap.size w w') : Outs lo hi w w' := ⟨h.os, h.tape, h.output, h.size, fun k hk _ => h.block k hk⟩
theorem Outs.of_grown {lo hi : Nat} {row : Option Nat} {w w' : World} (h : w.grownBy w' row) (hr : ∀ k, row = some k → lo ≤ k ∧ k < hi) : Outs lo hi w w' :=
 ⟨h.os, h.tape, h.output, h.size, fun k hk ho => h.block k hk (fun e => by have := hr k e.symm; omega)⟩
theorem Held.outs {lo hi lo2 hi2 : Nat} {w w' : World} {e : TypeId} {v : Value} {n : Nat} {xs : List Value} (h : Held w lo2 hi2 e v n xs) (ho : Outs lo hi w w') (hd : hi2 ≤ lo ∨ hi ≤ lo2) : Held w' lo2 hi2 e v n xs := by
 obtain ⟨⟨hl, h2⟩, hk, hs⟩ := h
 refine ⟨⟨hl, ?_⟩, hk, Nat.le_trans hs ho.size⟩
 rcases h2 with h2 | ⟨g, cap, cur, rfl, hbg, hg, hrest⟩
 ·exact .inl h2
 ·have := hk g rfl
  exact .inr ⟨g, cap, cur, rfl, hbg, (ho.block g (by omega) (by omega)).trans hg, hrest⟩
theorem HeldZ.outs {z lo hi lo2 hi2 : Nat} {w w' : World} {e : TypeId} {v : Value} {n : Nat} {xs : List Value} (h : HeldZ z w lo2 hi2 e v n xs) (ho : Outs lo hi w w') (hd : hi2 ≤ lo ∨ hi ≤ lo2) : HeldZ z w' lo2 hi2 e v n xs := by
 obtain ⟨⟨hl, h2⟩, hk, hs⟩ := h
 refine ⟨⟨hl, ?_⟩, hk, Nat.le_trans hs ho.size⟩
 rcases h2 with h2 | ⟨g, cap, cur, rfl, hbg, hg, hrest⟩
 ·exact .inl h2
 ·have := hk g rfl
  exact .inr ⟨g, cap, cur, rfl, hbg, (ho.block g (by omega) (by omega)).trans hg, hrest⟩
theorem BF.outs {lo hi n : Nat} {cs : Array Value} {w w' : World} (h : BF n cs w) (ho : Outs lo hi w w') (hd : n < lo ∨ hi ≤ n) : BF n cs w' := h.keep ho.size (ho.block n h.lt hd)
theorem Below.outs {B lo hi : Nat} {w0 w w' : World} (h : Below B w0 w) (hB : B ≤ w.heap.size) (ho : Outs lo hi w w') (hd : B ≤ lo) : Below B w0 w' :=
 h.trans ⟨ho.os, ho.tape, ho.output, ho.size, fun k hk => ho.block k (by omega) (.inl (by omega))⟩
/-- The marks of a row of integers from k0 on. -/
def onesI (k0 n : Nat) : List Value := (List.range n).map fun j => .int .i64 (((k0 + j : Nat) : Int))
end Go.Proofs.YtfogppnijdjakaaGreatDoor

/- Nodes marked, one behind the other. Plain mathematics. -/
namespace Go.Proofs.YtfogppnijdjakaaGreatDoor
open Go.ChangeShapes Go.WideShapes Go.ChangeAt Go.RowKit
set_option linter.unusedVariables false
def mkI (k n : Nat) : List Int := (List.range n).map fun j => ((k + j : Nat) : Int)
theorem mkI_len (k n : Nat) : (mkI k n).length = n := by simp [mkI]
theorem mkI_ones (k n : Nat) : cI (mkI k n) = (List.range n).map fun j => .int .i64 (((k + j : Nat) : Int)) := by unfold cI mkI; rw [List.map_map]; rfl
/-- A node marked from k on. -/
def mkNd (k : Nat) (p : NdA) : NdA :=
 ⟨⟨((k : Nat) : Int), ((k + 1 : Nat) : Int), ((k + 2 : Nat) : Int), ((k + 3 : Nat) : Int), ((k + 4 : Nat) : Int), okM (k + 5), mkEs (k + 6) p.n.l.length, ((k + 6 + p.n.l.length * 2 : Nat) : Int), ((k + 6 + p.n.l.length * 2 + 1 : Nat) : Int), ((k + 6 + p.n.l.length * 2 + 2 : Nat) : Int),
  mkI (k + 6 + p.n.l.length * 2 + 3) p.n.lv.length, mkI (k + 6 + p.n.l.length * 2 + 3 + p.n.lv.length) p.n.lx.length, mkI (k + 6 + p.n.l.length * 2 + 3 + p.n.lv.length + p.n.lx.length) p.n.lg.length⟩, p.ea, p.ec, p.va, p.vc, p.xa, p.xc, p.ga, p.gc⟩
def kN (k : Nat) (p : NdA) : Nat := k + 6 + p.n.l.length * 2 + 3 + p.n.lv.length + p.n.lx.length + p.n.lg.length
/-- Where the marks of node t begin. -/
def kAtN (k : Nat) : List NdA → Nat → Nat
 | _, 0 => k
 | [], _ + 1 => k
 | p :: L, t + 1 => kAtN (kN k p) L t
def markNs (k : Nat) : List NdA → List NdA
 | [] => []
 | p :: L => mkNd k p :: markNs (kN k p) L
theorem markNs_len (k : Nat) (L : List NdA) : (markNs k L).length = L.length := by
 induction L generalizing k with
 | nil => rfl
 | cons p L ih => simp [markNs, ih]
theorem markNs_at (k : Nat) (L : List NdA) (t : Nat) (h : t < L.length) : (markNs k L)[t]'(by rw [markNs_len]; exact h) = mkNd (kAtN k L t) L[t] := by
 induction L generalizing k t with
 | nil => simp at h
 | cons p L ih =>
  cases t with
  | zero => rfl
  | succ t => simp only [markNs, List.getElem_cons_succ, kAtN]; exact ih _ t (by simpa using h)
theorem kAtN_succ (k : Nat) (L : List NdA) (t : Nat) (h : t < L.length) : kAtN k L (t + 1) = kN (kAtN k L t) L[t] := by
 induction L generalizing k t with
 | nil => simp at h
 | cons p L ih =>
  cases t with
  | zero => cases L <;> rfl
  | succ t => simp only [kAtN, List.getElem_cons_succ]; exact ih _ t (by simpa using h)
theorem kAtN_le (k : Nat) (L : List NdA) : ∀ s t, s ≤ t → t ≤ L.length → kAtN k L s ≤ kAtN k L t
 | s, 0, h, _ => by rw [Nat.le_zero.1 h]; exact Nat.le_refl _
 | s, t + 1, h, hl => by
  by_cases e : s = t + 1
  ·rw [e]; exact Nat.le_refl _
  ·have h1 := kAtN_le k L s t (by omega) (by omega)
   rw [kAtN_succ k L t (by omega)]; unfold kN; omega
theorem kAtN_pos (k : Nat) (L : List NdA) (t : Nat) (h : t ≤ L.length) : k ≤ kAtN k L t := by
 have := kAtN_le k L 0 t (Nat.zero_le _) h
 cases L <;> exact this
/-- The rows of a row of nodes, all apart. -/
def ndF (v : Value) (n : Nat) (L : List NdA) : List RD := ⟨71, 13, v, n, L.flatMap cN⟩ :: L.flatMap nrows
theorem FOwn.turnAt {w w' : World} {lo : Nat} {L L2 F G : List RD} {r s : RD} (h : FOwn w lo L) (e : L = F ++ r :: G) (e2 : L2 = F ++ s :: G) (hg : w.grownBy w' r.v.ownBlock) (hs : s.own w' lo) (hv : s.v.ownBlock = r.v.ownBlock) : FOwn w' lo L2 := by
 subst e e2; exact h.turn hg hs hv
theorem FOwn.head {w : World} {lo : Nat} {r : RD} {L : List RD} (h : FOwn w lo (r :: L)) : w.ownsRow lo r.t r.z r.v r.n r.xs := h.own r (List.mem_cons_self ..)
theorem FOwn.outs {w w' : World} {lo lo2 hi2 : Nat} {F : List RD} (h : FOwn w lo F) (ho : Outs lo2 hi2 w w') (hd : hi2 ≤ lo ∨ ∀ r ∈ F, ∀ j, r.v.ownBlock = some j → j < lo2) : FOwn w' lo F := by
 refine ⟨fun r hr => ?_, h.apart⟩
 have hr' : w.ownsRow lo r.t r.z r.v r.n r.xs := h.own r hr
 obtain ⟨hl, h2⟩ := hr'
 refine ⟨hl, ?_⟩
 rcases h2 with h2 | ⟨g, cap, cur, e, hbg, hg, hrest⟩
 ·exact .inl h2
 ·have hgl : g < w.heap.size := by rcases Nat.lt_or_ge g w.heap.size with h | h; exact h; rw [Array.getElem?_eq_none h] at hg; cases hg
  have hk : g < lo2 ∨ hi2 ≤ g := by
   rcases hd with hd | hd
   ·exact .inr (by omega)
   ·exact .inl (hd r hr g (by rw [e]; rfl))
  exact .inr ⟨g, cap, cur, e, hbg, (ho.block g hgl hk).trans hg, hrest⟩
end Go.Proofs.YtfogppnijdjakaaGreatDoor
