/- Twelve stores into a screen's block; rows of cells appended, empty or not. -/
import Derived.Test.YtpcdjpfffanlbaaDoorZBf
import Derived.Test.YtpcdjpfffanlbaaDoorZPair
import Derived.Deep.AppendLies
import Derived.Deep.AppendSrc
import Derived.Deep.Upon
import Derived.Lib.SliceRun
import Derived.Lib.SmallJoins
namespace Go.Proofs.YtpcdjpfffanlbaaDoor
open Go.ChangeShapes Go.WideShapes Go.ChangeAt Go.RowKit
set_option linter.unusedVariables false
theorem own_capS {w : World} {base : Nat} {e : TypeId} {z : Nat} {a : Option Addr} {n cap : Nat} {xs : List Value} (h : w.ownsRow base e z (.slice a n cap) n xs) : n ≤ cap := by
 rcases h.2 with ⟨e, e2⟩ | ⟨g, c, cur, e, _, _, h3⟩
 ·cases e; omega
 ·cases e; exact h3.1
theorem cP_oneS (l : List (Int × Int)) : ∀ u ∈ cP l, u.oneCell' = true := by
 intro u hu
 unfold cP at hu
 obtain ⟨c, _, hc⟩ := List.mem_flatMap.1 hu
 simp at hc
 rcases hc with rfl | rfl <;> rfl
/-- At a step of a drawn region: a row of cells gets another one, empty or not. -/
theorem step_append_cells {P : Program} (w : World) {ops : Array Oper} {o : Oper} {a : Act} {K : Act → World → Prop} {Q : Exit → Act → World → Prop} {E : Prop} (hgd : o.guard = none) (s x : Operand) (t : TypeId)
  (ho : o.op = .call { callee := .builtin .append, args := #[s, x], argTypes := #[t, t] }) (base : Nat) (e : TypeId) (i : TypeInfo) (ht : P.underlying t = some (.slice e)) (hi : P.info? e = some i) (hz : i.zero = some (.agg #[.int .i64 0, .int .i64 0])) (hsize : i.size = 2) (hby : i.bytes = 16)
  (v : Value) (q : Nat) (xs : List Value) (hs : a.eval s = v) (hown : w.ownsRow base e 2 v q xs)
  (sp : Option Addr) (sc n : Nat) (l : List (Int × Int)) (hn : l.length = n) (hx : a.eval x = .slice sp n sc) (hr : RowV w sp (cP l)) (hb : q + n ≤ 1048576) (hbase : base ≤ w.heap.size)
  (h : ∀ v' w', w'.ownsRow base e 2 v' (q + n) (xs ++ cP l) → w.grownBy w' v.ownBlock → K (a.put o.dst v') w') :
  if Region.wanted o (yielded ops a.tmps) = true then Oper.wp P o a w K Q else E := by
 by_cases h0 : n = 0
 ·subst h0
  obtain rfl : l = [] := List.length_eq_zero_iff.1 hn
  obtain ⟨pv, cv, rfl, -⟩ := ownZ_rowV hown
  have hsrc : Src P i.size t (.slice sp 0 sc) 0 [] w := by
   cases sp with
   | none => exact Src.ofNil w ht sc
   | some ad => exact Src.ofSlice w ht ad 0 sc [] (by simp) (fun j u hu => by simp at hu) (fun u hu => by cases hu)
  have hrun := run_append_nothing (P := P) w t t o.type e i ht hi pv q cv (own_capS hown) (.slice sp 0 sc) hsrc
  have hw : Region.wanted o (yielded ops a.tmps) = true := by simp [Region.wanted, hgd]
  rw [if_pos hw]
  unfold Oper.wp
  simp [execOp, ho, resolve, invoke, builtin, hs, hx, hrun, Result.andThen]
  refine h _ w ?_ (grownBy_refl _ _)
  rw [show xs ++ cP [] = xs from by simp [cP]]
  exact hown
 ·obtain ⟨b, off, rfl, _, hc⟩ := hr.at (by rw [cP_len]; omega)
  refine step_append_lies w hgd s x t ho base e i (.agg #[.int .i64 0, .int .i64 0]) 2 16 ht hi hz hsize hby rfl (by decide) v q xs hs hown ⟨b, off, none⟩ n sc (cP l) hx (by rw [cP_len, hn]) ?_ (cP_oneS l) (by omega) (by unfold maxLen; omega) (by omega) hbase _ rfl ?_
  ·intro j u hu
   rw [show (⟨b, off, none⟩ : Addr).add j = ⟨b, off + j, none⟩ from by unfold Addr.add; split <;> simp_all]
   exact hc j u hu
  ·intro g cap w' ho1 hg1 hat _
   exact h (.slice (some ⟨g, 0, none⟩) (q + n) cap) w' ho1 hg1
set_option maxHeartbeats 4000000 in
theorem put12G {p : Nat} {u0 u1 u2 u3 u4 u5 u6 u7 u8 u9 u10 u11 : Value} (w : World) (h : BF p #[u0, u1, u2, u3, u4, u5, u6, u7, u8, u9, u10, u11] w) (v0 v1 v2 v3 v4 v5 v6 v7 v8 v9 v10 v11 : Value) :
  ∃ w', w' = ((((((((((((w.setCell ⟨p, 0, none⟩ v0).setCell ⟨p, 1, none⟩ v1).setCell ⟨p, 2, none⟩ v2).setCell ⟨p, 3, none⟩ v3).setCell ⟨p, 4, none⟩ v4).setCell ⟨p, 5, none⟩ v5).setCell ⟨p, 6, none⟩ v6).setCell ⟨p, 7, none⟩ v7).setCell ⟨p, 8, none⟩ v8).setCell ⟨p, 9, none⟩ v9).setCell ⟨p, 10, none⟩ v10).setCell ⟨p, 11, none⟩ v11) ∧ BF p #[v0, v1, v2, v3, v4, v5, v6, v7, v8, v9, v10, v11] w' ∧ Below p w w' ∧ w.grownBy w' (some p) := by
 obtain ⟨w', e⟩ : ∃ w', w' = ((((((((((((w.setCell ⟨p, 0, none⟩ v0).setCell ⟨p, 1, none⟩ v1).setCell ⟨p, 2, none⟩ v2).setCell ⟨p, 3, none⟩ v3).setCell ⟨p, 4, none⟩ v4).setCell ⟨p, 5, none⟩ v5).setCell ⟨p, 6, none⟩ v6).setCell ⟨p, 7, none⟩ v7).setCell ⟨p, 8, none⟩ v8).setCell ⟨p, 9, none⟩ v9).setCell ⟨p, 10, none⟩ v10).setCell ⟨p, 11, none⟩ v11) := ⟨_, rfl⟩
 have hF : BF p #[v0, v1, v2, v3, v4, v5, v6, v7, v8, v9, v10, v11] w' := by
  rw [e]
  have h0 : BF p #[v0, u1, u2, u3, u4, u5, u6, u7, u8, u9, u10, u11] _ := h.set 0 (by simp) v0
  have h1 : BF p #[v0, v1, u2, u3, u4, u5, u6, u7, u8, u9, u10, u11] _ := h0.set 1 (by simp) v1
  have h2 : BF p #[v0, v1, v2, u3, u4, u5, u6, u7, u8, u9, u10, u11] _ := h1.set 2 (by simp) v2
  have h3 : BF p #[v0, v1, v2, v3, u4, u5, u6, u7, u8, u9, u10, u11] _ := h2.set 3 (by simp) v3
  have h4 : BF p #[v0, v1, v2, v3, v4, u5, u6, u7, u8, u9, u10, u11] _ := h3.set 4 (by simp) v4
  have h5 : BF p #[v0, v1, v2, v3, v4, v5, u6, u7, u8, u9, u10, u11] _ := h4.set 5 (by simp) v5
  have h6 : BF p #[v0, v1, v2, v3, v4, v5, v6, u7, u8, u9, u10, u11] _ := h5.set 6 (by simp) v6
  have h7 : BF p #[v0, v1, v2, v3, v4, v5, v6, v7, u8, u9, u10, u11] _ := h6.set 7 (by simp) v7
  have h8 : BF p #[v0, v1, v2, v3, v4, v5, v6, v7, v8, u9, u10, u11] _ := h7.set 8 (by simp) v8
  have h9 : BF p #[v0, v1, v2, v3, v4, v5, v6, v7, v8, v9, u10, u11] _ := h8.set 9 (by simp) v9
  have h10 : BF p #[v0, v1, v2, v3, v4, v5, v6, v7, v8, v9, v10, u11] _ := h9.set 10 (by simp) v10
  exact h10.set 11 (by simp) v11
 have hB : Below p w w' := by
  rw [e]
  iterate 12 refine Below.setCell ?_ (by exact Nat.le_refl _) _
  exact Below.refl _ _
 refine ⟨w', e, hF, hB, ⟨hB.os, hB.tape, hB.output, hB.size, fun k hk hne => ?_⟩⟩
 have hkp : k ≠ p := fun e => hne (by rw [e])
 rw [e]
 iterate 12 rw [Below.heap_setCell _ _ _ _ hkp]
end Go.Proofs.YtpcdjpfffanlbaaDoor
