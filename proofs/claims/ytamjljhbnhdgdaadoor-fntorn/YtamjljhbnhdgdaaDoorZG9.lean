/- Texts put together: ClnI CopI OwnM. -/
import Derived.Test.YtamjljhbnhdgdaaDoorZG3
import Derived.Test.YtamjljhbnhdgdaaDoorZG7
import Derived.Deep.AppendLies
import Derived.Deep.AppendSrc
import Derived.Deep.Upon
import Derived.Lib.SliceRun
import Derived.Lib.SmallJoins
import Derived.Test.YtamjljhbnhdgdaaDoorZG2
import Derived.Laws.AppendOwn
import Derived.Laws.CopyRow
/- Logs copied: slices.Clone, (State).copied, l07Own. append of entries. -/
namespace Go.Proofs.YtamjljhbnhdgdaaDoor
open Go.ChangeShapes Go.WideShapes Go.ChangeAt Go.RowKit
set_option linter.unusedVariables false
theorem Tryd.infE62 : (Tryd.prog.info? 62).map (fun i => (i.zero, i.size, i.bytes)) = some (some (.agg #[.int .i64 0, .string ⟨#[]⟩]), 2, 24) := by kernel_rfl
/-- An empty literal that gets a row of entries, empty or not. -/
theorem append_ents {P : Program} (w : World) {ops : Array Oper} {rest : List Oper} {o : Oper} {a : Act} {Q : Exit → Act → World → Prop} (hgd : o.guard = none) (s x : Operand) (t : TypeId)
  (ho : o.op = .call { callee := .builtin .append, args := #[s, x], argTypes := #[t, t] }) (base : Nat) (e : TypeId) (i : TypeInfo) (ht : P.underlying t = some (.slice e)) (hi : P.info? e = some i) (hz : i.zero = some (.agg #[.int .i64 0, .string ⟨#[]⟩])) (hsize : i.size = 2) (hby : i.bytes = 24)
  (v : Value) (hs : a.eval s = v) (hown : w.ownsRow base e 2 v 0 [])
  (sp : Option Addr) (sc n : Nat) (l : List (Int × ByteArray)) (hn : l.length = n) (hx : a.eval x = .slice sp n sc) (hr : RowV w sp (cE l)) (hb : n ≤ 1048576) (hbase : base ≤ w.heap.size)
  (h : ∀ v' w', w'.ownsRow base e 2 v' n (cE l) → w.grownBy w' v.ownBlock → wpList P ops Q rest (a.put o.dst v') w') :
  wpList P ops Q (o :: rest) a w := by
 by_cases h0 : n = 0
 ·subst h0
  obtain rfl : l = [] := List.length_eq_zero_iff.1 hn
  obtain ⟨pv, cv, rfl, -⟩ := ownZ_rowV hown
  have hsrc : Src P i.size t (.slice sp 0 sc) 0 [] w := by
   cases sp with
   | none => exact Src.ofNil w ht sc
   | some ad => exact Src.ofSlice w ht ad 0 sc [] (by simp) (fun j u hu => by simp at hu) (fun u hu => by cases hu)
  have hrun := run_append_nothing (P := P) w t t o.type e i ht hi pv 0 cv (Nat.zero_le _) (.slice sp 0 sc) hsrc
  refine wpList_plain hgd fun K hK => ?_
  unfold Oper.wp
  simp [execOp, ho, resolve, invoke, builtin, hs, hx, hrun, Result.andThen]
  exact hK _ _ (h _ w hown (grownBy_refl _ _))
 ·obtain ⟨b, off, rfl, _, hc⟩ := hr.at (by rw [cE_len]; omega)
  refine wpList_append_lies w hgd s x t ho base e i (.agg #[.int .i64 0, .string ⟨#[]⟩]) 2 24 ht hi hz hsize hby rfl (by decide) v 0 [] hs hown ⟨b, off, none⟩ n sc (cE l) hx (by rw [cE_len, hn]) ?_ (cE_one l) (by omega) (by unfold maxLen; omega) (by omega) hbase _ rfl ?_
  ·intro j u hu
   rw [show (⟨b, off, none⟩ : Addr).add j = ⟨b, off + j, none⟩ from by unfold Addr.add; split <;> simp_all]
   exact hc j u hu
  ·intro g cap w' ho1 hg1 hat _
   rw [List.nil_append] at ho1
   refine cast ?_ (h (.slice (some ⟨g, 0, none⟩) n cap) w' (by have := ho1; rw [Nat.zero_add] at this; exact this) hg1)
   rw [Nat.zero_add]
end Go.Proofs.YtamjljhbnhdgdaaDoor

/- slices.Clone of any log, (State).copied: what the program answers. -/
namespace Go.Proofs.YtamjljhbnhdgdaaDoor
open Go.ChangeShapes Go.WideShapes Go.ChangeAt Go.RowKit
set_option linter.unusedVariables false
theorem own_low {w : World} {base b2 : Nat} {e : TypeId} {z : Nat} {v : Value} {n : Nat} {xs : List Value} (h : w.ownsRow base e z v n xs) (hb : b2 ≤ base) : w.ownsRow b2 e z v n xs := by
 obtain ⟨h1, h2 | ⟨g, cap, cur, hv, hbg, hr⟩⟩ := h
 ·exact ⟨h1, .inl h2⟩
 ·exact ⟨h1, .inr ⟨g, cap, cur, hv, Nat.le_trans hb hbg, hr⟩⟩
end Go.Proofs.YtamjljhbnhdgdaaDoor

/- A row of bytes that a conversion made: the call owns it, and it may bear a mark behind its end. append onto it. -/
namespace Go.Proofs.YtamjljhbnhdgdaaDoor
open Go.ChangeShapes Go.WideShapes Go.ChangeAt Go.RowKit
set_option linter.unusedVariables false
/-- v owns its n bytes; its block may bear a mark that begins at its capacity or behind. -/
def OwnM (w : World) (base : Nat) (e : TypeId) (v : Value) (l : List UInt8) : Prop :=
 ∃ g cap cur fz, v = .slice (some ⟨g, 0, none⟩) l.length cap ∧ base ≤ g ∧ w.heap[g]? = some (.cells cur e fz) ∧ (fz.2 ≤ fz.1 ∨ cap ≤ fz.1) ∧ l.length ≤ cap ∧ cap ≤ maxLen ∧ cur.size = cap ∧ cur.toList.take l.length = B8 l
theorem OwnM.lt {w : World} {base : Nat} {e : TypeId} {v : Value} {l : List UInt8} (h : OwnM w base e v l) : ∀ k, v.ownBlock = some k → base ≤ k ∧ k < w.heap.size := by
 intro k hk
 obtain ⟨g, cap, cur, fz, rfl, hb, hg, _⟩ := h
 have : g = k := by simpa [Value.ownBlock] using hk
 subst this
 exact ⟨hb, (Array.getElem?_eq_some_iff.1 hg).1⟩
theorem OwnM.below {w w' : World} {base : Nat} {e : TypeId} {v : Value} {l : List UInt8} (h : OwnM w base e v l) (hb : Below w.heap.size w w') : OwnM w' base e v l := by
 obtain ⟨g, cap, cur, fz, rfl, h1, hg, rest⟩ := h
 exact ⟨g, cap, cur, fz, rfl, h1, (hb.block g (Array.getElem?_eq_some_iff.1 hg).1).trans hg, rest⟩
theorem OwnM.cells {w : World} {base : Nat} {e : TypeId} {v : Value} {l : List UInt8} (h : OwnM w base e v l) : ∃ g cap, v = .slice (some ⟨g, 0, none⟩) l.length cap ∧ g < w.heap.size ∧ ∀ j u, (B8 l)[j]? = some u → w.cell? ⟨g, j, none⟩ = some u := by
 obtain ⟨g, cap, cur, fz, rfl, _, hg, _, _, _, _, ht⟩ := h
 refine ⟨g, cap, rfl, (Array.getElem?_eq_some_iff.1 hg).1, fun j u hu => ?_⟩
 rw [← ht] at hu
 have hj : j < l.length := by have := (List.getElem?_eq_some_iff.1 hu).1; rw [List.length_take] at this; omega
 rw [List.getElem?_take_of_lt hj] at hu
 simp [World.cell?, hg]
 simpa using hu
theorem OwnM.row {w : World} {base : Nat} {e : TypeId} {a : Option Addr} {n cap : Nat} {l : List UInt8} (h : OwnM w base e (.slice a n cap) l) : Row8 w a l := by
 obtain ⟨g, c, hv, hlt, hc⟩ := h.cells
 injection hv with h1 h2 h3
 subst h1
 exact .inr ⟨g, 0, rfl, hlt, fun j hj => by rw [Nat.zero_add]; exact hc j _ (by simp [B8, hj])⟩
theorem conv_own_bytes (w : World) (s : ByteArray) (hs : s.size ≤ 1048576) : OwnM (Go.Lib.bytesWorld w 5 s) w.heap.size 5 (.slice (some ⟨w.heap.size, 0, none⟩) s.size (grownCap w s.size 0 5)) s.data.toList := by
 have hge := grownCap_ge w s.size 0 5
 have hle := grownCap_le_maxLen w s.size 0 5 (by unfold maxLen; omega)
 have hsz : (Go.Lib.bytesCells w 5 s).size = grownCap w s.size 0 5 := by
  unfold Go.Lib.bytesCells
  simp only [Array.size_append, Array.size_map, Array.size_replicate]
  have : s.data.size = s.size := rfl
  omega
 refine ⟨w.heap.size, _, _, _, by rw [sizeT], Nat.le_refl _, Go.Lib.bytesWorld_at_new w _ s, .inr (by rw [hsz]; exact Nat.le_refl _), by rw [sizeT]; exact hge, hle, hsz, ?_⟩
 unfold Go.Lib.bytesCells
 rw [sizeT, Array.toList_append, List.take_append_of_le_length (by simp)]
 rw [List.take_of_length_le (by simp)]
 simp [B8]
/-- Cells stored one behind the other where no mark is. -/
theorem store_free (P : Program) (g o : Nat) (t : TypeId) (fz : Nat × Nat) : ∀ (vs : List Value) (i : Nat) (cur : Array Value) (w : World), w.heap[g]? = some (.cells cur t fz) → (fz.2 ≤ fz.1 ∨ o + i + vs.length ≤ fz.1) → o + i + vs.length ≤ cur.size → (∀ v ∈ vs, v.oneCell' = true) →
  ∃ w' cur', (storeCells ⟨g, o, none⟩ vs i).run P w = .ok () w' ∧ w'.heap[g]? = some (.cells cur' t fz) ∧ w.grownBy w' (some g) ∧ cur'.size = cur.size ∧ cur'.toList.take (o + i + vs.length) = cur.toList.take (o + i) ++ vs := by
 intro vs
 induction vs with
 | nil => intro i cur w hg _ _ _; exact ⟨w, cur, rfl, hg, grownBy_refl _ _, rfl, by simp⟩
 | cons v rest ih =>
  intro i cur w hg hfz hl h1
  simp only [List.length_cons] at hfz hl
  have hi : o + i < cur.size := by omega
  have hadd : (⟨g, o, none⟩ : Addr).add i = ⟨g, o + i, none⟩ := by unfold Addr.add; split <;> simp_all
  have hcell : w.cell? ⟨g, o + i, none⟩ = some cur[o + i] := by simp [World.cell?, hg, hi]
  have hfro : w.frozen? ⟨g, o + i, none⟩ = false := by
   obtain ⟨lo, up⟩ := fz
   simp only [World.frozen?, hg, Bool.and_eq_false_iff, decide_eq_false_iff_not]
   simp only at hfz
   rcases hfz with h | h
   ·by_cases hh : lo ≤ o + i
    ·right; omega
    ·left; exact hh
   ·left; omega
  have hst : (store ((⟨g, o, none⟩ : Addr).add i) v).run P w = .ok () (w.setRow g (cur.setIfInBounds (o + i) v)) := by
   rw [hadd, run_store P w _ v _ (h1 v (by simp)), hcell]
   simp [hfro, setCell_eq_setRow w g (o + i) cur t fz v hg]
  obtain ⟨w', cur', hr, hg', hgr, hsz, htk⟩ := ih (i + 1) (cur.setIfInBounds (o + i) v) (w.setRow g (cur.setIfInBounds (o + i) v)) (setRow_heap w g cur _ t _ hg) (by omega) (by simp; omega) (fun x hx => h1 x (by simp [hx]))
  refine ⟨w', cur', ?_, hg', ?_, by rw [hsz]; simp, ?_⟩
  ·simp only [storeCells, Sem.run_bind, hst, Result.andThen_ok, hr]
  ·have hg1 : w.grownBy (w.setRow g (cur.setIfInBounds (o + i) v)) (some g) := ⟨rfl, rfl, rfl, by simp [World.setRow], fun k _ hk => setRow_other w g k _ (fun e => hk (by rw [e]))⟩
   exact World.grownBy.trans' hg1 hgr
  ·rw [show o + i + (v :: rest).length = o + (i + 1) + rest.length from by simp; omega, htk]
   have : (cur.setIfInBounds (o + i) v).toList.take (o + (i + 1)) = cur.toList.take (o + i) ++ [v] := by
    rw [show o + (i + 1) = (o + i) + 1 from by omega, List.take_add_one, Array.toList_setIfInBounds, List.getElem?_set_self (by simpa using hi), List.take_set_of_le (by omega)]
    rfl
   rw [this]; simp
theorem run_appendM {P : Program} (w : World) (base : Nat) (t ty e : TypeId) (i : TypeInfo) (ht : P.underlying t = some (.slice e)) (hi : P.info? e = some i) (hz : i.zero = some (.int .u8 0)) (hsize : i.size = 1) (hby : i.bytes = 1)
  (v : Value) (l m : List UInt8) (hown : OwnM w base e v l) (a : Addr) (c : Nat) (hm : ∀ j u, (B8 m)[j]? = some u → w.cell? (a.add j) = some u) (hlen : l.length + m.length ≤ 2000000) (hbase : base ≤ w.heap.size) :
  ∃ v' w', (Builtin.append_ #[t, t] ty #[v, .slice (some a) m.length c]).run P w = .ok v' w' ∧ OwnM w' base e v' (l ++ m) ∧ w.grownBy w' v.ownBlock := by
 obtain ⟨g, cap, cur, fz, rfl, hbg, hg, hfz, hnc, hcm, hcs, htake⟩ := hown
 have hol : (OwnM w base e (.slice (some ⟨g, 0, none⟩) l.length cap) l) := ⟨g, cap, cur, fz, rfl, hbg, hg, hfz, hnc, hcm, hcs, htake⟩
 by_cases hroom : l.length + m.length ≤ cap
 ·have hf := run_firstCells_some (P := P) w i.size m.length a m.length c (B8 m) (by rw [B8_len, hsize]; omega) hm
  obtain ⟨w', cur', hr, hg', hgr, hsz, htk⟩ := store_free P g (l.length * i.size) e fz (B8 m) 0 cur w hg (by rw [B8_len, hsize]; rcases hfz with h | h; exact .inl h; exact .inr (by omega)) (by rw [B8_len, hsize, hcs]; omega) (B8_one m)
  refine ⟨.slice (some ⟨g, 0, none⟩) (l.length + m.length) cap, w', ?_, ⟨g, cap, cur', fz, by rw [List.length_append], hbg, hg', hfz, by rw [List.length_append]; exact hroom, hcm, by rw [hsz]; exact hcs, ?_⟩, hgr⟩
  ·simp [Builtin.append_, run_underlying ht, sizeOf, typeInfo, hi, Builtin.lenOf, hroom, hf, Addr.add_lit, hr]
  ·rw [hsize] at htk
   simp only [Nat.mul_one, Nat.add_zero, B8_len] at htk
   rw [List.length_append, htk, htake, B8_app]
 ·have holds : ∀ j u, (B8 l)[j]? = some u → w.cell? ((⟨g, 0, none⟩ : Addr).add j) = some u := by
   obtain ⟨g', c', hv, _, hc⟩ := hol.cells
   injection hv with h1 h2 h3
   injection h1 with h1; injection h1 with h1 _ _
   subst h1
   intro j u hu
   rw [show (⟨g, 0, none⟩ : Addr).add j = ⟨g, j, none⟩ from by unfold Addr.add; split <;> simp_all]
   exact hc j u hu
  have h63 : l.length + m.length ≤ maxLen := by unfold maxLen; omega
  have hr := run_append_grow (P := P) w t ty e i (.int .u8 0) ht hi hz ⟨g, 0, none⟩ l.length cap (B8 l) (by rw [B8_len, hsize]; omega) holds a m.length c (B8 m) (by rw [B8_len, hsize]; omega) hm (by omega) (by omega) (growslice_fits (by omega) (by rw [hby]; omega))
  have hge := grownCap_ge w (l.length + m.length) cap e
  have hcm2 : grownCap w (l.length + m.length) cap e ≤ maxLen := grownCap_le_maxLen w (l.length + m.length) cap e h63
  refine ⟨_, _, hr, ⟨w.heap.size, _, _, (0, 0), by rw [List.length_append], hbase, heap_alloc_new w.drew _, .inl (Nat.le_refl _), by rw [List.length_append]; exact hge, hcm2, ?_, ?_⟩, ⟨rfl, rfl, rfl, by simp, fun k hk _ => by first | exact heap_alloc_old w.drew _ k hk | exact heap_alloc_old w.drew _ hk⟩⟩
  ·simp only [Array.size_append, List.size_toArray, size_zeroCells, B8_len]
   simp [Value.cells]; omega
  ·simp only [Array.toList_append, List.append_assoc]
   rw [← List.append_assoc, ← B8_app, List.take_append_of_le_length (by rw [B8_len]; exact Nat.le_refl _), List.take_of_length_le (by rw [B8_len]; exact Nat.le_refl _)]
theorem wpList_appendM {P : Program} (w : World) {ops : Array Oper} {rest : List Oper} {o : Oper} {a : Act} {Q : Exit → Act → World → Prop} (hgd : o.guard = none) (s x : Operand) (t : TypeId)
  (ho : o.op = .call { callee := .builtin .append, args := #[s, x], argTypes := #[t, t] }) (base : Nat) (e : TypeId) (i : TypeInfo) (ht : P.underlying t = some (.slice e)) (hi : P.info? e = some i) (hz : i.zero = some (.int .u8 0)) (hsize : i.size = 1) (hby : i.bytes = 1)
  (v : Value) (l m : List UInt8) (hs : a.eval s = v) (hown : OwnM w base e v l) (ad : Addr) (c : Nat) (hx : a.eval x = .slice (some ad) m.length c) (hm : ∀ j u, (B8 m)[j]? = some u → w.cell? (ad.add j) = some u) (hlen : l.length + m.length ≤ 2000000) (hbase : base ≤ w.heap.size)
  (h : ∀ v' w', OwnM w' base e v' (l ++ m) → w.grownBy w' v.ownBlock → wpList P ops Q rest (a.put o.dst v') w') : wpList P ops Q (o :: rest) a w := by
 obtain ⟨v', w', hr, h1, h2⟩ := run_appendM w base t o.type e i ht hi hz hsize hby v l m hown ad c hm hlen hbase
 refine wpList_plain hgd fun K hK => ?_
 unfold Oper.wp
 simp [execOp, ho, resolve, invoke, builtin, hs, hx, hr, Result.andThen]
 exact hK _ _ (h _ _ h1 h2)
end Go.Proofs.YtamjljhbnhdgdaaDoor
