/- Texts put together: OwnT SrcQ SrcS. -/
import Derived.Test.YtamjljhbnhdgdaaDoorZG20
import Derived.Test.YtamjljhbnhdgdaaDoorZG9
import Derived.Test.YtamjljhbnhdgdaaDoorZG3
import Derived.Test.YtamjljhbnhdgdaaDoorZG7
import Derived.Deep.AppendLies
import Derived.Deep.AppendSrc
import Derived.Deep.Upon
import Derived.Lib.SliceRun
import Derived.Lib.SmallJoins
import Derived.Test.YtamjljhbnhdgdaaDoorZG19
import Derived.Test.YtamjljhbnhdgdaaDoorZG16
import Derived.Test.YtamjljhbnhdgdaaDoorZG12
/- A state's own copy: its log is never nil. -/
namespace Go.Proofs.YtamjljhbnhdgdaaDoor
open Go.ChangeShapes Go.WideShapes Go.ChangeAt Go.RowKit
set_option linter.unusedVariables false
theorem append_ents2 {P : Program} (w : World) {ops : Array Oper} {rest : List Oper} {o : Oper} {a : Act} {Q : Exit → Act → World → Prop} (hgd : o.guard = none) (s x : Operand) (t : TypeId)
  (ho : o.op = .call { callee := .builtin .append, args := #[s, x], argTypes := #[t, t] }) (base : Nat) (e : TypeId) (i : TypeInfo) (ht : P.underlying t = some (.slice e)) (hi : P.info? e = some i) (hz : i.zero = some (.agg #[.int .i64 0, .string ⟨#[]⟩])) (hsize : i.size = 2) (hby : i.bytes = 24)
  (v : Value) (hs : a.eval s = v) (hown : w.ownsRow base e 2 v 0 [])
  (sp : Option Addr) (sc n : Nat) (l : List (Int × ByteArray)) (hn : l.length = n) (hx : a.eval x = .slice sp n sc) (hr : RowV w sp (cE l)) (hb : n ≤ 1048576) (hbase : base ≤ w.heap.size)
  (h : ∀ v' w', w'.ownsRow base e 2 v' n (cE l) → w.grownBy w' v.ownBlock → (v' = v ∨ ∃ g c, v' = .slice (some ⟨g, 0, none⟩) n c) → wpList P ops Q rest (a.put o.dst v') w') :
  wpList P ops Q (o :: rest) a w := by
 by_cases h0 : n = 0
 ·subst h0
  obtain rfl : l = [] := List.length_eq_zero_iff.1 hn
  obtain ⟨pv, cv, rfl, -⟩ := ownZ_rowV hown
  have hsrc : Src P i.size t (.slice sp 0 sc) 0 [] w := by
   cases sp with
   | none => exact Src.ofNil w ht sc
   | some ad => exact Src.ofSlice w ht ad 0 sc [] (by simp) (fun j u hu => by simp at hu) (fun u hu => by cases hu)
  have hrun := run_append_nothing (P := P) w t t o.type e i ht hi pv 0 cv (Nat.zero_le _) (.slice sp 0 sc) hsrc
  refine wpList_plain hgd fun K hK => ?_
  unfold Oper.wp
  simp [execOp, ho, resolve, invoke, builtin, hs, hx, hrun, Result.andThen]
  exact hK _ _ (h _ w hown (grownBy_refl _ _) (.inl rfl))
 ·obtain ⟨b, off, rfl, _, hc⟩ := hr.at (by rw [cE_len]; omega)
  refine wpList_append_lies w hgd s x t ho base e i (.agg #[.int .i64 0, .string ⟨#[]⟩]) 2 24 ht hi hz hsize hby rfl (by decide) v 0 [] hs hown ⟨b, off, none⟩ n sc (cE l) hx (by rw [cE_len, hn]) ?_ (cE_one l) (by omega) (by unfold maxLen; omega) (by omega) hbase _ rfl ?_
  ·intro j u hu
   rw [show (⟨b, off, none⟩ : Addr).add j = ⟨b, off + j, none⟩ from by unfold Addr.add; split <;> simp_all]
   exact hc j u hu
  ·intro g cap w' ho1 hg1 hat _
   rw [List.nil_append] at ho1
   refine cast ?_ (h (.slice (some ⟨g, 0, none⟩) n cap) w' (by have := ho1; rw [Nat.zero_add] at this; exact this) hg1 (.inr ⟨g, cap, rfl⟩))
   rw [Nat.zero_add]
theorem World.ownsRow_len0 {w : World} {base : Nat} {e : TypeId} {b c n : Nat} {v : Value} {xs : List Value} (h : w.ownsRow base e 2 v n xs) (hv : v = .slice (some ⟨b, 0, none⟩) 0 c) : n = 0 := by
 subst hv
 obtain ⟨g, c', e, -⟩ := ownZ_rowV h
 injection e with e1 e2 e3
 exact e2.symm
set_option maxHeartbeats 4000000 in
set_option maxRecDepth 100000 in
theorem sownS (tm vt : Int) (a : Option Addr) (cap n : Nat) (l : List (Int × ByteArray)) (HN : Hid (l.length = n)) (hn : n ≤ 1048576) (w : World) (hr : RowV w a (cE l)) :
  Calls Tryd.prog 28 #[.agg #[.int .i64 tm, .int .i64 vt, .slice a n cap]] w fun e w' => ∃ (b c : Nat), e = .returned (.agg #[.int .i64 tm, .int .i64 vt, .slice (some ⟨b, 0, none⟩) n c]) ∧ w'.ownsRow w.heap.size 62 2 (.slice (some ⟨b, 0, none⟩) n c) n (cE l) ∧ Below w.heap.size w w' := by
 obtain ⟨ie, hie, hie0, hie1, hie2⟩ := info_parts Tryd.infE62
 have B0 := hide (Go.Joins.below_alloc3 w (.cells #[.int .i64 tm, .int .i64 vt, .slice a n cap] 25) (.cells #[.int .i64 0, .int .i64 0, .slice none 0 0] 25) (.cells #[] 62))
 have A0 := hide (((BF.new w #[.int .i64 tm, .int .i64 vt, .slice a n cap] 25).alloc (.cells #[.int .i64 0, .int .i64 0, .slice none 0 0] 25)).alloc (.cells #[] 62))
 have Z0 := hide ((BF.new (w.alloc (.cells #[.int .i64 tm, .int .i64 vt, .slice a n cap] 25)) #[.int .i64 0, .int .i64 0, .slice none 0 0] 25).alloc (.cells #[] 62))
 simp only [World.size_alloc] at Z0
 have HW := hide (hr.below (unhide B0))
 have OL := hide (World.ownsRow_lit (e := 62) (base := w.heap.size + 2) (size := 2) ((w.alloc (.cells #[.int .i64 tm, .int .i64 vt, .slice a n cap] 25)).alloc (.cells #[.int .i64 0, .int .i64 0, .slice none 0 0] 25)) #[] 0 (by simp) (by unfold maxLen; omega) rfl)
 simp only [World.size_alloc] at OL
 clear hr
 go_enter Tryd.func28, Tryd.ntmps28
 go_wp2_with (at_builtin; refine append_ents2 _ rfl (.tmp 3) (.tmp 5) 23 rfl (w.heap.size + 2) 62 ie Tryd.underlying23 hie hie0 hie1 hie2 _ rfl (unhide OL) a cap n l (unhide HN) rfl (unhide HW) hn (by simp) ?_; intro v' w1 ho1 hg1 hs1; obtain ⟨a1, c1, rfl⟩ : ∃ (a1 c1 : Nat), v' = .slice (some ⟨a1, 0, none⟩) n c1 := hs1.elim (fun e => ⟨w.heap.size + 1 + 1, 0, by have h0 := (World.ownsRow_len0 ho1 e); rw [h0]; exact e⟩) (fun h => h); have hk : ∀ j, (Value.slice (some ⟨w.heap.size + 1 + 1, 0, none⟩) 0 0).ownBlock = some j → j = w.heap.size + 1 + 1 := (fun j hj => (Option.some.inj hj).symm); have A1 := hide ((unhide A0).grown hg1 (fun h => by have := hk _ h; omega)); have Z1 := hide ((unhide Z0).grown hg1 (fun h => by have := hk _ h; omega)); have B1 := hide ((unhide B0).grown hg1 (unhide B0).size (fun j hj => by have := hk j hj; omega)); have O1 := hide ho1; have ka := (unhide A1).S; have kaf := (unhide A1).F; have kz := (unhide Z1).S; have kzf := (unhide Z1).F; clear ho1 hg1 hk)
 refine bodyPost_ret (v := .agg #[.int .i64 tm, .int .i64 vt, .slice (some ⟨a1, 0, none⟩) n c1]) (by simp [results, Tryd.results28, go_sem, kz]) rfl ⟨_, _, rfl, ?_, ?_⟩
 ·refine own_low ?_ (Nat.le_add_right _ 2)
  iterate 3 refine ownsRow_setCell_below ?_ (by show w.heap.size + 1 < w.heap.size + 2; omega) _
  refine ownsRow_setCell_below ?_ (by show w.heap.size < w.heap.size + 2; omega) _
  exact unhide O1
 ·iterate 3 refine Below.setCell ?_ (by exact Nat.le_succ _) _
  refine Below.setCell ?_ (by exact Nat.le_refl _) _
  exact unhide B1
end Go.Proofs.YtamjljhbnhdgdaaDoor

/- Drawn states under way: the source, a state in a block of its own, its log's row. -/
namespace Go.Proofs.YtamjljhbnhdgdaaDoor
open Go.ChangeShapes Go.WideShapes Go.ChangeAt Go.RowKit
set_option linter.unusedVariables false
set_option linter.unusedSimpArgs false
theorem below_grownQ {w w' : World} (h : Below w.heap.size w w') (row : Option Nat) : w.grownBy w' row := ⟨h.os, h.tape, h.output, h.size, fun k hk _ => h.block k hk⟩
theorem own_keepBQ {w w' : World} {base : Nat} {e : TypeId} {z g n cap : Nat} {xs : List Value} (h : w.ownsRow base e z (.slice (some ⟨g, 0, none⟩) n cap) n xs) (hb : w'.heap[g]? = w.heap[g]?) : w'.ownsRow base e z (.slice (some ⟨g, 0, none⟩) n cap) n xs := by
 obtain ⟨h1, h2⟩ := h
 refine ⟨h1, ?_⟩
 rcases h2 with ⟨h2, _⟩ | ⟨g', cap', cur, hv, hbg, hgc, hrest⟩
 ·cases h2
 ·have e1 : g = g' := by injection hv with e1 _ _; injection e1 with e1; injection e1
  subst e1
  exact .inr ⟨g, cap', cur, hv, hbg, by rw [hb]; exact hgc, hrest⟩
theorem own_keepG {w w' : World} {base : Nat} {e : TypeId} {z n c : Nat} {va : Option Addr} {xs : List Value} (h : w.ownsRow base e z (.slice va n c) n xs) (hb : ∀ j, (Value.slice va n c).ownBlock = some j → w'.heap[j]? = w.heap[j]?) : w'.ownsRow base e z (.slice va n c) n xs := by
 obtain ⟨h1, h2⟩ := h
 rcases h2 with h2 | ⟨g, cap, cur, hv, hbg, hgc, hrest⟩
 ·exact ⟨h1, .inl h2⟩
 ·injection hv with e1 e2 e3
  subst e1 e3
  exact own_keepBQ ⟨h1, .inr ⟨g, c, cur, rfl, hbg, hgc, hrest⟩⟩ (hb g rfl)
def Som (va : Option Addr) : Prop := ∃ b : Nat, va = some ⟨b, 0, none⟩
/-- A draw of a state under way. -/
def Ds (w0 : World) (g P r lo : Nat) (rv : Array Value) (a : Option Addr) (cap : Nat) (lc : List UInt8) (tm vt : Int) (va : Option Addr) (n vc : Nat) (l : List Ent) (p s : Nat) (w : World) : Prop :=
 SrcAt w g a cap lc p s ∧ w0.grownBy w (some g) ∧ BF P #[.int .i64 tm, .int .i64 vt, .slice va n vc] w ∧ BF r rv w ∧ w.ownsRow lo 62 2 (.slice va n vc) n (cE l) ∧ (∀ j, (Value.slice va n vc).ownBlock = some j → j ≠ P ∧ j ≠ r) ∧ l.length = n
theorem Ds.blk {w0 w : World} {g P r lo : Nat} {rv : Array Value} {a : Option Addr} {cap : Nat} {lc : List UInt8} {tm vt : Int} {va : Option Addr} {n vc : Nat} {l : List Ent} {p s : Nat} (h : Ds w0 g P r lo rv a cap lc tm vt va n vc l p s w) : ∀ j, (Value.slice va n vc).ownBlock = some j → lo ≤ j ∧ j < w.heap.size := fun j hj => h.2.2.2.2.1.lt j hj
theorem Ds.nx {w0 w w' : World} {g P r lo : Nat} {rv : Array Value} {a : Option Addr} {cap : Nat} {lc : List UInt8} {tm vt : Int} {va : Option Addr} {n vc : Nat} {l : List Ent} {p s p' s' : Nat} (h : Ds w0 g P r lo rv a cap lc tm vt va n vc l p s w) (hg : w.grownBy w' (some g)) (hA : SrcAt w' g a cap lc p' s') (hgP : g ≠ P) (hgr : g ≠ r) (hgl : g < lo) : Ds w0 g P r lo rv a cap lc tm vt va n vc l p' s' w' :=
 ⟨hA, World.grownBy.trans' h.2.1 hg, h.2.2.1.grown hg (fun e => hgP (Option.some.inj e)), h.2.2.2.1.grown hg (fun e => hgr (Option.some.inj e)), own_keepG h.2.2.2.2.1 (fun j hj => hg.block j (h.blk j hj).2 (fun e => by have := (h.blk j hj).1; have := Option.some.inj e; omega)), h.2.2.2.2.2⟩
theorem Ds.bl {w0 w w' : World} {g P r lo : Nat} {rv : Array Value} {a : Option Addr} {cap : Nat} {lc : List UInt8} {tm vt : Int} {va : Option Addr} {n vc : Nat} {l : List Ent} {p s : Nat} (h : Ds w0 g P r lo rv a cap lc tm vt va n vc l p s w) (hb : Below w.heap.size w w') : Ds w0 g P r lo rv a cap lc tm vt va n vc l p s w' :=
 ⟨ArrAt.below h.1 hb (ArrAt.lt h.1), World.grownBy.trans' h.2.1 (below_grownQ hb _), h.2.2.1.below hb, h.2.2.2.1.below hb, own_keepG h.2.2.2.2.1 (fun j hj => hb.block j (h.blk j hj).2), h.2.2.2.2.2⟩
theorem Ds.drew {w0 w : World} {g P r lo : Nat} {rv : Array Value} {a : Option Addr} {cap : Nat} {lc : List UInt8} {tm vt : Int} {va : Option Addr} {n vc : Nat} {l : List Ent} {p s : Nat} (h : Ds w0 g P r lo rv a cap lc tm vt va n vc l p s w) : Ds w0 g P r lo rv a cap lc tm vt va n vc l p s w.drew := h.bl ((Below.refl w.heap.size w).drew)
/-- A field of the state is set. -/
theorem Ds.set {w0 w : World} {g P r lo : Nat} {rv : Array Value} {a : Option Addr} {cap : Nat} {lc : List UInt8} {tm vt tm2 vt2 : Int} {va : Option Addr} {n vc : Nat} {l : List Ent} {p s : Nat} (h : Ds w0 g P r lo rv a cap lc tm vt va n vc l p s w) (hgP : g ≠ P) (hPr : P ≠ r) (h0 : w0.heap.size ≤ P) (o : Nat) (v : Value) (ho : o < 3) (he : (#[.int .i64 tm, .int .i64 vt, .slice va n vc] : Array Value).setIfInBounds o v = #[.int .i64 tm2, .int .i64 vt2, .slice va n vc]) : Ds w0 g P r lo rv a cap lc tm2 vt2 va n vc l p s (w.setCell ⟨P, o, none⟩ v) := by
 refine ⟨ArrAt.other h.1 hgP o v, grown_set h.2.1 h0 o v, ?_, h.2.2.2.1.far _ _ hPr, own_keepG h.2.2.2.2.1 (fun j hj => Below.heap_setCell _ _ _ _ (h.2.2.2.2.2.1 j hj).1), h.2.2.2.2.2⟩
 have := h.2.2.1.set o (by simpa using ho) v
 rwa [he] at this
/-- The log is a beginning of what it was. -/
theorem Ds.cut {w0 w : World} {g P r lo : Nat} {rv : Array Value} {a : Option Addr} {cap : Nat} {lc : List UInt8} {tm vt : Int} {va : Option Addr} {n vc : Nat} {l : List Ent} {p s : Nat} (h : Ds w0 g P r lo rv a cap lc tm vt va n vc l p s w) (hgP : g ≠ P) (hPr : P ≠ r) (h0 : w0.heap.size ≤ P) (k : Nat) (hk : k ≤ n) : Ds w0 g P r lo rv a cap lc tm vt va k vc (l.take k) p s (w.setCell ⟨P, 2, none⟩ (.slice va k vc)) := by
 have hown : w.ownsRow lo 62 2 (.slice va k vc) k (cE (l.take k)) := by
  rw [cE_take]
  have h5 := h.2.2.2.2.1
  obtain ⟨h1, h2⟩ := h5
  rcases h2 with ⟨hv, hx⟩ | ⟨b, c', cur, hv, hr⟩
  ·injection hv with e1 e2 e3
   subst e1 e2 e3
   have : k = 0 := by omega
   subst this
   exact ⟨by simp, .inl ⟨rfl, by simp⟩⟩
  ·injection hv with e1 e2 e3
   subst e1 e3
   exact own_take (⟨h1, .inr ⟨b, vc, cur, rfl, hr⟩⟩) hk
 have hb : (Value.slice va k vc).ownBlock = (Value.slice va n vc).ownBlock := by
  cases va with
  | none => rfl
  | some x => obtain ⟨b, o, sp⟩ := x; cases o <;> cases sp <;> rfl
 refine ⟨ArrAt.other h.1 hgP 2 _, grown_set h.2.1 h0 2 _, h.2.2.1.set 2 (by simp) _, h.2.2.2.1.far _ _ hPr, own_keepG hown (fun j hj => Below.heap_setCell _ _ _ _ (h.2.2.2.2.2.1 j (hb ▸ hj)).1), fun j hj => h.2.2.2.2.2.1 j (hb ▸ hj), ?_⟩
 rw [List.length_take, h.2.2.2.2.2.2]; omega
/-- An entry is put behind the log: the row may be a new one. -/
theorem Ds.put {w0 w w' : World} {g P r lo : Nat} {rv : Array Value} {a : Option Addr} {cap : Nat} {lc : List UInt8} {tm vt : Int} {va : Option Addr} {n vc : Nat} {l : List Ent} {p s : Nat} (h : Ds w0 g P r lo rv a cap lc tm vt va n vc l p s w) (hgP : g ≠ P) (hPr : P ≠ r) (h0 : w0.heap.size ≤ P) (hgl : g < lo) (hl0 : w0.heap.size ≤ lo) {g7 c7 H : Nat} {x : Ent} (ho : w'.ownsRow lo 62 2 (.slice (some ⟨g7, 0, none⟩) (n + 1) c7) (n + 1) (cE l ++ [.int .i64 x.1, .string x.2])) (hg : w.grownBy w' (Value.slice va n vc).ownBlock) (hat : (Value.slice va n vc).ownBlock = some g7 ∨ g7 = H) (hH : w.heap.size = H) : (BF P #[.int .i64 tm, .int .i64 vt, .slice va n vc] w') ∧ Ds w0 g P r lo rv a cap lc tm vt (some ⟨g7, 0, none⟩) (n + 1) c7 (l ++ [x]) p s (w'.setCell ⟨P, 2, none⟩ (.slice (some ⟨g7, 0, none⟩) (n + 1) c7)) := by
 have hP : BF P #[.int .i64 tm, .int .i64 vt, .slice va n vc] w' := h.2.2.1.grown hg (fun e => (h.2.2.2.2.2.1 _ e).1 rfl)
 have hr : BF r rv w' := h.2.2.2.1.grown hg (fun e => (h.2.2.2.2.2.1 _ e).2 rfl)
 have h7 : g7 ≠ P ∧ g7 ≠ r := by
  rcases hat with e | e
  ·exact h.2.2.2.2.2.1 _ e
  ·have := h.2.2.1.lt; have := h.2.2.2.1.lt; omega
 have hA : SrcAt w' g a cap lc p s := (hg.block g (ArrAt.lt h.1) (fun e => by have := (h.blk g e.symm).1; omega)).trans h.1
 have hG : w0.grownBy w' (some g) := by
  refine ⟨hg.os.trans h.2.1.os, hg.tape.trans h.2.1.tape, hg.output.trans h.2.1.output, Nat.le_trans h.2.1.size hg.size, fun k hk hne => ?_⟩
  exact (hg.block k (Nat.lt_of_lt_of_le hk h.2.1.size) (fun e => by have := (h.blk k e.symm).1; omega)).trans (h.2.1.block k hk hne)
 refine ⟨hP, ArrAt.other hA hgP 2 _, grown_set hG h0 2 _, hP.set 2 (by simp) _, hr.far _ _ (fun e => hPr e), ?_, fun j hj => by obtain rfl := Option.some.inj hj; exact h7, by rw [List.length_append, h.2.2.2.2.2.2]; rfl⟩
 rw [cE_app]
 exact own_keepG ho (fun j hj => by obtain rfl := Option.some.inj hj; exact Below.heap_setCell _ _ _ _ h7.1)
end Go.Proofs.YtamjljhbnhdgdaaDoor

/- A drawn state is right. -/
namespace Go.Proofs.YtamjljhbnhdgdaaDoor
open Go.ChangeShapes Go.WideShapes Go.ChangeAt Go.RowKit
set_option linter.unusedVariables false
set_option linter.unusedSimpArgs false
theorem logB_snoc {T : Int} : ∀ {l : List Ent} {p t : Int} {d : ByteArray}, logB T p l = true → (∀ e ∈ l, e.1 ≤ t) → p ≤ t → t ≤ T → d.size ≤ 400 → logB T p (l ++ [(t, d)]) = true
 | [], p, t, d, _, _, h1, h2, h3 => by
  show (entB p T (t, d) && true) = true
  simp [entB, inB, h1, h2, h3]
 | e :: l, p, t, d, h, hm, h1, h2, h3 => by
  rw [logB, Bool.and_eq_true] at h
  rw [List.cons_append, logB, Bool.and_eq_true]
  exact ⟨h.1, logB_snoc h.2 (fun x hx => hm x (List.mem_cons_of_mem _ hx)) (hm e List.mem_cons_self) h2 h3⟩
theorem logB_snoc2 {T t t2 : Int} {l : List Ent} {d : ByteArray} (h : logB T 1 l = true ∧ ∀ e ∈ l, e.1 ≤ t) (h0 : t ≤ t2) (h1 : 1 ≤ t2) (h2 : t2 ≤ T) (h3 : d.size ≤ 400) : Hid (logB T 1 (l ++ [(t2, d)]) = true ∧ ∀ e ∈ l ++ [(t2, d)], e.1 ≤ t2) :=
 ⟨logB_snoc h.1 (fun e he => Int.le_trans (h.2 e he) h0) h1 h2 h3, fun e he => by
  rcases List.mem_append.1 he with he | he
  ·exact Int.le_trans (h.2 e he) h0
  ·obtain rfl := List.mem_singleton.1 he; exact Int.le_refl _⟩
end Go.Proofs.YtamjljhbnhdgdaaDoor
