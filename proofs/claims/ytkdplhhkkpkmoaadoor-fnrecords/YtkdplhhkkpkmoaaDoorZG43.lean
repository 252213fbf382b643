/- Texts put together: DrwE OwnT. -/
import Derived.Test.YtkdplhhkkpkmoaaDoorZG42
import Derived.Test.YtkdplhhkkpkmoaaDoorZG10
import Derived.Test.YtkdplhhkkpkmoaaDoorZG22
import Derived.Test.YtkdplhhkkpkmoaaDoorZG12
import Derived.Test.YtkdplhhkkpkmoaaDoorZG2
import Derived.Deep.AppendLies
import Derived.Deep.AppendSrc
import Derived.Deep.Upon
import Derived.Lib.SliceRun
import Derived.Lib.SmallJoins
/- Drawn entries of the specification. -/
namespace Go.Proofs.YtkdplhhkkpkmoaaDoor
open Go.ChangeShapes Go.WideShapes Go.ChangeAt Go.RowKit
set_option linter.unusedVariables false
theorem grown_new {w c : World} {g B : Nat} (h : w.grownBy c (some g)) (hB : w.heap.size ≤ B) (o : Nat) (v : Value) : w.grownBy (c.setCell ⟨B, o, none⟩ v) (some g) :=
 ⟨h.os, h.tape, h.output, by rw [World.size_setCell]; exact h.size, fun k hk hne => (Below.heap_setCell _ _ _ k (by show k ≠ B; omega)).trans (h.block k hk hne)⟩
def textsE : List ByteArray := [⟨#[]⟩, ⟨#[100, 97, 116, 97]⟩, ⟨#[109, 111, 114, 101]⟩, ⟨#[0]⟩]
theorem textsE_cells (w : World) (t : TypeId) (k : Nat) (h : k < textsE.length) : (w.alloc (.cells #[.string ⟨#[]⟩, .string ⟨#[100, 97, 116, 97]⟩, .string ⟨#[109, 111, 114, 101]⟩, .string ⟨#[0]⟩] t)).cell? ⟨w.heap.size, k, none⟩ = some (.string textsE[k]) := cells_texts textsE w t _ rfl k h
theorem textsE_sz : ∀ k (h : k < textsE.length), 0 ≤ textsE[k].size ∧ textsE[k].size ≤ 4 := sizes_of (by decide +kernel)
set_option maxHeartbeats 1000000 in
set_option maxRecDepth 100000 in
theorem sentryD (term : Int) (g : Nat) (a : Option Addr) (cap : Nat) (l : List UInt8) (p s : Nat) (hl : l.length ≤ 1048600) (hp : p ≤ 2000000) (hs : s < 2147483648) (w : World) (h : SrcAt w g a cap l p s) (hr : Row8 w a l) (hg : ApartOf a l g) :
  Calls Tryd.prog 27 #[.pointer (some ⟨g, 0, none⟩), .int .i64 term] w fun e w' => ∃ (d : ByteArray) (s' : Nat), e = .returned (.agg #[.int .i64 term, .string d]) ∧ d.size ≤ 400 ∧ s' < 2147483648 ∧ SrcAt w' g a cap l (p + 1) s' ∧ w.grownBy w' (some g) := by
 have hgw : g < w.heap.size := ArrAt.lt h
 have gr1 := grown_alloc w (.cells #[.int .i64 0, .string ⟨#[]⟩] 46) (some g)
 have gr2 := World.grownBy.trans' gr1 (grown_alloc (w.alloc (.cells #[.int .i64 0, .string ⟨#[]⟩] 46)) (.cells #[.string ⟨#[]⟩, .string ⟨#[100, 97, 116, 97]⟩, .string ⟨#[109, 111, 114, 101]⟩, .string ⟨#[0]⟩] 9) (some g))
 have HH := hide (spick g (w.alloc (.cells #[.int .i64 0, .string ⟨#[]⟩] 46)).heap.size 4 textsE a cap l p s (by decide) (by decide) hl hp hs ((w.alloc (.cells #[.int .i64 0, .string ⟨#[]⟩] 46)).alloc (.cells #[.string ⟨#[]⟩, .string ⟨#[100, 97, 116, 97]⟩, .string ⟨#[109, 111, 114, 101]⟩, .string ⟨#[0]⟩] 9)) (by simp) (by simp; omega) (textsE_cells _ _) (ArrAt.alloc (ArrAt.alloc h _) _) (hr.grown gr2 hg) hg)
 have R0 := hide ((BF.new w #[.int .i64 0, .string ⟨#[]⟩] 46).alloc (.cells #[.string ⟨#[]⟩, .string ⟨#[100, 97, 116, 97]⟩, .string ⟨#[109, 111, 114, 101]⟩, .string ⟨#[0]⟩] 9))
 have HG := hide gr2
 simp only [World.size_alloc] at HH
 clear h hr hg hs gr1 gr2
 go_enter Tryd.func27, Tryd.ntmps27
 go_wp2_with fail
 refine (unhide HH).mono ?_
 rintro e w2 ⟨x, hx, s', rfl, hs', hA, hG⟩
 have HA := hide hA
 have R2 := hide ((unhide R0).grown hG (by intro e; injection e with e; omega))
 have HG2 := hide (World.grownBy.trans' (unhide HG) hG)
 have HS := hide hs'
 clear hA hG hs' HH R0
 have kr := (unhide R2).S
 have kf := (unhide R2).F
 go_wp2_with fail
 refine bodyPost_ret (v := .agg #[.int .i64 term, .string textsE[x]]) (by simp [results, Tryd.results27, go_sem, *]) rfl ⟨textsE[x], s', rfl, Nat.le_trans (textsE_sz x hx).2 (by decide), unhide HS, ?_, ?_⟩
 ·exact ((unhide HA).other (by omega) 0 _).other (by omega) 1 _
 ·exact grown_new (grown_new (unhide HG2) (Nat.le_refl _) 0 _) (Nat.le_refl _) 1 _
end Go.Proofs.YtkdplhhkkpkmoaaDoor

/- A state's own copy: its log is never nil. -/
namespace Go.Proofs.YtkdplhhkkpkmoaaDoor
open Go.ChangeShapes Go.WideShapes Go.ChangeAt Go.RowKit
set_option linter.unusedVariables false
theorem append_ents2 {P : Program} (w : World) {ops : Array Oper} {rest : List Oper} {o : Oper} {a : Act} {Q : Exit → Act → World → Prop} (hgd : o.guard = none) (s x : Operand) (t : TypeId)
  (ho : o.op = .call { callee := .builtin .append, args := #[s, x], argTypes := #[t, t] }) (base : Nat) (e : TypeId) (i : TypeInfo) (ht : P.underlying t = some (.slice e)) (hi : P.info? e = some i) (hz : i.zero = some (.agg #[.int .i64 0, .string ⟨#[]⟩])) (hsize : i.size = 2) (hby : i.bytes = 24)
  (v : Value) (hs : a.eval s = v) (hown : w.ownsRow base e 2 v 0 [])
  (sp : Option Addr) (sc n : Nat) (l : List (Int × ByteArray)) (hn : l.length = n) (hx : a.eval x = .slice sp n sc) (hr : RowV w sp (cE l)) (hb : n ≤ 1048576) (hbase : base ≤ w.heap.size)
  (h : ∀ v' w', w'.ownsRow base e 2 v' n (cE l) → w.grownBy w' v.ownBlock → (v' = v ∨ ∃ g c, v' = .slice (some ⟨g, 0, none⟩) n c) → wpList P ops Q rest (a.put o.dst v') w') :
  wpList P ops Q (o :: rest) a w := by
 by_cases h0 : n = 0
 ·subst h0
  obtain rfl : l = [] := List.length_eq_zero_iff.1 hn
  obtain ⟨pv, cv, rfl, -⟩ := ownZ_rowV hown
  have hsrc : Src P i.size t (.slice sp 0 sc) 0 [] w := by
   cases sp with
   | none => exact Src.ofNil w ht sc
   | some ad => exact Src.ofSlice w ht ad 0 sc [] (by simp) (fun j u hu => by simp at hu) (fun u hu => by cases hu)
  have hrun := run_append_nothing (P := P) w t t o.type e i ht hi pv 0 cv (Nat.zero_le _) (.slice sp 0 sc) hsrc
  refine wpList_plain hgd fun K hK => ?_
  unfold Oper.wp
  simp [execOp, ho, resolve, invoke, builtin, hs, hx, hrun, Result.andThen]
  exact hK _ _ (h _ w hown (grownBy_refl _ _) (.inl rfl))
 ·obtain ⟨b, off, rfl, _, hc⟩ := hr.at (by rw [cE_len]; omega)
  refine wpList_append_lies w hgd s x t ho base e i (.agg #[.int .i64 0, .string ⟨#[]⟩]) 2 24 ht hi hz hsize hby rfl (by decide) v 0 [] hs hown ⟨b, off, none⟩ n sc (cE l) hx (by rw [cE_len, hn]) ?_ (cE_one l) (by omega) (by unfold maxLen; omega) (by omega) hbase _ rfl ?_
  ·intro j u hu
   rw [show (⟨b, off, none⟩ : Addr).add j = ⟨b, off + j, none⟩ from by unfold Addr.add; split <;> simp_all]
   exact hc j u hu
  ·intro g cap w' ho1 hg1 hat _
   rw [List.nil_append] at ho1
   refine cast ?_ (h (.slice (some ⟨g, 0, none⟩) n cap) w' (by have := ho1; rw [Nat.zero_add] at this; exact this) hg1 (.inr ⟨g, cap, rfl⟩))
   rw [Nat.zero_add]
theorem World.ownsRow_len0 {w : World} {base : Nat} {e : TypeId} {b c n : Nat} {v : Value} {xs : List Value} (h : w.ownsRow base e 2 v n xs) (hv : v = .slice (some ⟨b, 0, none⟩) 0 c) : n = 0 := by
 subst hv
 obtain ⟨g, c', e, -⟩ := ownZ_rowV h
 injection e with e1 e2 e3
 exact e2.symm
set_option maxHeartbeats 4000000 in
set_option maxRecDepth 100000 in
theorem sownS (tm vt : Int) (a : Option Addr) (cap n : Nat) (l : List (Int × ByteArray)) (HN : Hid (l.length = n)) (hn : n ≤ 1048576) (w : World) (hr : RowV w a (cE l)) :
  Calls Tryd.prog 28 #[.agg #[.int .i64 tm, .int .i64 vt, .slice a n cap]] w fun e w' => ∃ (b c : Nat), e = .returned (.agg #[.int .i64 tm, .int .i64 vt, .slice (some ⟨b, 0, none⟩) n c]) ∧ w'.ownsRow w.heap.size 46 2 (.slice (some ⟨b, 0, none⟩) n c) n (cE l) ∧ Below w.heap.size w w' := by
 obtain ⟨ie, hie, hie0, hie1, hie2⟩ := info_parts Tryd.infE46
 have B0 := hide (Go.Joins.below_alloc3 w (.cells #[.int .i64 tm, .int .i64 vt, .slice a n cap] 25) (.cells #[.int .i64 0, .int .i64 0, .slice none 0 0] 25) (.cells #[] 46))
 have A0 := hide (((BF.new w #[.int .i64 tm, .int .i64 vt, .slice a n cap] 25).alloc (.cells #[.int .i64 0, .int .i64 0, .slice none 0 0] 25)).alloc (.cells #[] 46))
 have Z0 := hide ((BF.new (w.alloc (.cells #[.int .i64 tm, .int .i64 vt, .slice a n cap] 25)) #[.int .i64 0, .int .i64 0, .slice none 0 0] 25).alloc (.cells #[] 46))
 simp only [World.size_alloc] at Z0
 have HW := hide (hr.below (unhide B0))
 have OL := hide (World.ownsRow_lit (e := 46) (base := w.heap.size + 2) (size := 2) ((w.alloc (.cells #[.int .i64 tm, .int .i64 vt, .slice a n cap] 25)).alloc (.cells #[.int .i64 0, .int .i64 0, .slice none 0 0] 25)) #[] 0 (by simp) (by unfold maxLen; omega) rfl)
 simp only [World.size_alloc] at OL
 clear hr
 go_enter Tryd.func28, Tryd.ntmps28
 go_wp2_with (at_builtin; refine append_ents2 _ rfl (.tmp 3) (.tmp 5) 23 rfl (w.heap.size + 2) 46 ie Tryd.underlying23 hie hie0 hie1 hie2 _ rfl (unhide OL) a cap n l (unhide HN) rfl (unhide HW) hn (by simp) ?_; intro v' w1 ho1 hg1 hs1; obtain ⟨a1, c1, rfl⟩ : ∃ (a1 c1 : Nat), v' = .slice (some ⟨a1, 0, none⟩) n c1 := hs1.elim (fun e => ⟨w.heap.size + 1 + 1, 0, by have h0 := (World.ownsRow_len0 ho1 e); rw [h0]; exact e⟩) (fun h => h); have hk : ∀ j, (Value.slice (some ⟨w.heap.size + 1 + 1, 0, none⟩) 0 0).ownBlock = some j → j = w.heap.size + 1 + 1 := (fun j hj => (Option.some.inj hj).symm); have A1 := hide ((unhide A0).grown hg1 (fun h => by have := hk _ h; omega)); have Z1 := hide ((unhide Z0).grown hg1 (fun h => by have := hk _ h; omega)); have B1 := hide ((unhide B0).grown hg1 (unhide B0).size (fun j hj => by have := hk j hj; omega)); have O1 := hide ho1; have ka := (unhide A1).S; have kaf := (unhide A1).F; have kz := (unhide Z1).S; have kzf := (unhide Z1).F; clear ho1 hg1 hk)
 refine bodyPost_ret (v := .agg #[.int .i64 tm, .int .i64 vt, .slice (some ⟨a1, 0, none⟩) n c1]) (by simp [results, Tryd.results28, go_sem, kz]) rfl ⟨_, _, rfl, ?_, ?_⟩
 ·refine own_low ?_ (Nat.le_add_right _ 2)
  iterate 3 refine ownsRow_setCell_below ?_ (by show w.heap.size + 1 < w.heap.size + 2; omega) _
  refine ownsRow_setCell_below ?_ (by show w.heap.size < w.heap.size + 2; omega) _
  exact unhide O1
 ·iterate 3 refine Below.setCell ?_ (by exact Nat.le_succ _) _
  refine Below.setCell ?_ (by exact Nat.le_refl _) _
  exact unhide B1
end Go.Proofs.YtkdplhhkkpkmoaaDoor
