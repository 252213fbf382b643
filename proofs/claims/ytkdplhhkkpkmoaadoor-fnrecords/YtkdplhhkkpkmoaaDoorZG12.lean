/- Texts put together: ClnI CopI. -/
import Derived.Test.YtkdplhhkkpkmoaaDoorZG2
import Derived.Test.YtkdplhhkkpkmoaaDoorZG10
import Derived.Deep.AppendLies
import Derived.Deep.AppendSrc
import Derived.Deep.Upon
import Derived.Lib.SliceRun
import Derived.Lib.SmallJoins
/- Logs copied: slices.Clone, (State).copied, l07Own. append of entries. -/
namespace Go.Proofs.YtkdplhhkkpkmoaaDoor
open Go.ChangeShapes Go.WideShapes Go.ChangeAt Go.RowKit
set_option linter.unusedVariables false
theorem Tryd.infE46 : (Tryd.prog.info? 46).map (fun i => (i.zero, i.size, i.bytes)) = some (some (.agg #[.int .i64 0, .string ⟨#[]⟩]), 2, 24) := by kernel_rfl
/-- An empty literal that gets a row of entries, empty or not. -/
theorem append_ents {P : Program} (w : World) {ops : Array Oper} {rest : List Oper} {o : Oper} {a : Act} {Q : Exit → Act → World → Prop} (hgd : o.guard = none) (s x : Operand) (t : TypeId)
  (ho : o.op = .call { callee := .builtin .append, args := #[s, x], argTypes := #[t, t] }) (base : Nat) (e : TypeId) (i : TypeInfo) (ht : P.underlying t = some (.slice e)) (hi : P.info? e = some i) (hz : i.zero = some (.agg #[.int .i64 0, .string ⟨#[]⟩])) (hsize : i.size = 2) (hby : i.bytes = 24)
  (v : Value) (hs : a.eval s = v) (hown : w.ownsRow base e 2 v 0 [])
  (sp : Option Addr) (sc n : Nat) (l : List (Int × ByteArray)) (hn : l.length = n) (hx : a.eval x = .slice sp n sc) (hr : RowV w sp (cE l)) (hb : n ≤ 1048576) (hbase : base ≤ w.heap.size)
  (h : ∀ v' w', w'.ownsRow base e 2 v' n (cE l) → w.grownBy w' v.ownBlock → wpList P ops Q rest (a.put o.dst v') w') :
  wpList P ops Q (o :: rest) a w := by
 by_cases h0 : n = 0
 ·subst h0
  obtain rfl : l = [] := List.length_eq_zero_iff.1 hn
  obtain ⟨pv, cv, rfl, -⟩ := ownZ_rowV hown
  have hsrc : Src P i.size t (.slice sp 0 sc) 0 [] w := by
   cases sp with
   | none => exact Src.ofNil w ht sc
   | some ad => exact Src.ofSlice w ht ad 0 sc [] (by simp) (fun j u hu => by simp at hu) (fun u hu => by cases hu)
  have hrun := run_append_nothing (P := P) w t t o.type e i ht hi pv 0 cv (Nat.zero_le _) (.slice sp 0 sc) hsrc
  refine wpList_plain hgd fun K hK => ?_
  unfold Oper.wp
  simp [execOp, ho, resolve, invoke, builtin, hs, hx, hrun, Result.andThen]
  exact hK _ _ (h _ w hown (grownBy_refl _ _))
 ·obtain ⟨b, off, rfl, _, hc⟩ := hr.at (by rw [cE_len]; omega)
  refine wpList_append_lies w hgd s x t ho base e i (.agg #[.int .i64 0, .string ⟨#[]⟩]) 2 24 ht hi hz hsize hby rfl (by decide) v 0 [] hs hown ⟨b, off, none⟩ n sc (cE l) hx (by rw [cE_len, hn]) ?_ (cE_one l) (by omega) (by unfold maxLen; omega) (by omega) hbase _ rfl ?_
  ·intro j u hu
   rw [show (⟨b, off, none⟩ : Addr).add j = ⟨b, off + j, none⟩ from by unfold Addr.add; split <;> simp_all]
   exact hc j u hu
  ·intro g cap w' ho1 hg1 hat _
   rw [List.nil_append] at ho1
   refine cast ?_ (h (.slice (some ⟨g, 0, none⟩) n cap) w' (by have := ho1; rw [Nat.zero_add] at this; exact this) hg1)
   rw [Nat.zero_add]
theorem lit_emptyE (w : World) (t : TypeId) (base : Nat) (hb : base ≤ w.heap.size) : (w.alloc (.cells #[] t)).ownsRow base t 2 (.slice (some ⟨w.heap.size, 0, none⟩) 0 0) 0 [] := by
 have h := World.ownsRow_lit (e := t) (base := base) (size := 2) w #[] 0 hb (by unfold maxLen; omega) rfl
 simpa using h
set_option maxHeartbeats 1000000 in
set_option maxRecDepth 100000 in
theorem iclone (x : Addr) (cap n : Nat) (l : List (Int × ByteArray)) (HN : Hid (l.length = n)) (hn : n ≤ 1048576) (w : World) (hr : RowV w (some x) (cE l)) :
  Calls Tryd.prog 36 #[.slice (some x) n cap] w fun e w' => ∃ v, e = .returned v ∧ w'.ownsRow w.heap.size 46 2 v n (cE l) ∧ Below w.heap.size w w' := by
 obtain ⟨i0, hi, hz0, hz1, hz2⟩ := info_parts Tryd.infE46
 have hnil : ∀ W, (binOp .eql 23 (.slice (some x) n cap) (.slice none 0 0)).run Tryd.prog W = .ok (.bool false) W := fun W => Go.Lib.run_eql_slice_nil W _ _ (some x) n cap 0 0 Tryd.underlying23
 have HR := hide hr
 have hown := lit_emptyE w 46 w.heap.size (Nat.le_refl _)
 have HB := hide (Go.Joins.below_alloc1 w (.cells #[] 46))
 clear hr
 go_enter Tryd.func36, Tryd.ntmps36
 go_wp2_with (at_builtin; refine append_ents _ rfl (.tmp 5) (.tmp 6) 23 rfl w.heap.size 46 i0 Tryd.underlying23 hi hz0 hz1 hz2 _ rfl hown (some x) cap n l (unhide HN) rfl ((unhide HR).below (unhide HB)) hn (by simp) ?_; intro v2 w2 ho2 hg2; have HO2 := hide ho2; have HB2 := hide ((unhide HB).grown hg2 (unhide HB).size (fun k hk => (hown.lt k hk).1)); clear ho2 hg2 hown)
 go_ret
 exact ⟨_, rfl, unhide HO2, unhide HB2⟩
end Go.Proofs.YtkdplhhkkpkmoaaDoor

/- slices.Clone of any log, (State).copied: what the program answers. -/
namespace Go.Proofs.YtkdplhhkkpkmoaaDoor
open Go.ChangeShapes Go.WideShapes Go.ChangeAt Go.RowKit
set_option linter.unusedVariables false
theorem own_set {w : World} {base : Nat} {e : TypeId} {z : Nat} {v : Value} {n : Nat} {xs : List Value} (h : w.ownsRow base e z v n xs) {k o : Nat} {u : Value} (hk : k < base) : (w.setCell ⟨k, o, none⟩ u).ownsRow base e z v n xs :=
 h.kept stored_grown (.inr (fun hv => by have := (h.lt k hv).1; omega))
theorem own_low {w : World} {base b2 : Nat} {e : TypeId} {z : Nat} {v : Value} {n : Nat} {xs : List Value} (h : w.ownsRow base e z v n xs) (hb : b2 ≤ base) : w.ownsRow b2 e z v n xs := by
 obtain ⟨h1, h2 | ⟨g, cap, cur, hv, hbg, hr⟩⟩ := h
 ·exact ⟨h1, .inl h2⟩
 ·exact ⟨h1, .inr ⟨g, cap, cur, hv, Nat.le_trans hb hbg, hr⟩⟩
theorem nil_ownE (w : World) (base : Nat) (t : TypeId) : w.ownsRow base t 2 (.slice none 0 0) 0 [] := ⟨by simp, .inl ⟨rfl, rfl⟩⟩
set_option maxHeartbeats 1000000 in
set_option maxRecDepth 100000 in
theorem icloneN (cap : Nat) (w : World) :
  Calls Tryd.prog 36 #[.slice none 0 cap] w fun e w' => ∃ v, e = .returned v ∧ w'.ownsRow w.heap.size 46 2 v 0 (cE []) ∧ Below w.heap.size w w' := by
 have hnil : ∀ W, (binOp .eql 23 (.slice none 0 cap) (.slice none 0 0)).run Tryd.prog W = .ok (.bool true) W := fun W => Go.Lib.run_eql_slice_nil W _ _ none 0 cap 0 0 Tryd.underlying23
 go_enter Tryd.func36, Tryd.ntmps36
 go_wp2_with fail
 go_ret
 exact ⟨_, rfl, nil_ownE _ _ _, Below.refl _ _⟩
theorem icloneA (a : Option Addr) (cap n : Nat) (l : List (Int × ByteArray)) (HN : Hid (l.length = n)) (hn : n ≤ 1048576) (w : World) (hr : RowV w a (cE l)) :
  Calls Tryd.prog 36 #[.slice a n cap] w fun e w' => ∃ v, e = .returned v ∧ w'.ownsRow w.heap.size 46 2 v n (cE l) ∧ Below w.heap.size w w' := by
 have h := unhide HN
 rcases hr with h0 | ⟨b, off, rfl, hlt, hc⟩
 ·have hl : l.length = 0 := by
   have := congrArg List.length h0; rw [cE_len] at this; simp only [List.length_nil] at this; omega
  obtain rfl : l = [] := List.length_eq_zero_iff.1 hl
  obtain rfl : n = 0 := by rw [← h]; rfl
  cases a with
  | none => exact icloneN cap w
  | some x => exact iclone x cap 0 [] HN hn w (.inl h0)
 ·exact iclone ⟨b, off, none⟩ cap n l HN hn w (.inr ⟨b, off, rfl, hlt, hc⟩)
set_option maxHeartbeats 1000000 in
set_option maxRecDepth 100000 in
theorem icopied (tm vt : Int) (a : Option Addr) (cap n : Nat) (l : List (Int × ByteArray)) (HN : Hid (l.length = n)) (hn : n ≤ 1048576) (w : World) (hr : RowV w a (cE l)) :
  Calls Tryd.prog 22 #[.agg #[.int .i64 tm, .int .i64 vt, .slice a n cap]] w fun e w' => ∃ v, e = .returned (.agg #[.int .i64 tm, .int .i64 vt, v]) ∧ w'.ownsRow w.heap.size 46 2 v n (cE l) ∧ Below w.heap.size w w' := by
 have B0 := hide (Go.Joins.below_alloc2 w (.cells #[.int .i64 tm, .int .i64 vt, .slice a n cap] 25) (.cells #[.int .i64 0, .int .i64 0, .slice none 0 0] 25))
 have A0 := hide ((BF.new w #[.int .i64 tm, .int .i64 vt, .slice a n cap] 25).alloc (.cells #[.int .i64 0, .int .i64 0, .slice none 0 0] 25))
 have Z0 := hide (BF.new (w.alloc (.cells #[.int .i64 tm, .int .i64 vt, .slice a n cap] 25)) #[.int .i64 0, .int .i64 0, .slice none 0 0] 25)
 rw [show (w.alloc (.cells #[.int .i64 tm, .int .i64 vt, .slice a n cap] 25)).heap.size = w.heap.size + 1 from by simp] at Z0
 have T := icloneA a cap n l HN hn _ (hr.below (unhide B0))
 clear hr
 go_enter Tryd.func22, Tryd.ntmps22
 go_wp2_with fail
 refine T.mono ?_
 clear T
 rintro e w1 ⟨v, rfl, ho, hb1⟩
 have B1 := hide ((unhide B0).trans (hb1.mono (unhide B0).size))
 have A1 := hide ((unhide A0).below hb1)
 have Z1 := hide ((unhide Z0).below hb1)
 obtain ⟨a2, cap2, rfl, hr2⟩ := ownZ_rowV ho
 have ka := (unhide A1).S
 have kaf := (unhide A1).F
 have kz := (unhide Z1).S
 have kf := (unhide Z1).F
 have HO := hide ho
 clear B0 A0 Z0 hb1 ho hr2
 go_wp2_with fail
 refine bodyPost_ret (v := .agg #[.int .i64 tm, .int .i64 vt, .slice a2 n cap2]) (by simp [results, Tryd.results22, go_sem, kz]) rfl ⟨_, rfl, ?_, ?_⟩
 ·have h9 := unhide HO
  rw [show ((w.alloc (.cells #[.int .i64 tm, .int .i64 vt, .slice a n cap] 25)).alloc (.cells #[.int .i64 0, .int .i64 0, .slice none 0 0] 25)).heap.size = w.heap.size + 2 from by simp] at h9
  exact own_low (own_set (own_set (own_set (own_set h9 (by omega)) (by omega)) (by omega)) (by omega)) (by omega)
 ·repeat refine Below.setCell ?_ (by first | exact Nat.le_succ _ | exact Nat.le_refl _) _
  exact unhide B1
end Go.Proofs.YtkdplhhkkpkmoaaDoor
