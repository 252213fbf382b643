/- slices.Clone of texts: what the program answers. -/
import Derived.Test.YtfibbhggphmebaaZStrS
import Derived.Test.YtfibbhggphmebaaZLitT
import Derived.Test.YtfibbhggphmebaaZPair
import Derived.Deep.AppendSrc
import Derived.Lib.SmallJoins
import Derived.Deep.AppendLies
import Derived.Deep.Upon
import Derived.Lib.SliceRun
namespace Go.Proofs.Ytfibbhggphmebaa
open Go.ChangeShapes Go.WideShapes Go.ChangeAt Go.RowKit
set_option linter.unusedVariables false
theorem append_strsN {P : Program} (w : World) {ops : Array Oper} {rest : List Oper} {o : Oper} {a : Act} {Q : Exit → Act → World → Prop} (hgd : o.guard = none) (s x : Operand) (t : TypeId)
    (ho : o.op = .call { callee := .builtin .append, args := #[s, x], argTypes := #[t, t] }) (base : Nat) (e : TypeId) (i : TypeInfo) (ht : P.underlying t = some (.slice e)) (hi : P.info? e = some i) (hz : i.zero = some (.string ⟨#[]⟩)) (hsize : i.size = 1) (hby : i.bytes = 16)
    (v : Value) (hs : a.eval s = v) (hown : w.ownsRow base e 1 v 0 [])
    (sp : Option Addr) (sc n : Nat) (l : List ByteArray) (hn : l.length = n) (hx : a.eval x = .slice sp n sc) (hr : RowV w sp (cS l)) (hb : n ≤ 1048576) (hbase : base ≤ w.heap.size)
    (h : ∀ v' w', w'.ownsRow base e 1 v' n (cS l) → w.grownBy w' v.ownBlock → wpList P ops Q rest (a.put o.dst v') w') :
    wpList P ops Q (o :: rest) a w := by
  by_cases h0 : n = 0
  · subst h0
    obtain rfl : l = [] := List.length_eq_zero_iff.1 hn
    obtain ⟨pv, cv, rfl, -⟩ := ownZ_rowV hown
    have hsrc : Src P i.size t (.slice sp 0 sc) 0 [] w := by
      cases sp with
      | none => exact Src.ofNil w ht sc
      | some ad => exact Src.ofSlice w ht ad 0 sc [] (by simp) (fun j u hu => by simp at hu) (fun u hu => by cases hu)
    have hrun := run_append_nothing (P := P) w t t o.type e i ht hi pv 0 cv (Nat.zero_le _) (.slice sp 0 sc) hsrc
    refine wpList_plain hgd fun K hK => ?_
    unfold Oper.wp
    simp [execOp, ho, resolve, invoke, builtin, hs, hx, hrun, Result.andThen]
    exact hK _ _ (h _ w hown (grownBy_refl _ _))
  · obtain ⟨b, off, rfl, _, hc⟩ := hr.at (by rw [cS_len]; omega)
    refine wpList_append_lies w hgd s x t ho base e i (.string ⟨#[]⟩) 1 16 ht hi hz hsize hby rfl (by decide) v 0 [] hs hown ⟨b, off, none⟩ n sc (cS l) hx (by rw [cS_len, hn, Nat.mul_one]) ?_ (cS_one l) (by omega) (by unfold maxLen; omega) (by omega) hbase _ rfl ?_
    · intro j u hu
      rw [show (⟨b, off, none⟩ : Addr).add j = ⟨b, off + j, none⟩ from by unfold Addr.add; split <;> simp_all]
      exact hc j u hu
    · intro g cap w' ho1 hg1 hat _
      rw [List.nil_append] at ho1
      refine cast ?_ (h (.slice (some ⟨g, 0, none⟩) n cap) w' (by have := ho1; rw [Nat.zero_add] at this; exact this) hg1)
      rw [Nat.zero_add]
set_option maxHeartbeats 1000000 in
set_option maxRecDepth 100000 in
theorem tclone (x : Addr) (cap n : Nat) (l : List ByteArray) (HN : Hid (l.length = n)) (hn : n ≤ 1048576) (w : World) (hr : RowV w (some x) (cS l)) :
    Calls Try.prog 47 #[.slice (some x) n cap] w fun e w' => ∃ v, e = .returned v ∧ w'.ownsRow w.heap.size 9 1 v n (cS l) ∧ Below w.heap.size w w' := by
  obtain ⟨i0, hi, hz0, hz1, hz2⟩ := info_parts Try.infL9
  have hnil : ∀ W, (binOp .eql 22 (.slice (some x) n cap) (.slice none 0 0)).run Try.prog W = .ok (.bool false) W := fun W => Go.Lib.run_eql_slice_nil W _ _ (some x) n cap 0 0 Try.underlying22
  have HR := hide hr
  have hown := lit_atT w w.heap.size w.heap.size 9 rfl (Nat.le_refl _)
  have HB := hide (Go.Joins.below_alloc1 w (.cells #[] 9))
  clear hr
  go_enter Try.func47, Try.ntmps47
  go_wp2_with (at_builtin; refine append_strsN _ rfl (.tmp 5) (.tmp 6) 22 rfl w.heap.size 9 i0 Try.underlying22 hi hz0 hz1 hz2 _ rfl hown (some x) cap n l (unhide HN) rfl ((unhide HR).below (unhide HB)) hn (by simp) ?_; intro v2 w2 ho2 hg2; have HO2 := hide ho2; have HB2 := hide ((unhide HB).grown hg2 (unhide HB).size (fun k hk => (hown.lt k hk).1)); clear ho2 hg2 hown)
  go_ret
  exact ⟨_, rfl, unhide HO2, unhide HB2⟩
set_option maxHeartbeats 1000000 in
set_option maxRecDepth 100000 in
theorem tcloneN (cap : Nat) (w : World) :
    Calls Try.prog 47 #[.slice none 0 cap] w fun e w' => ∃ v, e = .returned v ∧ w'.ownsRow w.heap.size 9 1 v 0 (cS []) ∧ Below w.heap.size w w' := by
  have hnil : ∀ W, (binOp .eql 22 (.slice none 0 cap) (.slice none 0 0)).run Try.prog W = .ok (.bool true) W := fun W => Go.Lib.run_eql_slice_nil W _ _ none 0 cap 0 0 Try.underlying22
  go_enter Try.func47, Try.ntmps47
  go_wp2_with fail
  go_ret
  exact ⟨_, rfl, World.ownsRow_nil _ _ _ _, Below.refl _ _⟩
theorem tcloneA (a : Option Addr) (cap n : Nat) (l : List ByteArray) (HN : Hid (l.length = n)) (hn : n ≤ 1048576) (w : World) (hr : RowV w a (cS l)) :
    Calls Try.prog 47 #[.slice a n cap] w fun e w' => ∃ v, e = .returned v ∧ w'.ownsRow w.heap.size 9 1 v n (cS l) ∧ Below w.heap.size w w' := by
  have h := unhide HN
  rcases hr with h0 | ⟨b, off, rfl, hlt, hc⟩
  · have hl : l.length = 0 := by
      have := congrArg List.length h0; rw [cS_len] at this; simp only [List.length_nil] at this; omega
    obtain rfl : l = [] := List.length_eq_zero_iff.1 hl
    obtain rfl : n = 0 := by rw [← h]; rfl
    cases a with
    | none => exact tcloneN cap w
    | some x => exact tclone x cap 0 [] HN hn w (.inl h0)
  · exact tclone ⟨b, off, none⟩ cap n l HN hn w (.inr ⟨b, off, rfl, hlt, hc⟩)
end Go.Proofs.Ytfibbhggphmebaa
