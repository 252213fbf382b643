/- append of a row of texts, empty or not, onto a row that the call owns. -/
import Derived.Test.YteeklocaaidimaaStrS
import Derived.Deep.AppendSrc
import Derived.Deep.Upon
namespace Go.Proofs.Yteeklocaaidimaa
open Go.ChangeShapes Go.WideShapes Go.ChangeAt Go.RowKit
set_option linter.unusedVariables false
theorem append_strs {P : Program} (w : World) {ops : Array Oper} {rest : List Oper} {o : Oper} {a : Act} {Q : Exit → Act → World → Prop} (hgd : o.guard = none) (s x : Operand) (t : TypeId)
    (ho : o.op = .call { callee := .builtin .append, args := #[s, x], argTypes := #[t, t] }) (base : Nat) (e : TypeId) (i : TypeInfo) (ht : P.underlying t = some (.slice e)) (hi : P.info? e = some i) (hz : i.zero = some (.string ⟨#[]⟩)) (hsize : i.size = 1) (hby : i.bytes = 16)
    (v : Value) (hs : a.eval s = v) (hown : w.ownsRow base e 1 v 0 [])
    (sp : Option Addr) (sc : Nat) (m : List ByteArray) (hx : a.eval x = .slice sp m.length sc) (hr : RowV w sp (cS m)) (hb : m.length ≤ 1048576) (hbase : base ≤ w.heap.size)
    (h : ∀ v' w', w'.ownsRow base e 1 v' m.length (cS m) → w.grownBy w' v.ownBlock → (∀ k, v'.ownBlock = some k → v.ownBlock = some k ∨ w.heap.size ≤ k) → wpList P ops Q rest (a.put o.dst v') w') :
    wpList P ops Q (o :: rest) a w := by
  by_cases h0 : m.length = 0
  · obtain rfl : m = [] := List.length_eq_zero_iff.1 h0
    obtain ⟨pv, cv, rfl, -⟩ := own_rowV hown
    have hsrc : Src P i.size t (.slice sp 0 sc) 0 [] w := by
      cases sp with
      | none => exact Src.ofNil w ht sc
      | some ad => exact Src.ofSlice w ht ad 0 sc [] (by simp) (fun j u hu => by simp at hu) (fun u hu => by cases hu)
    have hrun := run_append_nothing (P := P) w t t o.type e i ht hi pv 0 cv (Nat.zero_le _) (.slice sp 0 sc) hsrc
    refine wpList_plain hgd fun K hK => ?_
    unfold Oper.wp
    simp only [List.length_nil] at hx
    simp [execOp, ho, resolve, invoke, builtin, hs, hx, hrun, Result.andThen]
    exact hK _ _ (h _ w hown (grownBy_refl _ _) (fun k hk => .inl hk))
  · obtain ⟨b, off, rfl, _, hc⟩ := hr.at (by rw [cS_len]; omega)
    refine wpList_append_lies w hgd s x t ho base e i (.string ⟨#[]⟩) 1 16 ht hi hz hsize hby rfl (by decide) v 0 [] hs hown ⟨b, off, none⟩ m.length sc (cS m) hx (by rw [cS_len]; omega) ?_ (by intro u hu; simp only [cS, List.mem_map] at hu; obtain ⟨y, _, rfl⟩ := hu; rfl) (by omega) (by unfold maxLen; omega) (by omega) hbase _ rfl ?_
    · intro j u hu
      rw [show (⟨b, off, none⟩ : Addr).add j = ⟨b, off + j, none⟩ from by unfold Addr.add; split <;> simp_all]
      exact hc j u hu
    · intro g cap w' ho1 hg1 hat _
      rw [List.nil_append] at ho1
      refine cast ?_ (h (.slice (some ⟨g, 0, none⟩) m.length cap) w' (by have := ho1; rw [Nat.zero_add] at this; exact this) hg1 (fun k hk => by have : g = k := Option.some.inj hk; subst this; rcases hat with h1 | h1; exact .inl h1; exact .inr (by omega)))
      rw [Nat.zero_add]
end Go.Proofs.Yteeklocaaidimaa
