/- Worlds in which only one block and one row turned; an append of entries at a step of a drawn region. -/
import Derived.Test.YtjlajpnhcphngaaZG16
import Derived.Test.YtjlajpnhcphngaaZOwnN
namespace Go.Proofs.Ytjlajpnhcphngaa
open Go.ChangeShapes Go.WideShapes Go.ChangeAt Go.RowKit
set_option linter.unusedVariables false
/-- Only block P and the row turned. -/
structure Two (P : Nat) (row : Option Nat) (w w' : World) : Prop where
  os : w'.os = w.os
  tape : w'.tape = w.tape
  output : w'.output = w.output
  size : w.heap.size ≤ w'.heap.size
  block : ∀ k, k < w.heap.size → k ≠ P → row ≠ some k → w'.heap[k]? = w.heap[k]?
theorem Two.of_below {P : Nat} {row : Option Nat} {w w' : World} (h : Below w.heap.size w w') : Two P row w w' := ⟨h.os, h.tape, h.output, h.size, fun k hk _ _ => h.block k hk⟩
theorem Two.of_grown {P : Nat} {row row2 : Option Nat} {w w' : World} (h : w.grownBy w' row2) (hr : ∀ k, k < w.heap.size → row2 = some k → k = P ∨ row = some k) : Two P row w w' :=
  ⟨h.os, h.tape, h.output, h.size, fun k hk h1 h2 => h.block k hk (fun e => by rcases hr k hk e.symm with h3 | h3; exact h1 h3; exact h2 h3)⟩
theorem Two.trans {P : Nat} {row row2 : Option Nat} {w w1 w2 : World} (h : Two P row w w1) (k : Two P row2 w1 w2) (hr : ∀ j, j < w.heap.size → row2 = some j → row = some j) : Two P row w w2 :=
  ⟨k.os.trans h.os, k.tape.trans h.tape, k.output.trans h.output, Nat.le_trans h.size k.size, fun j hj h1 h2 => (k.block j (Nat.lt_of_lt_of_le hj h.size) h1 (fun e => h2 (hr j hj e))).trans (h.block j hj h1 h2)⟩
theorem Two.set {P o : Nat} {row : Option Nat} {w w' : World} {u : Value} (h : Two P row w w') : Two P row w (w'.setCell ⟨P, o, none⟩ u) :=
  ⟨h.os, h.tape, h.output, by simpa using h.size, fun k hk h1 h2 => (Below.heap_setCell _ _ _ _ h1).trans (h.block k hk h1 h2)⟩
/-- An address that is neither in the block nor in the row. -/
def OffA (P : Nat) (row : Option Nat) (a : Option Addr) : Prop := ∀ x, a = some x → x.block ≠ P ∧ row ≠ some x.block
theorem RowV.two {P : Nat} {row : Option Nat} {w w' : World} {a : Option Addr} {xs : List Value} (h : RowV w a xs) (ht : Two P row w w') (ho : OffA P row a) : RowV w' a xs := by
  rcases h with h | ⟨b, off, e, hlt, hc⟩
  · exact .inl h
  · have h1 := ho _ e
    exact .inr ⟨b, off, e, Nat.lt_of_lt_of_le hlt ht.size, fun i u hu => (World.cell?_of_block (a := ⟨b, off + i, none⟩) (ht.block b hlt h1.1 h1.2)).trans (hc i u hu)⟩
theorem own_addr {w : World} {base : Nat} {e : TypeId} {z : Nat} {a : Option Addr} {n cap : Nat} {xs : List Value} (h : w.ownsRow base e z (.slice a n cap) n xs) : ∀ x, a = some x → (Value.slice a n cap).ownBlock = some x.block := by
  rcases h.2 with ⟨h2, _⟩ | ⟨g, cap', cur, hv, _⟩
  · injection h2 with h2 _ _; subst h2; intro x hx; cases hx
  · injection hv with h2 _ _; subst h2; intro x hx; injection hx with hx; subst hx; rfl
/-- At a step of a drawn region: an empty literal that gets a row of entries, empty or not. -/
theorem step_append_ents {P : Program} (w : World) {ops : Array Oper} {o : Oper} {a : Act} {K : Act → World → Prop} {Q : Exit → Act → World → Prop} {E : Prop} (hgd : o.guard = none) (s x : Operand) (t : TypeId)
    (ho : o.op = .call { callee := .builtin .append, args := #[s, x], argTypes := #[t, t] }) (base : Nat) (e : TypeId) (i : TypeInfo) (ht : P.underlying t = some (.slice e)) (hi : P.info? e = some i) (hz : i.zero = some (.agg #[.int .i64 0, .string ⟨#[]⟩])) (hsize : i.size = 2) (hby : i.bytes = 24)
    (v : Value) (hs : a.eval s = v) (hown : w.ownsRow base e 2 v 0 [])
    (sp : Option Addr) (sc n : Nat) (l : List (Int × ByteArray)) (hn : l.length = n) (hx : a.eval x = .slice sp n sc) (hr : RowV w sp (cE l)) (hb : n ≤ 1048576) (hbase : base ≤ w.heap.size)
    (h : ∀ v' w', w'.ownsRow base e 2 v' n (cE l) → w.grownBy w' v.ownBlock → K (a.put o.dst v') w') :
    if Region.wanted o (yielded ops a.tmps) = true then Oper.wp P o a w K Q else E := by
  by_cases h0 : n = 0
  · subst h0
    obtain rfl : l = [] := List.length_eq_zero_iff.1 hn
    obtain ⟨pv, cv, rfl, -⟩ := ownZ_rowV hown
    have hsrc : Src P i.size t (.slice sp 0 sc) 0 [] w := by
      cases sp with
      | none => exact Src.ofNil w ht sc
      | some ad => exact Src.ofSlice w ht ad 0 sc [] (by simp) (fun j u hu => by simp at hu) (fun u hu => by cases hu)
    have hrun := run_append_nothing (P := P) w t t o.type e i ht hi pv 0 cv (Nat.zero_le _) (.slice sp 0 sc) hsrc
    have hw : Region.wanted o (yielded ops a.tmps) = true := by simp [Region.wanted, hgd]
    rw [if_pos hw]
    unfold Oper.wp
    simp [execOp, ho, resolve, invoke, builtin, hs, hx, hrun, Result.andThen]
    exact h _ w hown (grownBy_refl _ _)
  · obtain ⟨b, off, rfl, _, hc⟩ := hr.at (by rw [cE_len]; omega)
    refine step_append_lies w hgd s x t ho base e i (.agg #[.int .i64 0, .string ⟨#[]⟩]) 2 24 ht hi hz hsize hby rfl (by decide) v 0 [] hs hown ⟨b, off, none⟩ n sc (cE l) hx (by rw [cE_len, hn]) ?_ (cE_one l) (by omega) (by unfold maxLen; omega) (by omega) hbase _ rfl ?_
    · intro j u hu
      rw [show (⟨b, off, none⟩ : Addr).add j = ⟨b, off + j, none⟩ from by unfold Addr.add; split <;> simp_all]
      exact hc j u hu
    · intro g cap w' ho1 hg1 hat _
      rw [List.nil_append] at ho1
      refine cast ?_ (h (.slice (some ⟨g, 0, none⟩) n cap) w' (by have := ho1; rw [Nat.zero_add] at this; exact this) hg1)
      rw [Nat.zero_add]
end Go.Proofs.Ytjlajpnhcphngaa
