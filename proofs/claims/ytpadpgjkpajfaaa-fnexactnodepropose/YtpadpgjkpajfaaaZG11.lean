/- Texts put together: ClnI NumM ReadNumM CopI. -/
import Derived.Test.YtpadpgjkpajfaaaZG2
import Derived.Test.YtpadpgjkpajfaaaZG3
import Derived.Deep.AppendLies
import Derived.Deep.AppendSrc
import Derived.Deep.Upon
import Derived.Lib.SliceRun
import Derived.Lib.SmallJoins
import Derived.Test.YtpadpgjkpajfaaaZRowV
import Derived.Laws.BitsAllLaws
import Derived.Laws.BitsLemmas
import Derived.Test.YtpadpgjkpajfaaaZIntS
/- Logs copied: slices.Clone, (State).copied, l07Own. append of entries. -/
namespace Go.Proofs.Ytpadpgjkpajfaaa
open Go.ChangeShapes Go.WideShapes Go.ChangeAt Go.RowKit
set_option linter.unusedVariables false
theorem Try.infE49 : (Try.prog.info? 49).map (fun i => (i.zero, i.size, i.bytes)) = some (some (.agg #[.int .i64 0, .string ⟨#[]⟩]), 2, 24) := by kernel_rfl
/-- An empty literal that gets a row of entries, empty or not. -/
theorem append_ents {P : Program} (w : World) {ops : Array Oper} {rest : List Oper} {o : Oper} {a : Act} {Q : Exit → Act → World → Prop} (hgd : o.guard = none) (s x : Operand) (t : TypeId)
    (ho : o.op = .call { callee := .builtin .append, args := #[s, x], argTypes := #[t, t] }) (base : Nat) (e : TypeId) (i : TypeInfo) (ht : P.underlying t = some (.slice e)) (hi : P.info? e = some i) (hz : i.zero = some (.agg #[.int .i64 0, .string ⟨#[]⟩])) (hsize : i.size = 2) (hby : i.bytes = 24)
    (v : Value) (hs : a.eval s = v) (hown : w.ownsRow base e 2 v 0 [])
    (sp : Option Addr) (sc n : Nat) (l : List (Int × ByteArray)) (hn : l.length = n) (hx : a.eval x = .slice sp n sc) (hr : RowV w sp (cE l)) (hb : n ≤ 1048576) (hbase : base ≤ w.heap.size)
    (h : ∀ v' w', w'.ownsRow base e 2 v' n (cE l) → w.grownBy w' v.ownBlock → wpList P ops Q rest (a.put o.dst v') w') :
    wpList P ops Q (o :: rest) a w := by
  by_cases h0 : n = 0
  · subst h0
    obtain rfl : l = [] := List.length_eq_zero_iff.1 hn
    obtain ⟨pv, cv, rfl, -⟩ := ownZ_rowV hown
    have hsrc : Src P i.size t (.slice sp 0 sc) 0 [] w := by
      cases sp with
      | none => exact Src.ofNil w ht sc
      | some ad => exact Src.ofSlice w ht ad 0 sc [] (by simp) (fun j u hu => by simp at hu) (fun u hu => by cases hu)
    have hrun := run_append_nothing (P := P) w t t o.type e i ht hi pv 0 cv (Nat.zero_le _) (.slice sp 0 sc) hsrc
    refine wpList_plain hgd fun K hK => ?_
    unfold Oper.wp
    simp [execOp, ho, resolve, invoke, builtin, hs, hx, hrun, Result.andThen]
    exact hK _ _ (h _ w hown (grownBy_refl _ _))
  · obtain ⟨b, off, rfl, _, hc⟩ := hr.at (by rw [cE_len]; omega)
    refine wpList_append_lies w hgd s x t ho base e i (.agg #[.int .i64 0, .string ⟨#[]⟩]) 2 24 ht hi hz hsize hby rfl (by decide) v 0 [] hs hown ⟨b, off, none⟩ n sc (cE l) hx (by rw [cE_len, hn]) ?_ (cE_one l) (by omega) (by unfold maxLen; omega) (by omega) hbase _ rfl ?_
    · intro j u hu
      rw [show (⟨b, off, none⟩ : Addr).add j = ⟨b, off + j, none⟩ from by unfold Addr.add; split <;> simp_all]
      exact hc j u hu
    · intro g cap w' ho1 hg1 hat _
      rw [List.nil_append] at ho1
      refine cast ?_ (h (.slice (some ⟨g, 0, none⟩) n cap) w' (by have := ho1; rw [Nat.zero_add] at this; exact this) hg1)
      rw [Nat.zero_add]
theorem lit_emptyE (w : World) (t : TypeId) (base : Nat) (hb : base ≤ w.heap.size) : (w.alloc (.cells #[] t)).ownsRow base t 2 (.slice (some ⟨w.heap.size, 0, none⟩) 0 0) 0 [] := by
  have h := World.ownsRow_lit (e := t) (base := base) (size := 2) w #[] 0 hb (by unfold maxLen; omega) rfl
  simpa using h
set_option maxHeartbeats 1000000 in
set_option maxRecDepth 100000 in
theorem iclone (x : Addr) (cap n : Nat) (l : List (Int × ByteArray)) (HN : Hid (l.length = n)) (hn : n ≤ 1048576) (w : World) (hr : RowV w (some x) (cE l)) :
    Calls Try.prog 48 #[.slice (some x) n cap] w fun e w' => ∃ v, e = .returned v ∧ w'.ownsRow w.heap.size 49 2 v n (cE l) ∧ Below w.heap.size w w' := by
  obtain ⟨i0, hi, hz0, hz1, hz2⟩ := info_parts Try.infE49
  have hnil : ∀ W, (binOp .eql 27 (.slice (some x) n cap) (.slice none 0 0)).run Try.prog W = .ok (.bool false) W := fun W => Go.Lib.run_eql_slice_nil W _ _ (some x) n cap 0 0 Try.underlying27
  have HR := hide hr
  have hown := lit_emptyE w 49 w.heap.size (Nat.le_refl _)
  have HB := hide (Go.Joins.below_alloc1 w (.cells #[] 49))
  clear hr
  go_enter Try.func48, Try.ntmps48
  go_wp2_with (at_builtin; refine append_ents _ rfl (.tmp 5) (.tmp 6) 27 rfl w.heap.size 49 i0 Try.underlying27 hi hz0 hz1 hz2 _ rfl hown (some x) cap n l (unhide HN) rfl ((unhide HR).below (unhide HB)) hn (by simp) ?_; intro v2 w2 ho2 hg2; have HO2 := hide ho2; have HB2 := hide ((unhide HB).grown hg2 (unhide HB).size (fun k hk => (hown.lt k hk).1)); clear ho2 hg2 hown)
  go_ret
  exact ⟨_, rfl, unhide HO2, unhide HB2⟩
end Go.Proofs.Ytpadpgjkpajfaaa

/- Numbers as bytes, the higher ones first: what both texts write and read. -/
namespace Go.Proofs.Ytpadpgjkpajfaaa
open Go.ChangeShapes Go.WideShapes Go.ChangeAt Go.RowKit

def nb (v j : Nat) : UInt8 := UInt8.ofNat (v / 256 ^ j % 256)
def be (v : Nat) : Nat → List UInt8
  | 0 => []
  | s + 1 => nb v s :: be v s
def ofBE (l : List UInt8) : Nat := l.foldl (fun n c => n * 256 + c.toNat) 0
end Go.Proofs.Ytpadpgjkpajfaaa

/- Bytes read as numbers: the plain mathematics. -/
namespace Go.Proofs.Ytpadpgjkpajfaaa
open Go.ChangeShapes Go.WideShapes Go.ChangeAt Go.RowKit
def chunk (l : List UInt8) (k : Nat) : List UInt8 := (l.drop (3 * k)).take 3
def numsR (l : List UInt8) (n : Nat) : List Int := (List.range n).map fun k => ((ofBE (chunk l k) : Nat) : Int) - 1
def rnL (l : List UInt8) : List Int := if 65536 < l.length then [] else if l.length % 3 = 0 then (if 4096 < l.length / 3 then [] else numsR l (l.length / 3)) else []
def rnC (l : List UInt8) : Int := if 65536 < l.length then 2 else if l.length % 3 = 0 then (if 4096 < l.length / 3 then 6 else 0) else 3
theorem lit_emptyI (w : World) (base : Nat) (t : TypeId) (hb : base ≤ w.heap.size) : (w.alloc (.cells #[] t)).ownsRow base t 1 (.slice (some ⟨w.heap.size, 0, none⟩) 0 0) ([] : List Int).length (cI []) :=
  World.ownsRow_lit w #[] 0 hb (by decide) rfl
end Go.Proofs.Ytpadpgjkpajfaaa

/- slices.Clone of any log, (State).copied: what the program answers. -/
namespace Go.Proofs.Ytpadpgjkpajfaaa
open Go.ChangeShapes Go.WideShapes Go.ChangeAt Go.RowKit
set_option linter.unusedVariables false
theorem own_low {w : World} {base b2 : Nat} {e : TypeId} {z : Nat} {v : Value} {n : Nat} {xs : List Value} (h : w.ownsRow base e z v n xs) (hb : b2 ≤ base) : w.ownsRow b2 e z v n xs := by
  obtain ⟨h1, h2 | ⟨g, cap, cur, hv, hbg, hr⟩⟩ := h
  · exact ⟨h1, .inl h2⟩
  · exact ⟨h1, .inr ⟨g, cap, cur, hv, Nat.le_trans hb hbg, hr⟩⟩
theorem nil_ownE (w : World) (base : Nat) (t : TypeId) : w.ownsRow base t 2 (.slice none 0 0) 0 [] := ⟨by simp, .inl ⟨rfl, rfl⟩⟩
set_option maxHeartbeats 1000000 in
set_option maxRecDepth 100000 in
theorem icloneN (cap : Nat) (w : World) :
    Calls Try.prog 48 #[.slice none 0 cap] w fun e w' => ∃ v, e = .returned v ∧ w'.ownsRow w.heap.size 49 2 v 0 (cE []) ∧ Below w.heap.size w w' := by
  have hnil : ∀ W, (binOp .eql 27 (.slice none 0 cap) (.slice none 0 0)).run Try.prog W = .ok (.bool true) W := fun W => Go.Lib.run_eql_slice_nil W _ _ none 0 cap 0 0 Try.underlying27
  go_enter Try.func48, Try.ntmps48
  go_wp2_with fail
  go_ret
  exact ⟨_, rfl, nil_ownE _ _ _, Below.refl _ _⟩
theorem icloneA (a : Option Addr) (cap n : Nat) (l : List (Int × ByteArray)) (HN : Hid (l.length = n)) (hn : n ≤ 1048576) (w : World) (hr : RowV w a (cE l)) :
    Calls Try.prog 48 #[.slice a n cap] w fun e w' => ∃ v, e = .returned v ∧ w'.ownsRow w.heap.size 49 2 v n (cE l) ∧ Below w.heap.size w w' := by
  have h := unhide HN
  rcases hr with h0 | ⟨b, off, rfl, hlt, hc⟩
  · have hl : l.length = 0 := by
      have := congrArg List.length h0; rw [cE_len] at this; simp only [List.length_nil] at this; omega
    obtain rfl : l = [] := List.length_eq_zero_iff.1 hl
    obtain rfl : n = 0 := by rw [← h]; rfl
    cases a with
    | none => exact icloneN cap w
    | some x => exact iclone x cap 0 [] HN hn w (.inl h0)
  · exact iclone ⟨b, off, none⟩ cap n l HN hn w (.inr ⟨b, off, rfl, hlt, hc⟩)
end Go.Proofs.Ytpadpgjkpajfaaa
