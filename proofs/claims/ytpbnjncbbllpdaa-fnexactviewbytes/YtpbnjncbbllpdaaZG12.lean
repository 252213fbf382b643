/- Texts put together: FsM IntS NumbersM VbM. -/
import Derived.Test.YtpbnjncbbllpdaaZFieldsM
import Derived.Test.YtpbnjncbbllpdaaZRowV
import Derived.Test.YtpbnjncbbllpdaaZNumM
import Derived.Test.YtpbnjncbbllpdaaZVoM
/- Fields that are few and short. -/
namespace Go.Proofs.Ytpbnjncbbllpdaa
open Go.ChangeShapes Go.WideShapes Go.ChangeAt Go.RowKit
set_option linter.unusedVariables false
theorem fieldsL_le (l : List ByteArray) (c : Nat) (h : ∀ x ∈ l, x.size ≤ c) : (fieldsL l).length ≤ (2 + c) * l.length := by
  induction l with
  | nil => simp [fieldsL]
  | cons x l ih =>
    have h1 := ih (fun y hy => h y (List.mem_cons_of_mem _ hy))
    have h2 := h x (List.mem_cons_self ..)
    have e : fieldsL (x :: l) = fieldB x ++ fieldsL l := rfl
    rw [e, List.length_append, fieldB_len, List.length_cons, Nat.mul_add, Nat.mul_one]
    omega
theorem short_of {l : List ByteArray} {c : Nat} (h : ∀ x ∈ l, x.size ≤ c) (hc : c ≤ 20000) : allShort l := fun k hk => Nat.le_trans (h _ (List.getElem_mem hk)) hc
theorem fsum_of {l : List ByteArray} {c n : Nat} (h : ∀ x ∈ l, x.size ≤ c) (hn : l.length ≤ n) (hc : (2 + c) * n ≤ 65535) : ¬ 65536 < fsum l := by
  unfold fsum
  have h1 := fieldsL_le l c h
  have h2 : (2 + c) * l.length ≤ (2 + c) * n := Nat.mul_le_mul (Nat.le_refl _) hn
  omega
end Go.Proofs.Ytpbnjncbbllpdaa

/- Rows of integers: the laws' own helpers. -/
namespace Go.Proofs.Ytpbnjncbbllpdaa
open Go.ChangeShapes Go.WideShapes Go.ChangeAt Go.RowKit
def cI (l : List Int) : List Value := l.map fun c => .int .i64 (c)
theorem cI_len (l : List Int) : (cI l).length = l.length := by simp [cI]
theorem cI_at (l : List Int) (k : Nat) (h : k < l.length) : (cI l)[k]? = some (.int .i64 (l[k])) := by simp [cI, List.getElem?_eq_getElem h]
end Go.Proofs.Ytpbnjncbbllpdaa

/- Numbers as three bytes each: the plain mathematics. -/
namespace Go.Proofs.Ytpbnjncbbllpdaa
open Go.ChangeShapes Go.WideShapes Go.ChangeAt Go.RowKit
def fitsN (x : Int) : Prop := -1 ≤ x ∧ x ≤ 16777214
def numsL (l : List Int) : List UInt8 := l.flatMap fun x => be (x + 1).toNat 3
theorem numsL_len (l : List Int) : (numsL l).length = 3 * l.length := by
  induction l with
  | nil => rfl
  | cons x l ih => unfold numsL at *; rw [List.flatMap_cons, List.length_append, be_len, ih, List.length_cons]; omega
theorem numsL_snoc (l : List Int) (k : Nat) (h : k < l.length) : numsL (l.take (k + 1)) = numsL (l.take k) ++ be (l[k] + 1).toNat 3 := by
  unfold numsL; rw [List.take_succ_eq_append_getElem h, List.flatMap_append]; simp
def fitB (l : List Int) : Bool := l.all fun x => decide (-1 ≤ x ∧ x ≤ 16777214)
def allFit (l : List Int) : Prop := ∀ k (h : k < l.length), fitsN l[k]
theorem fitB_iff (l : List Int) : fitB l = true ↔ allFit l := by
  unfold fitB allFit fitsN
  rw [List.all_eq_true]
  constructor
  · intro h k hk; exact of_decide_eq_true (h _ (List.getElem_mem hk))
  · intro h x hx
    obtain ⟨k, hk, rfl⟩ := List.getElem_of_mem hx
    exact decide_eq_true (h k hk)
def nbL (l : List Int) : List UInt8 := if 4096 < l.length then [] else if fitB l then numsL l else []
def nbC (l : List Int) : Int := if 4096 < l.length then 2 else if fitB l then 0 else 4
theorem nb_long {l : List Int} (h : 4096 < l.length) : nbL l = [] ∧ nbC l = 2 := by unfold nbL nbC; rw [if_pos h, if_pos h]; exact ⟨rfl, rfl⟩
theorem nb_ok {l : List Int} (h : ¬ 4096 < l.length) (h2 : allFit l) : nbL l = numsL l ∧ nbC l = 0 := by unfold nbL nbC; have h3 := (fitB_iff l).2 h2; rw [if_neg h, if_neg h, if_pos h3, if_pos h3]; exact ⟨rfl, rfl⟩
theorem nb_bad {l : List Int} (h : ¬ 4096 < l.length) (h2 : ¬ allFit l) : nbL l = [] ∧ nbC l = 4 := by unfold nbL nbC; have h3 : ¬ fitB l = true := fun e => h2 ((fitB_iff l).1 e); rw [if_neg h, if_neg h, if_neg h3, if_neg h3]; exact ⟨rfl, rfl⟩
theorem fit_nat (x : Int) (h : fitsN x) : ∃ n : Nat, x = (n : Int) - 1 ∧ n ≤ 16777215 ∧ n = (x + 1).toNat := ⟨(x + 1).toNat, by unfold fitsN at h; omega, by unfold fitsN at h; omega, rfl⟩
theorem nil_own (w : World) (base : Nat) (t : TypeId) : w.ownsRow base t 1 (.slice none 0 0) ([] : List UInt8).length (B8 []) := World.ownsRow_nil w base t 1
end Go.Proofs.Ytpbnjncbbllpdaa

/- The bytes of a view. Plain mathematics. -/
namespace Go.Proofs.Ytpbnjncbbllpdaa
open Go.ChangeShapes Go.WideShapes Go.ChangeAt Go.RowKit
set_option linter.unusedVariables false
def bitI (b : Bool) : Int := if b then 1 else 0
def rowX (c : Rw) : ByteArray := ⟨(be c.1.toNat 1).toArray⟩ ++ c.2
def vbF (nb fr : Int) (fu : Bool) (vw vh : Int) (l : List Rw) : List ByteArray := ⟨(numsL [nb, fr, bitI fu, vw, vh]).toArray⟩ :: l.map rowX
theorem vbF_len (nb fr : Int) (fu : Bool) (vw vh : Int) (l : List Rw) : (vbF nb fr fu vw vh l).length = l.length + 1 := by simp [vbF]
theorem vbF_snoc (nb fr : Int) (fu : Bool) (vw vh : Int) (l : List Rw) (k : Nat) (h : k < l.length) : vbF nb fr fu vw vh (l.take (k + 1)) = vbF nb fr fu vw vh (l.take k) ++ [rowX l[k]] := by
  unfold vbF; rw [List.take_add_one, List.getElem?_eq_getElem h, List.map_append]; rfl
end Go.Proofs.Ytpbnjncbbllpdaa
