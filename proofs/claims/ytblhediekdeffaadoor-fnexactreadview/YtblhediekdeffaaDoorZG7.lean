/- Texts put together: FieldsM FsM IntS NumbersM VbM. -/
import Derived.Test.YtblhediekdeffaaDoorZG2
import Derived.Test.YtblhediekdeffaaDoorZG3
import Derived.Test.YtblhediekdeffaaDoorZRowV
import Derived.Test.YtblhediekdeffaaDoorZVoM
/- Fields as bytes: the plain mathematics. -/
namespace Go.Proofs.YtblhediekdeffaaDoor
open Go.ChangeShapes Go.WideShapes Go.ChangeAt Go.RowKit
def fieldB (s : ByteArray) : List UInt8 := be s.size 2 ++ s.data.toList
def fieldsL (l : List ByteArray) : List UInt8 := l.flatMap fieldB
def fsum (l : List ByteArray) : Nat := 1 + (fieldsL l).length
theorem fieldB_len (s : ByteArray) : (fieldB s).length = 2 + s.size := by unfold fieldB; rw [List.length_append, be_len, Array.length_toList]; rfl
theorem fieldsL_snoc (l : List ByteArray) (k : Nat) (h : k < l.length) : fieldsL (l.take (k + 1)) = fieldsL (l.take k) ++ fieldB l[k] := by
  unfold fieldsL; rw [List.take_succ_eq_append_getElem h, List.flatMap_append]; simp
theorem fsum_snoc (l : List ByteArray) (k : Nat) (h : k < l.length) : fsum (l.take (k + 1)) = fsum (l.take k) + (2 + l[k].size) := by
  unfold fsum; rw [fieldsL_snoc l k h, List.length_append, fieldB_len]; omega
theorem fsum_mono (l : List ByteArray) (k : Nat) : fsum (l.take k) ≤ fsum l := by
  have : fieldsL l = fieldsL (l.take k) ++ fieldsL (l.drop k) := by unfold fieldsL; rw [← List.flatMap_append, List.take_append_drop]
  unfold fsum; rw [this, List.length_append]; omega
def shortB (l : List ByteArray) : Bool := l.all fun s => decide (s.size ≤ 20000)
def allShort (l : List ByteArray) : Prop := ∀ k (h : k < l.length), l[k].size ≤ 20000
theorem shortB_iff (l : List ByteArray) : shortB l = true ↔ allShort l := by
  unfold shortB allShort
  rw [List.all_eq_true]
  constructor
  · intro h k hk; exact of_decide_eq_true (h _ (List.getElem_mem hk))
  · intro h x hx
    obtain ⟨k, hk, rfl⟩ := List.getElem_of_mem hx
    exact decide_eq_true (h k hk)
def ffC (l : List ByteArray) : Int := if 60 < l.length then 6 else if shortB l then (if 65536 < fsum l then 7 else 0) else 4
def fbC (l : List ByteArray) : Int := if 4096 < l.length then 2 else ffC l
def fbL (l : List ByteArray) : List UInt8 := if 60 < l.length then [] else if shortB l then (if 65536 < fsum l then [] else be l.length 1 ++ fieldsL l) else []
theorem fb_long {l : List ByteArray} (h : 4096 < l.length) : fbL l = [] ∧ fbC l = 2 := by unfold fbL fbC; rw [if_pos h, if_pos (by omega)]; exact ⟨rfl, rfl⟩
theorem ff_many {l : List ByteArray} (h : 60 < l.length) : ffC l = 6 := by unfold ffC; rw [if_pos h]
theorem ff_range {l : List ByteArray} (h : ¬ 60 < l.length) (h2 : ¬ allShort l) : ffC l = 4 := by
  have h3 : ¬ shortB l = true := fun e => h2 ((shortB_iff l).1 e); unfold ffC; rw [if_neg h, if_neg h3]
theorem ff_full {l : List ByteArray} (h : ¬ 60 < l.length) (h2 : allShort l) (h3 : 65536 < fsum l) : ffC l = 7 := by
  unfold ffC; rw [if_neg h, if_pos ((shortB_iff l).2 h2), if_pos h3]
theorem ff_ok {l : List ByteArray} (h : ¬ 60 < l.length) (h2 : allShort l) (h3 : ¬ 65536 < fsum l) : ffC l = 0 := by
  unfold ffC; rw [if_neg h, if_pos ((shortB_iff l).2 h2), if_neg h3]
theorem fb_many {l : List ByteArray} (h0 : ¬ 4096 < l.length) (h : 60 < l.length) : fbL l = [] ∧ fbC l = 6 := by
  refine ⟨?_, by unfold fbC; rw [if_neg h0, ff_many h]⟩; unfold fbL; rw [if_pos h]
theorem fb_range {l : List ByteArray} (h : ¬ 60 < l.length) (h2 : ¬ allShort l) : fbL l = [] ∧ fbC l = 4 := by
  refine ⟨?_, by unfold fbC; rw [if_neg (by omega), ff_range h h2]⟩
  have h3 : ¬ shortB l = true := fun e => h2 ((shortB_iff l).1 e); unfold fbL; rw [if_neg h, if_neg h3]
theorem fb_full {l : List ByteArray} (h : ¬ 60 < l.length) (h2 : allShort l) (h3 : 65536 < fsum l) : fbL l = [] ∧ fbC l = 7 := by
  refine ⟨?_, by unfold fbC; rw [if_neg (by omega), ff_full h h2 h3]⟩; unfold fbL; rw [if_neg h, if_pos ((shortB_iff l).2 h2), if_pos h3]
theorem fb_ok {l : List ByteArray} (h : ¬ 60 < l.length) (h2 : allShort l) (h3 : ¬ 65536 < fsum l) : fbL l = be l.length 1 ++ fieldsL l ∧ fbC l = 0 := by
  refine ⟨?_, by unfold fbC; rw [if_neg (by omega), ff_ok h h2 h3]⟩; unfold fbL; rw [if_neg h, if_pos ((shortB_iff l).2 h2), if_neg h3]
theorem nil_own8 (w : World) (base : Nat) (t : TypeId) : w.ownsRow base t 1 (.slice none 0 0) ([] : List UInt8).length (B8 []) := World.ownsRow_nil w base t 1
end Go.Proofs.YtblhediekdeffaaDoor

/- Fields that are few and short. -/
namespace Go.Proofs.YtblhediekdeffaaDoor
open Go.ChangeShapes Go.WideShapes Go.ChangeAt Go.RowKit
set_option linter.unusedVariables false
theorem fieldsL_le (l : List ByteArray) (c : Nat) (h : ∀ x ∈ l, x.size ≤ c) : (fieldsL l).length ≤ (2 + c) * l.length := by
  induction l with
  | nil => simp [fieldsL]
  | cons x l ih =>
    have h1 := ih (fun y hy => h y (List.mem_cons_of_mem _ hy))
    have h2 := h x (List.mem_cons_self ..)
    have e : fieldsL (x :: l) = fieldB x ++ fieldsL l := rfl
    rw [e, List.length_append, fieldB_len, List.length_cons, Nat.mul_add, Nat.mul_one]
    omega
theorem short_of {l : List ByteArray} {c : Nat} (h : ∀ x ∈ l, x.size ≤ c) (hc : c ≤ 20000) : allShort l := fun k hk => Nat.le_trans (h _ (List.getElem_mem hk)) hc
theorem fsum_of {l : List ByteArray} {c n : Nat} (h : ∀ x ∈ l, x.size ≤ c) (hn : l.length ≤ n) (hc : (2 + c) * n ≤ 65535) : ¬ 65536 < fsum l := by
  unfold fsum
  have h1 := fieldsL_le l c h
  have h2 : (2 + c) * l.length ≤ (2 + c) * n := Nat.mul_le_mul (Nat.le_refl _) hn
  omega
end Go.Proofs.YtblhediekdeffaaDoor

/- Rows of integers: the laws' own helpers. -/
namespace Go.Proofs.YtblhediekdeffaaDoor
open Go.ChangeShapes Go.WideShapes Go.ChangeAt Go.RowKit
def cI (l : List Int) : List Value := l.map fun c => .int .i64 (c)
theorem cI_len (l : List Int) : (cI l).length = l.length := by simp [cI]
theorem cI_at (l : List Int) (k : Nat) (h : k < l.length) : (cI l)[k]? = some (.int .i64 (l[k])) := by simp [cI, List.getElem?_eq_getElem h]
theorem cI_app (l m : List Int) : cI (l ++ m) = cI l ++ cI m := by simp [cI]
theorem cI_one (l : List Int) : ∀ u ∈ cI l, u.oneCell' = true := by
  intro u hu; simp [cI] at hu; obtain ⟨c, _, rfl⟩ := hu; rfl

end Go.Proofs.YtblhediekdeffaaDoor

/- Numbers as three bytes each: the plain mathematics. -/
namespace Go.Proofs.YtblhediekdeffaaDoor
open Go.ChangeShapes Go.WideShapes Go.ChangeAt Go.RowKit
def fitsN (x : Int) : Prop := -1 ≤ x ∧ x ≤ 16777214
def numsL (l : List Int) : List UInt8 := l.flatMap fun x => be (x + 1).toNat 3
theorem numsL_len (l : List Int) : (numsL l).length = 3 * l.length := by
  induction l with
  | nil => rfl
  | cons x l ih => unfold numsL at *; rw [List.flatMap_cons, List.length_append, be_len, ih, List.length_cons]; omega
theorem numsL_snoc (l : List Int) (k : Nat) (h : k < l.length) : numsL (l.take (k + 1)) = numsL (l.take k) ++ be (l[k] + 1).toNat 3 := by
  unfold numsL; rw [List.take_succ_eq_append_getElem h, List.flatMap_append]; simp
def fitB (l : List Int) : Bool := l.all fun x => decide (-1 ≤ x ∧ x ≤ 16777214)
def allFit (l : List Int) : Prop := ∀ k (h : k < l.length), fitsN l[k]
theorem fitB_iff (l : List Int) : fitB l = true ↔ allFit l := by
  unfold fitB allFit fitsN
  rw [List.all_eq_true]
  constructor
  · intro h k hk; exact of_decide_eq_true (h _ (List.getElem_mem hk))
  · intro h x hx
    obtain ⟨k, hk, rfl⟩ := List.getElem_of_mem hx
    exact decide_eq_true (h k hk)
def nbL (l : List Int) : List UInt8 := if 4096 < l.length then [] else if fitB l then numsL l else []
def nbC (l : List Int) : Int := if 4096 < l.length then 2 else if fitB l then 0 else 4
theorem nb_long {l : List Int} (h : 4096 < l.length) : nbL l = [] ∧ nbC l = 2 := by unfold nbL nbC; rw [if_pos h, if_pos h]; exact ⟨rfl, rfl⟩
theorem nb_ok {l : List Int} (h : ¬ 4096 < l.length) (h2 : allFit l) : nbL l = numsL l ∧ nbC l = 0 := by unfold nbL nbC; have h3 := (fitB_iff l).2 h2; rw [if_neg h, if_neg h, if_pos h3, if_pos h3]; exact ⟨rfl, rfl⟩
theorem nb_bad {l : List Int} (h : ¬ 4096 < l.length) (h2 : ¬ allFit l) : nbL l = [] ∧ nbC l = 4 := by unfold nbL nbC; have h3 : ¬ fitB l = true := fun e => h2 ((fitB_iff l).1 e); rw [if_neg h, if_neg h, if_neg h3, if_neg h3]; exact ⟨rfl, rfl⟩
theorem fit_nat (x : Int) (h : fitsN x) : ∃ n : Nat, x = (n : Int) - 1 ∧ n ≤ 16777215 ∧ n = (x + 1).toNat := ⟨(x + 1).toNat, by unfold fitsN at h; omega, by unfold fitsN at h; omega, rfl⟩
theorem nil_own (w : World) (base : Nat) (t : TypeId) : w.ownsRow base t 1 (.slice none 0 0) ([] : List UInt8).length (B8 []) := World.ownsRow_nil w base t 1
end Go.Proofs.YtblhediekdeffaaDoor

/- The bytes of a view. Plain mathematics. -/
namespace Go.Proofs.YtblhediekdeffaaDoor
open Go.ChangeShapes Go.WideShapes Go.ChangeAt Go.RowKit
set_option linter.unusedVariables false
def bitI (b : Bool) : Int := if b then 1 else 0
def rowX (c : Rw) : ByteArray := ⟨(be c.1.toNat 1).toArray⟩ ++ c.2
def vbF (nb fr : Int) (fu : Bool) (vw vh : Int) (l : List Rw) : List ByteArray := ⟨(numsL [nb, fr, bitI fu, vw, vh]).toArray⟩ :: l.map rowX
theorem vbF_len (nb fr : Int) (fu : Bool) (vw vh : Int) (l : List Rw) : (vbF nb fr fu vw vh l).length = l.length + 1 := by simp [vbF]
theorem vbF_snoc (nb fr : Int) (fu : Bool) (vw vh : Int) (l : List Rw) (k : Nat) (h : k < l.length) : vbF nb fr fu vw vh (l.take (k + 1)) = vbF nb fr fu vw vh (l.take k) ++ [rowX l[k]] := by
  unfold vbF; rw [List.take_add_one, List.getElem?_eq_getElem h, List.map_append]; rfl
end Go.Proofs.YtblhediekdeffaaDoor
