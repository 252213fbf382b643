/- Texts put together: NumM IntS NumbersM StrS FieldsM FsM. -/
import Derived.Test.YtkdplhhkkpkmoaaDoorZRowV
import Derived.Laws.BitsAllLaws
import Derived.Laws.BitsLemmas
/- Numbers as bytes, the higher ones first: what both texts write and read. -/
namespace Go.Proofs.YtkdplhhkkpkmoaaDoor
open Go.ChangeShapes Go.WideShapes Go.ChangeAt Go.RowKit

def nb (v j : Nat) : UInt8 := UInt8.ofNat (v / 256 ^ j % 256)
def be (v : Nat) : Nat → List UInt8
 | 0 => []
 | s + 1 => nb v s :: be v s
theorem be_len (v s : Nat) : (be v s).length = s := by induction s with | zero => rfl | succ s ih => simp [be, ih]
theorem nb_val (n k : Nat) : (n : Int) / 2 ^ (8 * k) % 256 = ((nb n k).toNat : Int) := by
 have e : (2 : Int) ^ (8 * k) = ((256 ^ k : Nat) : Int) := by rw [Int.pow_mul]; simp
 rw [e]
 unfold nb
 rw [UInt8.toNat_ofNat', ← Int.natCast_ediv]
 omega
def ofBE (l : List UInt8) : Nat := l.foldl (fun n c => n * 256 + c.toNat) 0
theorem ofBE_app (l : List UInt8) (c : UInt8) : ofBE (l ++ [c]) = ofBE l * 256 + c.toNat := by unfold ofBE; rw [List.foldl_append]; rfl
theorem ofBE_snoc (l : List UInt8) (k : Nat) (h : k < l.length) : ofBE (l.take (k + 1)) = ofBE (l.take k) * 256 + l[k].toNat := by
 rw [List.take_succ_eq_append_getElem h, ofBE_app]
theorem ofBE_lt (l : List UInt8) (k : Nat) : ofBE (l.take k) < 256 ^ k := by
 induction k with
 | zero => simp [ofBE]
 | succ k ih =>
  by_cases h : k < l.length
  ·rw [ofBE_snoc l k h, Nat.pow_succ]; have := l[k].toNat_lt; omega
  ·rw [List.take_of_length_le (by omega)]; rw [List.take_of_length_le (by omega)] at ih; rw [Nat.pow_succ]; omega
theorem or_byte (n : Nat) (c : Nat) (hn : n < 4294967296) (hc : c < 256) : bits .or .i64 ((n : Int) * 256) (c : Int) = ((n * 256 + c : Nat) : Int) := by
 have h : n <<< 8 + c = n <<< 8 ||| c := Nat.shiftLeft_add_eq_or_of_lt (by omega) n
 rw [Nat.shiftLeft_eq, show (2 : Nat) ^ 8 = 256 from rfl] at h
 show IntKind.i64.wrap ((BitVec.ofInt 64 ((n : Int) * 256) ||| BitVec.ofInt 64 (c : Int)).toNat : Int) = _
 rw [show (n : Int) * 256 = ((n * 256 : Nat) : Int) from by omega, BitVec.toNat_or, ofInt_u64 (n * 256) (by omega), ofInt_u64 c (by omega), ← h, IntKind.wrap_i64]
 omega
theorem lit_empty (w : World) (base : Nat) (t : TypeId) (hb : base ≤ w.heap.size) : (w.alloc (.cells #[] t)).ownsRow base t 1 (.slice (some ⟨w.heap.size, 0, none⟩) 0 0) ([] : List UInt8).length (B8 []) :=
 World.ownsRow_lit w #[] 0 hb (by decide) rfl

end Go.Proofs.YtkdplhhkkpkmoaaDoor

/- Rows of integers: the laws' own helpers. -/
namespace Go.Proofs.YtkdplhhkkpkmoaaDoor
open Go.ChangeShapes Go.WideShapes Go.ChangeAt Go.RowKit
def cI (l : List Int) : List Value := l.map fun c => .int .i64 (c)
theorem cI_len (l : List Int) : (cI l).length = l.length := by simp [cI]
theorem cI_at (l : List Int) (k : Nat) (h : k < l.length) : (cI l)[k]? = some (.int .i64 (l[k])) := by simp [cI, List.getElem?_eq_getElem h]
theorem cI_app (l m : List Int) : cI (l ++ m) = cI l ++ cI m := by simp [cI]
theorem cI_one (l : List Int) : ∀ u ∈ cI l, u.oneCell' = true := by
 intro u hu; simp [cI] at hu; obtain ⟨c, _, rfl⟩ := hu; rfl

end Go.Proofs.YtkdplhhkkpkmoaaDoor

/- Numbers as three bytes each: the plain mathematics. -/
namespace Go.Proofs.YtkdplhhkkpkmoaaDoor
open Go.ChangeShapes Go.WideShapes Go.ChangeAt Go.RowKit
def fitsN (x : Int) : Prop := -1 ≤ x ∧ x ≤ 16777214
def numsL (l : List Int) : List UInt8 := l.flatMap fun x => be (x + 1).toNat 3
theorem numsL_len (l : List Int) : (numsL l).length = 3 * l.length := by
 induction l with
 | nil => rfl
 | cons x l ih => unfold numsL at *; rw [List.flatMap_cons, List.length_append, be_len, ih, List.length_cons]; omega
theorem numsL_snoc (l : List Int) (k : Nat) (h : k < l.length) : numsL (l.take (k + 1)) = numsL (l.take k) ++ be (l[k] + 1).toNat 3 := by
 unfold numsL; rw [List.take_succ_eq_append_getElem h, List.flatMap_append]; simp
def fitB (l : List Int) : Bool := l.all fun x => decide (-1 ≤ x ∧ x ≤ 16777214)
def allFit (l : List Int) : Prop := ∀ k (h : k < l.length), fitsN l[k]
theorem fitB_iff (l : List Int) : fitB l = true ↔ allFit l := by
 unfold fitB allFit fitsN
 rw [List.all_eq_true]
 constructor
 ·intro h k hk; exact of_decide_eq_true (h _ (List.getElem_mem hk))
 ·intro h x hx
  obtain ⟨k, hk, rfl⟩ := List.getElem_of_mem hx
  exact decide_eq_true (h k hk)
def nbL (l : List Int) : List UInt8 := if 4096 < l.length then [] else if fitB l then numsL l else []
def nbC (l : List Int) : Int := if 4096 < l.length then 2 else if fitB l then 0 else 4
theorem nb_long {l : List Int} (h : 4096 < l.length) : nbL l = [] ∧ nbC l = 2 := by unfold nbL nbC; rw [if_pos h, if_pos h]; exact ⟨rfl, rfl⟩
theorem nb_ok {l : List Int} (h : ¬ 4096 < l.length) (h2 : allFit l) : nbL l = numsL l ∧ nbC l = 0 := by unfold nbL nbC; have h3 := (fitB_iff l).2 h2; rw [if_neg h, if_neg h, if_pos h3, if_pos h3]; exact ⟨rfl, rfl⟩
theorem nb_bad {l : List Int} (h : ¬ 4096 < l.length) (h2 : ¬ allFit l) : nbL l = [] ∧ nbC l = 4 := by unfold nbL nbC; have h3 : ¬ fitB l = true := fun e => h2 ((fitB_iff l).1 e); rw [if_neg h, if_neg h, if_neg h3, if_neg h3]; exact ⟨rfl, rfl⟩
theorem fit_nat (x : Int) (h : fitsN x) : ∃ n : Nat, x = (n : Int) - 1 ∧ n ≤ 16777215 ∧ n = (x + 1).toNat := ⟨(x + 1).toNat, by unfold fitsN at h; omega, by unfold fitsN at h; omega, rfl⟩
theorem nil_own (w : World) (base : Nat) (t : TypeId) : w.ownsRow base t 1 (.slice none 0 0) ([] : List UInt8).length (B8 []) := World.ownsRow_nil w base t 1
end Go.Proofs.YtkdplhhkkpkmoaaDoor

/- Rows of texts: the laws' own helpers. -/
namespace Go.Proofs.YtkdplhhkkpkmoaaDoor
open Go.ChangeShapes Go.WideShapes Go.ChangeAt Go.RowKit
theorem Tryd.infL9 : (Tryd.prog.info? 9).map (fun i => (i.zero, i.size, i.bytes)) = some (some (.string ⟨#[]⟩), 1, 16) := by kernel_rfl
def cS (l : List ByteArray) : List Value := l.map fun c => .string (c)
theorem cS_len (l : List ByteArray) : (cS l).length = l.length := by simp [cS]
theorem cS_at (l : List ByteArray) (k : Nat) (h : k < l.length) : (cS l)[k]? = some (.string (l[k])) := by simp [cS, List.getElem?_eq_getElem h]
theorem cS_app (l m : List ByteArray) : cS (l ++ m) = cS l ++ cS m := by simp [cS]
theorem cS_one (l : List ByteArray) : ∀ u ∈ cS l, u.oneCell' = true := by
 intro u hu; simp [cS] at hu; obtain ⟨c, _, rfl⟩ := hu; rfl

/-- The text of a mark. -/
def mtD : Nat → Nat → List UInt8 → List UInt8
 | 0, _, acc => acc
 | f + 1, k, acc => if k = 0 then acc else mtD f (k / 10) (UInt8.ofNat (48 + k % 10) :: acc)
def mtS (k : Nat) : ByteArray := ⟨(109 :: mtD k k []).toArray⟩
end Go.Proofs.YtkdplhhkkpkmoaaDoor

/- Fields as bytes: the plain mathematics. -/
namespace Go.Proofs.YtkdplhhkkpkmoaaDoor
open Go.ChangeShapes Go.WideShapes Go.ChangeAt Go.RowKit
def fieldB (s : ByteArray) : List UInt8 := be s.size 2 ++ s.data.toList
def fieldsL (l : List ByteArray) : List UInt8 := l.flatMap fieldB
def fsum (l : List ByteArray) : Nat := 1 + (fieldsL l).length
theorem fieldB_len (s : ByteArray) : (fieldB s).length = 2 + s.size := by unfold fieldB; rw [List.length_append, be_len, Array.length_toList]; rfl
theorem fieldsL_snoc (l : List ByteArray) (k : Nat) (h : k < l.length) : fieldsL (l.take (k + 1)) = fieldsL (l.take k) ++ fieldB l[k] := by
 unfold fieldsL; rw [List.take_succ_eq_append_getElem h, List.flatMap_append]; simp
theorem fsum_snoc (l : List ByteArray) (k : Nat) (h : k < l.length) : fsum (l.take (k + 1)) = fsum (l.take k) + (2 + l[k].size) := by
 unfold fsum; rw [fieldsL_snoc l k h, List.length_append, fieldB_len]; omega
theorem fsum_mono (l : List ByteArray) (k : Nat) : fsum (l.take k) ≤ fsum l := by
 have : fieldsL l = fieldsL (l.take k) ++ fieldsL (l.drop k) := by unfold fieldsL; rw [← List.flatMap_append, List.take_append_drop]
 unfold fsum; rw [this, List.length_append]; omega
def shortB (l : List ByteArray) : Bool := l.all fun s => decide (s.size ≤ 20000)
def allShort (l : List ByteArray) : Prop := ∀ k (h : k < l.length), l[k].size ≤ 20000
theorem shortB_iff (l : List ByteArray) : shortB l = true ↔ allShort l := by
 unfold shortB allShort
 rw [List.all_eq_true]
 constructor
 ·intro h k hk; exact of_decide_eq_true (h _ (List.getElem_mem hk))
 ·intro h x hx
  obtain ⟨k, hk, rfl⟩ := List.getElem_of_mem hx
  exact decide_eq_true (h k hk)
def ffC (l : List ByteArray) : Int := if 60 < l.length then 6 else if shortB l then (if 65536 < fsum l then 7 else 0) else 4
def fbC (l : List ByteArray) : Int := if 4096 < l.length then 2 else ffC l
def fbL (l : List ByteArray) : List UInt8 := if 60 < l.length then [] else if shortB l then (if 65536 < fsum l then [] else be l.length 1 ++ fieldsL l) else []
theorem fb_long {l : List ByteArray} (h : 4096 < l.length) : fbL l = [] ∧ fbC l = 2 := by unfold fbL fbC; rw [if_pos h, if_pos (by omega)]; exact ⟨rfl, rfl⟩
theorem ff_many {l : List ByteArray} (h : 60 < l.length) : ffC l = 6 := by unfold ffC; rw [if_pos h]
theorem ff_range {l : List ByteArray} (h : ¬ 60 < l.length) (h2 : ¬ allShort l) : ffC l = 4 := by
 have h3 : ¬ shortB l = true := fun e => h2 ((shortB_iff l).1 e); unfold ffC; rw [if_neg h, if_neg h3]
theorem ff_full {l : List ByteArray} (h : ¬ 60 < l.length) (h2 : allShort l) (h3 : 65536 < fsum l) : ffC l = 7 := by
 unfold ffC; rw [if_neg h, if_pos ((shortB_iff l).2 h2), if_pos h3]
theorem ff_ok {l : List ByteArray} (h : ¬ 60 < l.length) (h2 : allShort l) (h3 : ¬ 65536 < fsum l) : ffC l = 0 := by
 unfold ffC; rw [if_neg h, if_pos ((shortB_iff l).2 h2), if_neg h3]
theorem fb_many {l : List ByteArray} (h0 : ¬ 4096 < l.length) (h : 60 < l.length) : fbL l = [] ∧ fbC l = 6 := by
 refine ⟨?_, by unfold fbC; rw [if_neg h0, ff_many h]⟩; unfold fbL; rw [if_pos h]
theorem fb_range {l : List ByteArray} (h : ¬ 60 < l.length) (h2 : ¬ allShort l) : fbL l = [] ∧ fbC l = 4 := by
 refine ⟨?_, by unfold fbC; rw [if_neg (by omega), ff_range h h2]⟩
 have h3 : ¬ shortB l = true := fun e => h2 ((shortB_iff l).1 e); unfold fbL; rw [if_neg h, if_neg h3]
theorem fb_full {l : List ByteArray} (h : ¬ 60 < l.length) (h2 : allShort l) (h3 : 65536 < fsum l) : fbL l = [] ∧ fbC l = 7 := by
 refine ⟨?_, by unfold fbC; rw [if_neg (by omega), ff_full h h2 h3]⟩; unfold fbL; rw [if_neg h, if_pos ((shortB_iff l).2 h2), if_pos h3]
theorem fb_ok {l : List ByteArray} (h : ¬ 60 < l.length) (h2 : allShort l) (h3 : ¬ 65536 < fsum l) : fbL l = be l.length 1 ++ fieldsL l ∧ fbC l = 0 := by
 refine ⟨?_, by unfold fbC; rw [if_neg (by omega), ff_ok h h2 h3]⟩; unfold fbL; rw [if_neg h, if_pos ((shortB_iff l).2 h2), if_neg h3]
theorem nil_own8 (w : World) (base : Nat) (t : TypeId) : w.ownsRow base t 1 (.slice none 0 0) ([] : List UInt8).length (B8 []) := World.ownsRow_nil w base t 1
end Go.Proofs.YtkdplhhkkpkmoaaDoor

/- Fields that are few and short. -/
namespace Go.Proofs.YtkdplhhkkpkmoaaDoor
open Go.ChangeShapes Go.WideShapes Go.ChangeAt Go.RowKit
set_option linter.unusedVariables false
theorem fieldsL_le (l : List ByteArray) (c : Nat) (h : ∀ x ∈ l, x.size ≤ c) : (fieldsL l).length ≤ (2 + c) * l.length := by
 induction l with
 | nil => simp [fieldsL]
 | cons x l ih =>
  have h1 := ih (fun y hy => h y (List.mem_cons_of_mem _ hy))
  have h2 := h x (List.mem_cons_self ..)
  have e : fieldsL (x :: l) = fieldB x ++ fieldsL l := rfl
  rw [e, List.length_append, fieldB_len, List.length_cons, Nat.mul_add, Nat.mul_one]
  omega
theorem short_of {l : List ByteArray} {c : Nat} (h : ∀ x ∈ l, x.size ≤ c) (hc : c ≤ 20000) : allShort l := fun k hk => Nat.le_trans (h _ (List.getElem_mem hk)) hc
theorem fsum_of {l : List ByteArray} {c n : Nat} (h : ∀ x ∈ l, x.size ≤ c) (hn : l.length ≤ n) (hc : (2 + c) * n ≤ 65535) : ¬ 65536 < fsum l := by
 unfold fsum
 have h1 := fieldsL_le l c h
 have h2 : (2 + c) * l.length ≤ (2 + c) * n := Nat.mul_le_mul (Nat.le_refl _) hn
 omega
end Go.Proofs.YtkdplhhkkpkmoaaDoor
