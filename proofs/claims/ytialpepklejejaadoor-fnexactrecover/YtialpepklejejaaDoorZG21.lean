/- Texts put together: MinM StoM ApI FieldsM NumbersM BeM. -/
import Derived.Test.YtialpepklejejaaDoorZG0
import Derived.Test.YtialpepklejejaaDoorZG20
import Derived.Test.YtialpepklejejaaDoorZG15
import Derived.Test.YtialpepklejejaaDoorZG3
import Derived.Test.YtialpepklejejaaDoorZG7
/- The lesser and the greater of two numbers. -/
namespace Go.Proofs.YtialpepklejejaaDoor
open Go.ChangeShapes Go.WideShapes Go.ChangeAt Go.RowKit
/-- The lesser of two numbers. -/
def mn (x y : Int) : Int := if y < x then y else x
theorem run_mn {P : Program} {w : World} (ts : Array TypeId) (t : TypeId) (k k' : IntKind) (x y : Int) : (Builtin.min_ ts t #[.int k x, .int k' y]).run P w = .ok (.int k (mn x y)) w := by
  simp [Builtin.min_, Builtin.min2, mn]
/-- The greater of two numbers. -/
def mx (x y : Int) : Int := if x < y then y else x
theorem run_mx {P : Program} {w : World} (ts : Array TypeId) (t : TypeId) (k k' : IntKind) (x y : Int) : (Builtin.max_ ts t #[.int k x, .int k' y]).run P w = .ok (.int k (mx x y)) w := by
  simp [Builtin.max_, Builtin.max2, mx]
end Go.Proofs.YtialpepklejejaaDoor

/- Stores: which are right, what a crash leaves. Plain mathematics. -/
namespace Go.Proofs.YtialpepklejejaaDoor
open Go.ChangeShapes Go.WideShapes Go.ChangeAt Go.RowKit
def stoB (d : ByteArray) (s : Int) : Bool := decide (d.size ≤ 60000) && inB s 0 (d.size : Int)
/-- How many bytes a crash leaves. -/
def keptN (a : Nat) (s k : Int) : Nat := (s + mn (mx k 0) ((a : Int) - s)).toNat
theorem kept_spec {a : Nat} {s : Int} (k : Int) (h0 : 0 ≤ s) (h1 : s ≤ (a : Int)) : ∃ M N : Int, mx k 0 = M ∧ mx 0 k = M ∧ mn M ((a : Int) - s) = N ∧ 0 ≤ N ∧ N ≤ (a : Int) - s ∧ s + N = (keptN a s k : Int) ∧ keptN a s k ≤ a := by
  refine ⟨mx k 0, mn (mx k 0) ((a : Int) - s), rfl, ?_, rfl, ?_, ?_, ?_, ?_⟩
  · unfold mx; split <;> split <;> omega
  · unfold mn mx; split <;> split <;> omega
  · unfold mn mx; split <;> split <;> omega
  · unfold keptN mn mx; split <;> split <;> omega
  · unfold keptN mn mx; split <;> split <;> omega
theorem sto_parts {d : ByteArray} {s : Int} (h : stoB d s = true) : d.size ≤ 60000 ∧ 0 ≤ s ∧ s ≤ (d.size : Int) := by
  unfold stoB inB at h; simp at h; omega
def SyncIs (d : ByteArray) (s : Int) (d2 : ByteArray) (s2 c : Int) : Prop := (stoB d s = true ∧ d2 = d ∧ s2 = (d.size : Int) ∧ c = 0) ∨ (stoB d s = false ∧ d2 = ⟨#[]⟩ ∧ s2 = 0 ∧ c = 1)
theorem sync_ex (d : ByteArray) (s : Int) : ∃ d2 s2 c, SyncIs d s d2 s2 c := by
  cases h : stoB d s with
  | true => exact ⟨_, _, _, .inl ⟨h, rfl, rfl, rfl⟩⟩
  | false => exact ⟨_, _, _, .inr ⟨h, rfl, rfl, rfl⟩⟩
def CrashIs (d : ByteArray) (s k : Int) (d2 : ByteArray) (s2 c : Int) : Prop := (stoB d s = true ∧ d2 = d.extract 0 (keptN d.size s k) ∧ s2 = (keptN d.size s k : Int) ∧ c = 0) ∨ (stoB d s = false ∧ d2 = ⟨#[]⟩ ∧ s2 = 0 ∧ c = 1)
theorem crash_ex (d : ByteArray) (s k : Int) : ∃ d2 s2 c, CrashIs d s k d2 s2 c := by
  cases h : stoB d s with
  | true => exact ⟨_, _, _, .inl ⟨h, rfl, rfl, rfl⟩⟩
  | false => exact ⟨_, _, _, .inr ⟨h, rfl, rfl, rfl⟩⟩
end Go.Proofs.YtialpepklejejaaDoor

/- ApplyRecord: what the program answers. -/
namespace Go.Proofs.YtialpepklejejaaDoor
open Go.ChangeShapes Go.WideShapes Go.ChangeAt Go.RowKit
set_option linter.unusedVariables false
/-- What ApplyRecord answers. -/
def ApIs (tm vt : Int) (l : List Ent) (t : ByteArray) (tm' vt' : Int) (l' : List Ent) (c : Int) : Prop :=
  if 65536 < t.size then (tm', vt', l', c) = (0, 0, [], 2)
  else if stateB tm vt l = false then (tm', vt', l', c) = (0, 0, [], 1)
  else match apF tm vt l t with
    | none => (tm', vt', l', c) = (tm, vt, l, 3)
    | some (tm2, vt2, l2) => (tm', vt', l', c) = (tm2, vt2, l2, 0)
end Go.Proofs.YtialpepklejejaaDoor

/- Fields as bytes: the plain mathematics. -/
namespace Go.Proofs.YtialpepklejejaaDoor
open Go.ChangeShapes Go.WideShapes Go.ChangeAt Go.RowKit
def fieldB (s : ByteArray) : List UInt8 := be s.size 2 ++ s.data.toList
def fieldsL (l : List ByteArray) : List UInt8 := l.flatMap fieldB
def fsum (l : List ByteArray) : Nat := 1 + (fieldsL l).length
theorem fieldB_len (s : ByteArray) : (fieldB s).length = 2 + s.size := by unfold fieldB; rw [List.length_append, be_len, Array.length_toList]; rfl
theorem fieldsL_snoc (l : List ByteArray) (k : Nat) (h : k < l.length) : fieldsL (l.take (k + 1)) = fieldsL (l.take k) ++ fieldB l[k] := by
  unfold fieldsL; rw [List.take_succ_eq_append_getElem h, List.flatMap_append]; simp
theorem fsum_snoc (l : List ByteArray) (k : Nat) (h : k < l.length) : fsum (l.take (k + 1)) = fsum (l.take k) + (2 + l[k].size) := by
  unfold fsum; rw [fieldsL_snoc l k h, List.length_append, fieldB_len]; omega
theorem fsum_mono (l : List ByteArray) (k : Nat) : fsum (l.take k) ≤ fsum l := by
  have : fieldsL l = fieldsL (l.take k) ++ fieldsL (l.drop k) := by unfold fieldsL; rw [← List.flatMap_append, List.take_append_drop]
  unfold fsum; rw [this, List.length_append]; omega
def shortB (l : List ByteArray) : Bool := l.all fun s => decide (s.size ≤ 20000)
def allShort (l : List ByteArray) : Prop := ∀ k (h : k < l.length), l[k].size ≤ 20000
theorem shortB_iff (l : List ByteArray) : shortB l = true ↔ allShort l := by
  unfold shortB allShort
  rw [List.all_eq_true]
  constructor
  · intro h k hk; exact of_decide_eq_true (h _ (List.getElem_mem hk))
  · intro h x hx
    obtain ⟨k, hk, rfl⟩ := List.getElem_of_mem hx
    exact decide_eq_true (h k hk)
def ffC (l : List ByteArray) : Int := if 60 < l.length then 6 else if shortB l then (if 65536 < fsum l then 7 else 0) else 4
def fbC (l : List ByteArray) : Int := if 4096 < l.length then 2 else ffC l
def fbL (l : List ByteArray) : List UInt8 := if 60 < l.length then [] else if shortB l then (if 65536 < fsum l then [] else be l.length 1 ++ fieldsL l) else []
theorem fb_long {l : List ByteArray} (h : 4096 < l.length) : fbL l = [] ∧ fbC l = 2 := by unfold fbL fbC; rw [if_pos h, if_pos (by omega)]; exact ⟨rfl, rfl⟩
theorem ff_many {l : List ByteArray} (h : 60 < l.length) : ffC l = 6 := by unfold ffC; rw [if_pos h]
theorem ff_range {l : List ByteArray} (h : ¬ 60 < l.length) (h2 : ¬ allShort l) : ffC l = 4 := by
  have h3 : ¬ shortB l = true := fun e => h2 ((shortB_iff l).1 e); unfold ffC; rw [if_neg h, if_neg h3]
theorem ff_full {l : List ByteArray} (h : ¬ 60 < l.length) (h2 : allShort l) (h3 : 65536 < fsum l) : ffC l = 7 := by
  unfold ffC; rw [if_neg h, if_pos ((shortB_iff l).2 h2), if_pos h3]
theorem ff_ok {l : List ByteArray} (h : ¬ 60 < l.length) (h2 : allShort l) (h3 : ¬ 65536 < fsum l) : ffC l = 0 := by
  unfold ffC; rw [if_neg h, if_pos ((shortB_iff l).2 h2), if_neg h3]
theorem fb_many {l : List ByteArray} (h0 : ¬ 4096 < l.length) (h : 60 < l.length) : fbL l = [] ∧ fbC l = 6 := by
  refine ⟨?_, by unfold fbC; rw [if_neg h0, ff_many h]⟩; unfold fbL; rw [if_pos h]
theorem fb_range {l : List ByteArray} (h : ¬ 60 < l.length) (h2 : ¬ allShort l) : fbL l = [] ∧ fbC l = 4 := by
  refine ⟨?_, by unfold fbC; rw [if_neg (by omega), ff_range h h2]⟩
  have h3 : ¬ shortB l = true := fun e => h2 ((shortB_iff l).1 e); unfold fbL; rw [if_neg h, if_neg h3]
theorem fb_full {l : List ByteArray} (h : ¬ 60 < l.length) (h2 : allShort l) (h3 : 65536 < fsum l) : fbL l = [] ∧ fbC l = 7 := by
  refine ⟨?_, by unfold fbC; rw [if_neg (by omega), ff_full h h2 h3]⟩; unfold fbL; rw [if_neg h, if_pos ((shortB_iff l).2 h2), if_pos h3]
theorem fb_ok {l : List ByteArray} (h : ¬ 60 < l.length) (h2 : allShort l) (h3 : ¬ 65536 < fsum l) : fbL l = be l.length 1 ++ fieldsL l ∧ fbC l = 0 := by
  refine ⟨?_, by unfold fbC; rw [if_neg (by omega), ff_ok h h2 h3]⟩; unfold fbL; rw [if_neg h, if_pos ((shortB_iff l).2 h2), if_neg h3]
theorem fbL_le (l : List ByteArray) : (fbL l).length ≤ 65536 := by
  unfold fbL; split
  · simp
  · split
    · split
      · simp
      · rename_i h; rw [List.length_append, be_len]; unfold fsum at h; omega
    · simp
theorem nil_own8 (w : World) (base : Nat) (t : TypeId) : w.ownsRow base t 1 (.slice none 0 0) ([] : List UInt8).length (B8 []) := World.ownsRow_nil w base t 1
end Go.Proofs.YtialpepklejejaaDoor

/- Numbers as three bytes each: the plain mathematics. -/
namespace Go.Proofs.YtialpepklejejaaDoor
open Go.ChangeShapes Go.WideShapes Go.ChangeAt Go.RowKit
def fitsN (x : Int) : Prop := -1 ≤ x ∧ x ≤ 16777214
def numsL (l : List Int) : List UInt8 := l.flatMap fun x => be (x + 1).toNat 3
theorem numsL_len (l : List Int) : (numsL l).length = 3 * l.length := by
  induction l with
  | nil => rfl
  | cons x l ih => unfold numsL at *; rw [List.flatMap_cons, List.length_append, be_len, ih, List.length_cons]; omega
theorem numsL_snoc (l : List Int) (k : Nat) (h : k < l.length) : numsL (l.take (k + 1)) = numsL (l.take k) ++ be (l[k] + 1).toNat 3 := by
  unfold numsL; rw [List.take_succ_eq_append_getElem h, List.flatMap_append]; simp
def fitB (l : List Int) : Bool := l.all fun x => decide (-1 ≤ x ∧ x ≤ 16777214)
def allFit (l : List Int) : Prop := ∀ k (h : k < l.length), fitsN l[k]
theorem fitB_iff (l : List Int) : fitB l = true ↔ allFit l := by
  unfold fitB allFit fitsN
  rw [List.all_eq_true]
  constructor
  · intro h k hk; exact of_decide_eq_true (h _ (List.getElem_mem hk))
  · intro h x hx
    obtain ⟨k, hk, rfl⟩ := List.getElem_of_mem hx
    exact decide_eq_true (h k hk)
def nbL (l : List Int) : List UInt8 := if 4096 < l.length then [] else if fitB l then numsL l else []
def nbC (l : List Int) : Int := if 4096 < l.length then 2 else if fitB l then 0 else 4
theorem nb_long {l : List Int} (h : 4096 < l.length) : nbL l = [] ∧ nbC l = 2 := by unfold nbL nbC; rw [if_pos h, if_pos h]; exact ⟨rfl, rfl⟩
theorem nb_ok {l : List Int} (h : ¬ 4096 < l.length) (h2 : allFit l) : nbL l = numsL l ∧ nbC l = 0 := by unfold nbL nbC; have h3 := (fitB_iff l).2 h2; rw [if_neg h, if_neg h, if_pos h3, if_pos h3]; exact ⟨rfl, rfl⟩
theorem nb_bad {l : List Int} (h : ¬ 4096 < l.length) (h2 : ¬ allFit l) : nbL l = [] ∧ nbC l = 4 := by unfold nbL nbC; have h3 : ¬ fitB l = true := fun e => h2 ((fitB_iff l).1 e); rw [if_neg h, if_neg h, if_neg h3, if_neg h3]; exact ⟨rfl, rfl⟩
theorem nbL_le (l : List Int) : (nbL l).length ≤ 12288 := by
  unfold nbL; split
  · simp
  · split
    · rw [numsL_len]; omega
    · simp
theorem fit_nat (x : Int) (h : fitsN x) : ∃ n : Nat, x = (n : Int) - 1 ∧ n ≤ 16777215 ∧ n = (x + 1).toNat := ⟨(x + 1).toNat, by unfold fitsN at h; omega, by unfold fitsN at h; omega, rfl⟩
theorem nil_own (w : World) (base : Nat) (t : TypeId) : w.ownsRow base t 1 (.slice none 0 0) ([] : List UInt8).length (B8 []) := World.ownsRow_nil w base t 1
end Go.Proofs.YtialpepklejejaaDoor

/- Numbers as bytes and back. Plain mathematics. -/
namespace Go.Proofs.YtialpepklejejaaDoor
theorem ofBE_from (l : List UInt8) : ∀ n : Nat, l.foldl (fun n c => n * 256 + c.toNat) n = n * 256 ^ l.length + ofBE l := by
  induction l with
  | nil => intro n; simp [ofBE]
  | cons c l ih =>
    intro n
    unfold ofBE
    rw [List.foldl_cons, List.foldl_cons, ih, ih (0 * 256 + c.toNat), List.length_cons, Nat.pow_succ, Nat.add_mul, Nat.zero_mul, Nat.zero_add, Nat.mul_assoc, Nat.mul_comm 256, Nat.add_assoc]
theorem ofBE_cons (c : UInt8) (l : List UInt8) : ofBE (c :: l) = c.toNat * 256 ^ l.length + ofBE l := by
  show List.foldl (fun n c => n * 256 + c.toNat) (0 * 256 + c.toNat) l = _
  rw [ofBE_from, Nat.zero_mul, Nat.zero_add]
theorem ofBE_be (v : Nat) : ∀ s, ofBE (be v s) = v % 256 ^ s
  | 0 => by simp [be, ofBE, Nat.mod_one]
  | s + 1 => by
    rw [be, ofBE_cons, be_len, ofBE_be v s, Nat.mod_pow_succ]
    unfold nb
    rw [UInt8.toNat_ofNat', Nat.mod_mod, Nat.mul_comm, Nat.add_comm]
theorem ofBE_lt2 (l : List UInt8) : ofBE l < 256 ^ l.length := by
  have := ofBE_lt l l.length
  rwa [List.take_length] at this
theorem be_add (a r s : Nat) : ∀ t, t ≤ s → be (a * 256 ^ s + r) t = be r t
  | 0, _ => rfl
  | t + 1, h => by
    rw [be, be, be_add a r s t (by omega)]
    congr 1
    unfold nb
    congr 1
    have e : a * 256 ^ s = 256 ^ t * (a * 256 ^ (s - t - 1) * 256) := by
      rw [Nat.mul_assoc, ← Nat.pow_succ, Nat.mul_left_comm, ← Nat.pow_add]
      congr 2
      omega
    rw [e, Nat.add_comm, Nat.add_mul_div_left _ _ (Nat.pow_pos (by decide))]
    omega
theorem be_ofBE (l : List UInt8) : be (ofBE l) l.length = l := by
  induction l with
  | nil => rfl
  | cons c l ih =>
    rw [List.length_cons, ofBE_cons, be, be_add _ _ _ _ (Nat.le_refl _), ih]
    congr 1
    unfold nb
    rw [Nat.mul_comm, Nat.mul_add_div (Nat.pow_pos (by decide)), Nat.div_eq_of_lt (ofBE_lt2 l), Nat.add_zero, Nat.mod_eq_of_lt c.toNat_lt]
    exact UInt8.ofNat_toNat
end Go.Proofs.YtialpepklejejaaDoor
