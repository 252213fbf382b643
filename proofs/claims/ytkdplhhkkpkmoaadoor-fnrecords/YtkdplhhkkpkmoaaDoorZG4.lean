/- Texts put together: RecM ReadNumM AsI AsH AsF. -/
import Derived.Test.YtkdplhhkkpkmoaaDoorZG2
import Derived.Test.YtkdplhhkkpkmoaaDoorZG3
import Derived.Test.YtkdplhhkkpkmoaaDoorZG0
import Derived.LaidEql
import Derived.Stop.Asserts
import Derived.RowKitTokens
/- Records between states. Plain mathematics. -/
namespace Go.Proofs.YtkdplhhkkpkmoaaDoor
open Go.ChangeShapes Go.WideShapes Go.ChangeAt Go.RowKit
set_option linter.unusedVariables false
def recN (l : List Int) : ByteArray := ⟨(numsL l).toArray⟩
def recT (fs : List ByteArray) : ByteArray := ⟨(be fs.length 1 ++ fieldsL fs).toArray⟩
def tRec (tm vt : Int) : ByteArray := recT [⟨#[116]⟩, recN [tm, vt]]
def cRec (k : Nat) : ByteArray := recT [⟨#[99]⟩, recN [(k : Int)]]
def eRec (e : Ent) : ByteArray := recT [⟨#[101]⟩, recN [e.1], e.2]
def tPart (tm vt tm2 vt2 : Int) : List ByteArray := if tm = tm2 ∧ vt = vt2 then [] else [tRec tm2 vt2]
def cPart (l m : List Ent) : List ByteArray := if comN l m < l.length then [cRec (comN l m)] else []
def recsL (tm vt : Int) (l : List Ent) (tm2 vt2 : Int) (m : List Ent) : List ByteArray := tPart tm vt tm2 vt2 ++ cPart l m ++ (m.drop (comN l m)).map eRec
def RecIs (tm vt : Int) (l : List Ent) (tm2 vt2 : Int) (m : List Ent) (L : List ByteArray) (c : Int) : Prop :=
 (stateB tm vt l = true ∧ stateB tm2 vt2 m = true ∧ L = recsL tm vt l tm2 vt2 m ∧ c = 0) ∨ ((stateB tm vt l = false ∨ (stateB tm vt l = true ∧ stateB tm2 vt2 m = false)) ∧ L = [] ∧ c = 1)
theorem recsL_len (tm vt : Int) (l : List Ent) (tm2 vt2 : Int) (m : List Ent) : (recsL tm vt l tm2 vt2 m).length ≤ m.length + 2 := by
 unfold recsL tPart cPart
 split <;> split <;> simp <;> omega
theorem recN_size (l : List Int) : (recN l).size = 3 * l.length := by
 have := numsL_len l
 show (numsL l).toArray.size = _
 simpa using this
theorem f_t (tm vt : Int) : ∀ x ∈ ([⟨#[116]⟩, recN [tm, vt]] : List ByteArray), x.size ≤ 400 := by
 intro x hx; simp at hx; rcases hx with rfl | rfl
 ·decide
 ·rw [recN_size]; simp
theorem f_c (k : Int) : ∀ x ∈ ([⟨#[99]⟩, recN [k]] : List ByteArray), x.size ≤ 400 := by
 intro x hx; simp at hx; rcases hx with rfl | rfl
 ·decide
 ·rw [recN_size]; simp
theorem f_e (t : Int) (d : ByteArray) (h : d.size ≤ 400) : ∀ x ∈ ([⟨#[101]⟩, recN [t], d] : List ByteArray), x.size ≤ 400 := by
 intro x hx; simp at hx; rcases hx with rfl | rfl | rfl
 ·decide
 ·rw [recN_size]; simp
 ·exact h
theorem fit1 {x : Int} (h1 : -1 ≤ x) (h2 : x ≤ 1000) : allFit [x] := by
 intro k hk; simp at hk; subst hk; exact ⟨h1, by show x ≤ _; omega⟩
theorem fit2 {x y : Int} (h1 : -1 ≤ x) (h2 : x ≤ 1000) (h3 : -1 ≤ y) (h4 : y ≤ 1000) : allFit [x, y] := by
 intro k hk
 match k, hk with
 | 0, _ => exact ⟨h1, by show x ≤ _; omega⟩
 | 1, _ => exact ⟨h3, by show y ≤ _; omega⟩
theorem log_ent {T : Int} : ∀ {l : List Ent} {p : Int}, 1 ≤ p → logB T p l = true → ∀ k (h : k < l.length), (1 ≤ l[k].1 ∧ l[k].1 ≤ T) ∧ l[k].2.size ≤ 400
 | [], p, _, _, k, h => by simp at h
 | e :: l, p, hp, hl, k, h => by
  unfold logB entB inB at hl; simp at hl
  cases k with
  | zero => exact ⟨⟨by show 1 ≤ e.1; omega, hl.1.1.2⟩, hl.1.2⟩
  | succ k => exact log_ent (l := l) (p := e.1) (by omega) hl.2 k (by simpa using h)
theorem tP_no {tm vt tm2 vt2 : Int} (h : tm = tm2 ∧ vt = vt2) : tPart tm vt tm2 vt2 = [] := if_pos h
theorem tP_yes {tm vt tm2 vt2 : Int} (h : ¬ (tm = tm2 ∧ vt = vt2)) : tPart tm vt tm2 vt2 = [tRec tm2 vt2] := if_neg h
theorem cP_no {l m : List Ent} (h : ¬ comN l m < l.length) : cPart l m = [] := if_neg h
theorem cP_yes {l m : List Ent} (h : comN l m < l.length) : cPart l m = [cRec (comN l m)] := if_pos h
theorem map_snoc {m : List Ent} {c k : Nat} (P : List ByteArray) (h : c + k < m.length) : P ++ ((m.drop c).take (k + 1)).map eRec = P ++ ((m.drop c).take k).map eRec ++ [eRec m[c + k]] := by
 rw [List.take_add_one, List.getElem?_drop, List.getElem?_eq_getElem h]; simp
theorem map_all {m : List Ent} {c k : Nat} (P : List ByteArray) (h : m.length ≤ c + k) : P ++ ((m.drop c).take k).map eRec = P ++ (m.drop c).map eRec := by
 rw [List.take_of_length_le (by simp; omega)]
theorem own_as {w : World} {base : Nat} {e : TypeId} {v : Value} {n : Nat} {xs : List Value} {P : List ByteArray} (h : w.ownsRow base e 1 v n xs) (h1 : P.length = n) (h2 : cS P = xs) : Hid (w.ownsRow base e 1 v P.length (cS P)) := by subst h1 h2; exact h
theorem own_appR {w : World} {base : Nat} {e : TypeId} {v : Value} {l m : List ByteArray} {n : Nat} (h : w.ownsRow base e 1 v (l.length + n) (cS l ++ cS m)) (hn : m.length = n) : w.ownsRow base e 1 v (l ++ m).length (cS (l ++ m)) := by
 rw [cS_app, List.length_append, hn]; exact h
end Go.Proofs.YtkdplhhkkpkmoaaDoor

/- Bytes read as numbers: the plain mathematics. -/
namespace Go.Proofs.YtkdplhhkkpkmoaaDoor
open Go.ChangeShapes Go.WideShapes Go.ChangeAt Go.RowKit
def chunk (l : List UInt8) (k : Nat) : List UInt8 := (l.drop (3 * k)).take 3
def numsR (l : List UInt8) (n : Nat) : List Int := (List.range n).map fun k => ((ofBE (chunk l k) : Nat) : Int) - 1
theorem numsR_len (l : List UInt8) (n : Nat) : (numsR l n).length = n := by simp [numsR]
theorem numsR_snoc (l : List UInt8) (k : Nat) : numsR l (k + 1) = numsR l k ++ [((ofBE (chunk l k) : Nat) : Int) - 1] := by
 unfold numsR; rw [List.range_succ, List.map_append]; rfl
def rnL (l : List UInt8) : List Int := if 65536 < l.length then [] else if l.length % 3 = 0 then (if 4096 < l.length / 3 then [] else numsR l (l.length / 3)) else []
def rnC (l : List UInt8) : Int := if 65536 < l.length then 2 else if l.length % 3 = 0 then (if 4096 < l.length / 3 then 6 else 0) else 3
theorem rn_long {l : List UInt8} (h : 65536 < l.length) : rnL l = [] ∧ rnC l = 2 := by unfold rnL rnC; rw [if_pos h, if_pos h]; exact ⟨rfl, rfl⟩
theorem rn_form {l : List UInt8} (h : ¬ 65536 < l.length) (h2 : ¬ l.length % 3 = 0) : rnL l = [] ∧ rnC l = 3 := by unfold rnL rnC; rw [if_neg h, if_neg h, if_neg h2, if_neg h2]; exact ⟨rfl, rfl⟩
theorem rn_many {l : List UInt8} (h : ¬ 65536 < l.length) (h2 : l.length % 3 = 0) (h3 : 4096 < l.length / 3) : rnL l = [] ∧ rnC l = 6 := by unfold rnL rnC; rw [if_neg h, if_neg h, if_pos h2, if_pos h2, if_pos h3, if_pos h3]; exact ⟨rfl, rfl⟩
theorem rn_ok {l : List UInt8} (h : ¬ 65536 < l.length) (h2 : l.length % 3 = 0) (h3 : ¬ 4096 < l.length / 3) : rnL l = numsR l (l.length / 3) ∧ rnC l = 0 := by unfold rnL rnC; rw [if_neg h, if_neg h, if_pos h2, if_pos h2, if_neg h3, if_neg h3]; exact ⟨rfl, rfl⟩
theorem rnL_le (l : List UInt8) : (rnL l).length ≤ 4096 := by
 unfold rnL; split
 ·simp
 ·split
  ·split
   ·simp
   ·rw [numsR_len]; omega
  ·simp
theorem nil_ownI (w : World) (base : Nat) (t : TypeId) : w.ownsRow base t 1 (.slice none 0 0) ([] : List Int).length (cI []) := World.ownsRow_nil w base t 1
theorem own_appI {w : World} {base : Nat} {e : TypeId} {v : Value} {l m : List Int} {n : Nat} (h : w.ownsRow base e 1 v (l.length + n) (cI l ++ cI m)) (hn : m.length = n) : w.ownsRow base e 1 v (l ++ m).length (cI (l ++ m)) := by
 rw [cI_app, List.length_append, hn]; exact h
end Go.Proofs.YtkdplhhkkpkmoaaDoor

/- errors.As at a struct target whose type is the error's own: the closed facts on the model's entries. -/
namespace Go.Proofs.YtkdplhhkkpkmoaaDoor
open Go.RowKit Go.Extern.Stop Go.Stop Go.Extern
end Go.Proofs.YtkdplhhkkpkmoaaDoor

/- errors.As hits at once at a struct target. -/
namespace Go.Proofs.YtkdplhhkkpkmoaaDoor
open Go.RowKit Go.Extern.Stop Go.Stop Go.Extern
end Go.Proofs.YtkdplhhkkpkmoaaDoor

/- impl.faultCode of a fault. -/
namespace Go.Proofs.YtkdplhhkkpkmoaaDoor
open Go.RowKit Go.Extern.Stop Go.Stop Go.Extern
end Go.Proofs.YtkdplhhkkpkmoaaDoor
