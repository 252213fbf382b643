/- Records between states. Plain mathematics. -/
import Derived.Test.YtloblilbmdiafaaComM
import Derived.Test.YtloblilbmdiafaaNumbersM
import Derived.Test.YtloblilbmdiafaaFsM
namespace Go.Proofs.Ytloblilbmdiafaa
open Go.ChangeShapes Go.WideShapes Go.ChangeAt Go.RowKit
set_option linter.unusedVariables false
def recN (l : List Int) : ByteArray := ⟨(numsL l).toArray⟩
def recT (fs : List ByteArray) : ByteArray := ⟨(be fs.length 1 ++ fieldsL fs).toArray⟩
def tRec (tm vt : Int) : ByteArray := recT [⟨#[116]⟩, recN [tm, vt]]
def cRec (k : Nat) : ByteArray := recT [⟨#[99]⟩, recN [(k : Int)]]
def eRec (e : Ent) : ByteArray := recT [⟨#[101]⟩, recN [e.1], e.2]
def tPart (tm vt tm2 vt2 : Int) : List ByteArray := if tm = tm2 ∧ vt = vt2 then [] else [tRec tm2 vt2]
def cPart (l m : List Ent) : List ByteArray := if comN l m < l.length then [cRec (comN l m)] else []
def recsL (tm vt : Int) (l : List Ent) (tm2 vt2 : Int) (m : List Ent) : List ByteArray := tPart tm vt tm2 vt2 ++ cPart l m ++ (m.drop (comN l m)).map eRec
def RecIs (tm vt : Int) (l : List Ent) (tm2 vt2 : Int) (m : List Ent) (L : List ByteArray) (c : Int) : Prop :=
  (stateB tm vt l = true ∧ stateB tm2 vt2 m = true ∧ L = recsL tm vt l tm2 vt2 m ∧ c = 0) ∨ ((stateB tm vt l = false ∨ (stateB tm vt l = true ∧ stateB tm2 vt2 m = false)) ∧ L = [] ∧ c = 1)
theorem recsL_len (tm vt : Int) (l : List Ent) (tm2 vt2 : Int) (m : List Ent) : (recsL tm vt l tm2 vt2 m).length ≤ m.length + 2 := by
  unfold recsL tPart cPart
  split <;> split <;> simp <;> omega
theorem rec_ex (tm vt : Int) (l : List Ent) (tm2 vt2 : Int) (m : List Ent) : ∃ L c, RecIs tm vt l tm2 vt2 m L c ∧ L.length ≤ 62 := by
  cases h : stateB tm vt l with
  | false => exact ⟨_, _, .inr ⟨.inl h, rfl, rfl⟩, by simp⟩
  | true => cases h2 : stateB tm2 vt2 m with
    | false => exact ⟨_, _, .inr ⟨.inr ⟨h, h2⟩, rfl, rfl⟩, by simp⟩
    | true => exact ⟨_, _, .inl ⟨h, h2, rfl, rfl⟩, by have := recsL_len tm vt l tm2 vt2 m; have := (state_parts h2).2.2.1; omega⟩
theorem recN_size (l : List Int) : (recN l).size = 3 * l.length := by
  have := numsL_len l
  show (numsL l).toArray.size = _
  simpa using this
theorem f_t (tm vt : Int) : ∀ x ∈ ([⟨#[116]⟩, recN [tm, vt]] : List ByteArray), x.size ≤ 400 := by
  intro x hx; simp at hx; rcases hx with rfl | rfl
  · decide
  · rw [recN_size]; simp
theorem f_c (k : Int) : ∀ x ∈ ([⟨#[99]⟩, recN [k]] : List ByteArray), x.size ≤ 400 := by
  intro x hx; simp at hx; rcases hx with rfl | rfl
  · decide
  · rw [recN_size]; simp
theorem f_e (t : Int) (d : ByteArray) (h : d.size ≤ 400) : ∀ x ∈ ([⟨#[101]⟩, recN [t], d] : List ByteArray), x.size ≤ 400 := by
  intro x hx; simp at hx; rcases hx with rfl | rfl | rfl
  · decide
  · rw [recN_size]; simp
  · exact h
theorem fit1 {x : Int} (h1 : -1 ≤ x) (h2 : x ≤ 1000) : allFit [x] := by
  intro k hk; simp at hk; subst hk; exact ⟨h1, by show x ≤ _; omega⟩
theorem fit2 {x y : Int} (h1 : -1 ≤ x) (h2 : x ≤ 1000) (h3 : -1 ≤ y) (h4 : y ≤ 1000) : allFit [x, y] := by
  intro k hk
  match k, hk with
  | 0, _ => exact ⟨h1, by show x ≤ _; omega⟩
  | 1, _ => exact ⟨h3, by show y ≤ _; omega⟩
theorem log_ent {T : Int} : ∀ {l : List Ent} {p : Int}, 1 ≤ p → logB T p l = true → ∀ k (h : k < l.length), (1 ≤ l[k].1 ∧ l[k].1 ≤ T) ∧ l[k].2.size ≤ 400
  | [], p, _, _, k, h => by simp at h
  | e :: l, p, hp, hl, k, h => by
    unfold logB entB inB at hl; simp at hl
    cases k with
    | zero => exact ⟨⟨by show 1 ≤ e.1; omega, hl.1.1.2⟩, hl.1.2⟩
    | succ k => exact log_ent (l := l) (p := e.1) (by omega) hl.2 k (by simpa using h)
theorem tP_no {tm vt tm2 vt2 : Int} (h : tm = tm2 ∧ vt = vt2) : tPart tm vt tm2 vt2 = [] := if_pos h
theorem tP_yes {tm vt tm2 vt2 : Int} (h : ¬ (tm = tm2 ∧ vt = vt2)) : tPart tm vt tm2 vt2 = [tRec tm2 vt2] := if_neg h
theorem cP_no {l m : List Ent} (h : ¬ comN l m < l.length) : cPart l m = [] := if_neg h
theorem cP_yes {l m : List Ent} (h : comN l m < l.length) : cPart l m = [cRec (comN l m)] := if_pos h
theorem map_snoc {m : List Ent} {c k : Nat} (P : List ByteArray) (h : c + k < m.length) : P ++ ((m.drop c).take (k + 1)).map eRec = P ++ ((m.drop c).take k).map eRec ++ [eRec m[c + k]] := by
  rw [List.take_add_one, List.getElem?_drop, List.getElem?_eq_getElem h]; simp
theorem map_all {m : List Ent} {c k : Nat} (P : List ByteArray) (h : m.length ≤ c + k) : P ++ ((m.drop c).take k).map eRec = P ++ (m.drop c).map eRec := by
  rw [List.take_of_length_le (by simp; omega)]
theorem own_as {w : World} {base : Nat} {e : TypeId} {v : Value} {n : Nat} {xs : List Value} {P : List ByteArray} (h : w.ownsRow base e 1 v n xs) (h1 : P.length = n) (h2 : cS P = xs) : Hid (w.ownsRow base e 1 v P.length (cS P)) := by subst h1 h2; exact h
theorem own_appR {w : World} {base : Nat} {e : TypeId} {v : Value} {l m : List ByteArray} {n : Nat} (h : w.ownsRow base e 1 v (l.length + n) (cS l ++ cS m)) (hn : m.length = n) : w.ownsRow base e 1 v (l ++ m).length (cS (l ++ m)) := by
  rw [cS_app, List.length_append, hn]; exact h
end Go.Proofs.Ytloblilbmdiafaa
