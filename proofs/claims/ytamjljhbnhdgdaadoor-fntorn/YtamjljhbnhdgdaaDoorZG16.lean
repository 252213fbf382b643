/- Texts put together: ComM FsM RecM LeadM. -/
import Derived.Test.YtamjljhbnhdgdaaDoorZG3
import Derived.Test.YtamjljhbnhdgdaaDoorZG14
import Derived.Test.YtamjljhbnhdgdaaDoorZG15
/- Entries that two logs have alike from the front on. Plain mathematics. -/
namespace Go.Proofs.YtamjljhbnhdgdaaDoor
open Go.ChangeShapes Go.WideShapes Go.ChangeAt Go.RowKit
def comN : List Ent → List Ent → Nat
 | e :: l, f :: m => if e = f then comN l m + 1 else 0
 | _, _ => 0
theorem comN_step {l m : List Ent} {k : Nat} (h1 : k < l.length) (h2 : k < m.length) (h : l[k] = m[k]) : comN (l.drop k) (m.drop k) = comN (l.drop (k + 1)) (m.drop (k + 1)) + 1 := by
 rw [List.drop_eq_getElem_cons h1, List.drop_eq_getElem_cons h2, comN, if_pos h]
theorem comN_stop {l m : List Ent} {k : Nat} (h1 : k < l.length) (h2 : k < m.length) (h : l[k] ≠ m[k]) : comN (l.drop k) (m.drop k) = 0 := by
 rw [List.drop_eq_getElem_cons h1, List.drop_eq_getElem_cons h2, comN, if_neg h]
theorem comN_nil1 (l m : List Ent) (k : Nat) (h : l.length ≤ k) : comN (l.drop k) (m.drop k) = 0 := by
 rw [List.drop_eq_nil_of_le h]; rfl
theorem comN_nil2 (l m : List Ent) (k : Nat) (h : m.length ≤ k) : comN (l.drop k) (m.drop k) = 0 := by
 rw [List.drop_eq_nil_of_le h]; cases l.drop k <;> rfl
theorem comN_le (l m : List Ent) : comN l m ≤ l.length ∧ comN l m ≤ m.length := by
 induction l generalizing m with
 | nil => simp [comN]
 | cons e l ih =>
  cases m with
  | nil => simp [comN]
  | cons f m =>
   unfold comN; split
   ·have := ih m; simp; exact this
   ·simp
end Go.Proofs.YtamjljhbnhdgdaaDoor

/- Fields that are few and short. -/
namespace Go.Proofs.YtamjljhbnhdgdaaDoor
open Go.ChangeShapes Go.WideShapes Go.ChangeAt Go.RowKit
set_option linter.unusedVariables false
theorem fieldsL_le (l : List ByteArray) (c : Nat) (h : ∀ x ∈ l, x.size ≤ c) : (fieldsL l).length ≤ (2 + c) * l.length := by
 induction l with
 | nil => simp [fieldsL]
 | cons x l ih =>
  have h1 := ih (fun y hy => h y (List.mem_cons_of_mem _ hy))
  have h2 := h x (List.mem_cons_self ..)
  have e : fieldsL (x :: l) = fieldB x ++ fieldsL l := rfl
  rw [e, List.length_append, fieldB_len, List.length_cons, Nat.mul_add, Nat.mul_one]
  omega
theorem short_of {l : List ByteArray} {c : Nat} (h : ∀ x ∈ l, x.size ≤ c) (hc : c ≤ 20000) : allShort l := fun k hk => Nat.le_trans (h _ (List.getElem_mem hk)) hc
theorem fsum_of {l : List ByteArray} {c n : Nat} (h : ∀ x ∈ l, x.size ≤ c) (hn : l.length ≤ n) (hc : (2 + c) * n ≤ 65535) : ¬ 65536 < fsum l := by
 unfold fsum
 have h1 := fieldsL_le l c h
 have h2 : (2 + c) * l.length ≤ (2 + c) * n := Nat.mul_le_mul (Nat.le_refl _) hn
 omega
end Go.Proofs.YtamjljhbnhdgdaaDoor

/- Records between states. Plain mathematics. -/
namespace Go.Proofs.YtamjljhbnhdgdaaDoor
open Go.ChangeShapes Go.WideShapes Go.ChangeAt Go.RowKit
set_option linter.unusedVariables false
def recN (l : List Int) : ByteArray := ⟨(numsL l).toArray⟩
def recT (fs : List ByteArray) : ByteArray := ⟨(be fs.length 1 ++ fieldsL fs).toArray⟩
def tRec (tm vt : Int) : ByteArray := recT [⟨#[116]⟩, recN [tm, vt]]
def cRec (k : Nat) : ByteArray := recT [⟨#[99]⟩, recN [(k : Int)]]
def eRec (e : Ent) : ByteArray := recT [⟨#[101]⟩, recN [e.1], e.2]
def tPart (tm vt tm2 vt2 : Int) : List ByteArray := if tm = tm2 ∧ vt = vt2 then [] else [tRec tm2 vt2]
def cPart (l m : List Ent) : List ByteArray := if comN l m < l.length then [cRec (comN l m)] else []
def recsL (tm vt : Int) (l : List Ent) (tm2 vt2 : Int) (m : List Ent) : List ByteArray := tPart tm vt tm2 vt2 ++ cPart l m ++ (m.drop (comN l m)).map eRec
def RecIs (tm vt : Int) (l : List Ent) (tm2 vt2 : Int) (m : List Ent) (L : List ByteArray) (c : Int) : Prop :=
 (stateB tm vt l = true ∧ stateB tm2 vt2 m = true ∧ L = recsL tm vt l tm2 vt2 m ∧ c = 0) ∨ ((stateB tm vt l = false ∨ (stateB tm vt l = true ∧ stateB tm2 vt2 m = false)) ∧ L = [] ∧ c = 1)
theorem recsL_len (tm vt : Int) (l : List Ent) (tm2 vt2 : Int) (m : List Ent) : (recsL tm vt l tm2 vt2 m).length ≤ m.length + 2 := by
 unfold recsL tPart cPart
 split <;> split <;> simp <;> omega
theorem recN_size (l : List Int) : (recN l).size = 3 * l.length := by
 have := numsL_len l
 show (numsL l).toArray.size = _
 simpa using this
theorem f_t (tm vt : Int) : ∀ x ∈ ([⟨#[116]⟩, recN [tm, vt]] : List ByteArray), x.size ≤ 400 := by
 intro x hx; simp at hx; rcases hx with rfl | rfl
 ·decide
 ·rw [recN_size]; simp
theorem f_c (k : Int) : ∀ x ∈ ([⟨#[99]⟩, recN [k]] : List ByteArray), x.size ≤ 400 := by
 intro x hx; simp at hx; rcases hx with rfl | rfl
 ·decide
 ·rw [recN_size]; simp
theorem f_e (t : Int) (d : ByteArray) (h : d.size ≤ 400) : ∀ x ∈ ([⟨#[101]⟩, recN [t], d] : List ByteArray), x.size ≤ 400 := by
 intro x hx; simp at hx; rcases hx with rfl | rfl | rfl
 ·decide
 ·rw [recN_size]; simp
 ·exact h
theorem fit1 {x : Int} (h1 : -1 ≤ x) (h2 : x ≤ 1000) : allFit [x] := by
 intro k hk; simp at hk; subst hk; exact ⟨h1, by show x ≤ _; omega⟩
theorem fit2 {x y : Int} (h1 : -1 ≤ x) (h2 : x ≤ 1000) (h3 : -1 ≤ y) (h4 : y ≤ 1000) : allFit [x, y] := by
 intro k hk
 match k, hk with
 | 0, _ => exact ⟨h1, by show x ≤ _; omega⟩
 | 1, _ => exact ⟨h3, by show y ≤ _; omega⟩
theorem log_ent {T : Int} : ∀ {l : List Ent} {p : Int}, 1 ≤ p → logB T p l = true → ∀ k (h : k < l.length), (1 ≤ l[k].1 ∧ l[k].1 ≤ T) ∧ l[k].2.size ≤ 400
 | [], p, _, _, k, h => by simp at h
 | e :: l, p, hp, hl, k, h => by
  unfold logB entB inB at hl; simp at hl
  cases k with
  | zero => exact ⟨⟨by show 1 ≤ e.1; omega, hl.1.1.2⟩, hl.1.2⟩
  | succ k => exact log_ent (l := l) (p := e.1) (by omega) hl.2 k (by simpa using h)
theorem tP_no {tm vt tm2 vt2 : Int} (h : tm = tm2 ∧ vt = vt2) : tPart tm vt tm2 vt2 = [] := if_pos h
theorem tP_yes {tm vt tm2 vt2 : Int} (h : ¬ (tm = tm2 ∧ vt = vt2)) : tPart tm vt tm2 vt2 = [tRec tm2 vt2] := if_neg h
theorem cP_no {l m : List Ent} (h : ¬ comN l m < l.length) : cPart l m = [] := if_neg h
theorem cP_yes {l m : List Ent} (h : comN l m < l.length) : cPart l m = [cRec (comN l m)] := if_pos h
theorem map_snoc {m : List Ent} {c k : Nat} (P : List ByteArray) (h : c + k < m.length) : P ++ ((m.drop c).take (k + 1)).map eRec = P ++ ((m.drop c).take k).map eRec ++ [eRec m[c + k]] := by
 rw [List.take_add_one, List.getElem?_drop, List.getElem?_eq_getElem h]; simp
theorem map_all {m : List Ent} {c k : Nat} (P : List ByteArray) (h : m.length ≤ c + k) : P ++ ((m.drop c).take k).map eRec = P ++ (m.drop c).map eRec := by
 rw [List.take_of_length_le (by simp; omega)]
theorem own_as {w : World} {base : Nat} {e : TypeId} {v : Value} {n : Nat} {xs : List Value} {P : List ByteArray} (h : w.ownsRow base e 1 v n xs) (h1 : P.length = n) (h2 : cS P = xs) : Hid (w.ownsRow base e 1 v P.length (cS P)) := by subst h1 h2; exact h
theorem own_appR {w : World} {base : Nat} {e : TypeId} {v : Value} {l m : List ByteArray} {n : Nat} (h : w.ownsRow base e 1 v (l.length + n) (cS l ++ cS m)) (hn : m.length = n) : w.ownsRow base e 1 v (l ++ m).length (cS (l ++ m)) := by
 rw [cS_app, List.length_append, hn]; exact h
end Go.Proofs.YtamjljhbnhdgdaaDoor

/- The records between two states lead from the one to the other. Plain mathematics. -/
namespace Go.Proofs.YtamjljhbnhdgdaaDoor
open Go.ChangeShapes Go.WideShapes Go.ChangeAt Go.RowKit
set_option linter.unusedVariables false
theorem rec_read {f0 : ByteArray} {L : List Int} {r : List ByteArray} (hs : ∀ x ∈ (f0 :: recN L :: r), x.size ≤ 400) (hr : r.length ≤ 1) (hf : allFit L) (hl : L.length ≤ 4096) : recP (recT (f0 :: recN L :: r)) = some (f0, L, r) := by
 have h1 := rf_fb (f0 :: recN L :: r) (by simp; omega) (short_of hs (by decide)) (fsum_of (n := 3) hs (by simp; omega) (by decide))
 have h2 : rfOf (recT (f0 :: recN L :: r)).data.toList = some (f0 :: recN L :: r) := by
  have e : (recT (f0 :: recN L :: r)).data.toList = be (f0 :: recN L :: r).length 1 ++ fieldsL (f0 :: recN L :: r) := by simp [recT]
  rw [e]
  obtain ⟨h3, h4⟩ := h1
  unfold rfL rfC at *
  split at h4
  ·cases h4
  ·rename_i h5
   rw [if_neg h5] at h3
   split at h4
   ·rename_i h6
    obtain ⟨m, hm⟩ := Option.isSome_iff_exists.1 h6
    rw [hm] at h3 ⊢
    simpa using h3
   ·cases h4
 have h3 := rn_nb L (by omega) hf
 have h4 : nbL L = numsL L := by unfold nbL; rw [if_neg (by omega), if_pos ((fitB_iff L).2 hf)]
 have h5 : (recN L).data.toList = numsL L := by simp [recN]
 have h6 := recP_some h2 (by rw [h5, ← h4]; exact h3.2.1)
 rw [h6, h5, ← h4, h3.1]
theorem ap_t {tm vt tm2 vt2 : Int} {l : List Ent} (h : stateB tm2 vt2 l = true) (ht : tm ≤ tm2) : apF tm vt l (tRec tm2 vt2) = some (tm2, vt2, l) := by
 have hp := state_parts h
 refine apF_ok ?_ ⟨h, ht⟩
 unfold apR tRec
 rw [rec_read (f_t tm2 vt2) (by simp) (fit2 (by omega) (by omega) (by omega) (by omega)) (by simp)]
 simp [apK]
theorem ap_c {tm vt : Int} {l : List Ent} {k : Nat} (hl : stateB tm vt l = true) (h : stateB tm vt (l.take k) = true) (hk : k < l.length) : apF tm vt l (cRec k) = some (tm, vt, l.take k) := by
 have hp := (state_parts hl).2.2.1
 refine apF_ok ?_ ⟨h, Int.le_refl _⟩
 unfold apR cRec
 rw [rec_read (f_c (k : Int)) (by simp) (fit1 (by omega) (by omega)) (by simp)]
 simp only [apK]
 rw [if_pos ⟨trivial, by omega, by omega⟩]
 simp
theorem ap_e {tm vt : Int} {l : List Ent} {e : Ent} (h : stateB tm vt (l ++ [e]) = true) : apF tm vt l (eRec e) = some (tm, vt, l ++ [e]) := by
 obtain ⟨⟨p0, p1⟩, -, -, p2⟩ := state_parts h
 obtain ⟨q1, q2⟩ := log_ent (Int.le_refl 1) p2 l.length (by simp)
 simp at q1 q2
 refine apF_ok ?_ ⟨h, Int.le_refl _⟩
 unfold apR eRec
 rw [rec_read (f_e e.1 e.2 q2) (by simp) (fit1 (by omega) (by omega)) (by simp)]
 simp [apK]
theorem logB_take {T : Int} : ∀ {l : List Ent} {p : Int} (k : Nat), logB T p l = true → logB T p (l.take k) = true
 | [], p, k, h => by simpa using h
 | e :: l, p, 0, h => rfl
 | e :: l, p, k + 1, h => by
  unfold logB at h
  simp only [Bool.and_eq_true] at h
  simp only [List.take_succ_cons, logB, Bool.and_eq_true]
  exact ⟨h.1, logB_take k h.2⟩
theorem logB_mono {T T2 : Int} (hT : T ≤ T2) : ∀ {l : List Ent} {p : Int}, logB T p l = true → logB T2 p l = true
 | [], p, h => rfl
 | e :: l, p, h => by
  unfold logB at h ⊢
  simp only [Bool.and_eq_true] at h ⊢
  refine ⟨?_, logB_mono hT h.2⟩
  have h1 := h.1
  unfold entB inB at h1 ⊢
  simp at h1 ⊢
  omega
theorem state_of {tm vt : Int} {l : List Ent} (h0 : 0 ≤ tm ∧ tm ≤ 1000) (h1 : -1 ≤ vt ∧ vt ≤ 4) (h2 : l.length ≤ 60) (h3 : logB tm 1 l = true) : stateB tm vt l = true := by
 unfold stateB inB
 simp [h0, h1, h2, h3]
theorem state_take {tm vt : Int} {l : List Ent} (k : Nat) (h : stateB tm vt l = true) : stateB tm vt (l.take k) = true := by
 obtain ⟨h0, h1, h2, h3⟩ := state_parts h
 exact state_of h0 h1 (by rw [List.length_take]; omega) (logB_take k h3)
theorem comN_take : ∀ (l m : List Ent), l.take (comN l m) = m.take (comN l m) ∧ comN l m ≤ l.length ∧ comN l m ≤ m.length
 | [], m => by simp [comN]
 | e :: l, [] => by simp [comN]
 | e :: l, f :: m => by
  unfold comN
  split
  ·rename_i h
   subst h
   have h1 := comN_take l m
   simp
   exact h1
  ·simp
theorem apAll_app : ∀ (a b : List ByteArray) (s s2 : Int × Int × List Ent), apAll s a = some s2 → apAll s (a ++ b) = apAll s2 b
 | [], b, s, s2, h => by injection h with h; rw [h]; rfl
 | d :: a, b, s, s2, h => by
  simp only [apAll, List.cons_append] at h ⊢
  cases hF : apF s.1 s.2.1 s.2.2 d with
  | none => rw [hF] at h; cases h
  | some q => rw [hF] at h; exact apAll_app a b q s2 h
theorem apAll_es {tm vt : Int} {m : List Ent} (h : stateB tm vt m = true) : ∀ (j k : Nat), m.length - k = j → k ≤ m.length → apAll (tm, vt, m.take k) ((m.drop k).map eRec) = some (tm, vt, m)
 | 0, k, hj, hk => by
  have e : k = m.length := by omega
  subst e
  rw [List.drop_eq_nil_of_le (Nat.le_refl _), List.take_of_length_le (Nat.le_refl _)]
  rfl
 | j + 1, k, hj, hk => by
  have hlt : k < m.length := by omega
  rw [List.drop_eq_getElem_cons hlt, List.map_cons]
  have hs := state_take (k + 1) h
  rw [List.take_succ_eq_append_getElem hlt] at hs
  rw [apAll_yes (ap_e hs), ← List.take_succ_eq_append_getElem hlt]
  exact apAll_es h j (k + 1) (by omega) (by omega)
/-- The records between two right states lead from the one to the other, if the Term does not fall. -/
theorem recs_lead {tm vt tm2 vt2 : Int} {l m : List Ent} (hl : stateB tm vt l = true) (hm : stateB tm2 vt2 m = true) (ht : tm ≤ tm2) : apAll (tm, vt, l) (recsL tm vt l tm2 vt2 m) = some (tm2, vt2, m) := by
 obtain ⟨a0, a1, a2, a3⟩ := state_parts hl
 obtain ⟨b0, b1, b2, b3⟩ := state_parts hm
 have hmid : stateB tm2 vt2 l = true := state_of b0 b1 a2 (logB_mono ht a3)
 obtain ⟨c1, c2, c3⟩ := comN_take l m
 unfold recsL
 have s1 : apAll (tm, vt, l) (tPart tm vt tm2 vt2) = some (tm2, vt2, l) := by
  by_cases h : tm = tm2 ∧ vt = vt2
  ·rw [tP_no h, h.1, h.2]; rfl
  ·rw [tP_yes h, apAll_yes (ap_t hmid ht)]; rfl
 have s2 : apAll (tm2, vt2, l) (cPart l m) = some (tm2, vt2, l.take (comN l m)) := by
  by_cases h : comN l m < l.length
  ·unfold cPart
   rw [if_pos h, apAll_yes (ap_c hmid (state_take _ hmid) h)]; rfl
  ·rw [cP_no h, List.take_of_length_le (by omega)]; rfl
 rw [apAll_app _ _ _ _ (by rw [apAll_app _ _ _ _ s1]; exact s2), c1]
 exact apAll_es hm _ _ rfl c3
end Go.Proofs.YtamjljhbnhdgdaaDoor
