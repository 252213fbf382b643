/- Texts put together: EntM SteM NdM. -/
import Derived.Test.YtpadpgjkpajfaaaZPair
import Derived.Test.YtpadpgjkpajfaaaZG0
/- Rows of entries: a number and a text, two cells each. -/
namespace Go.Proofs.Ytpadpgjkpajfaaa
open Go.ChangeShapes Go.WideShapes Go.ChangeAt Go.RowKit
def cE (l : List (Int × ByteArray)) : List Value := l.flatMap fun c => [.int .i64 c.1, .string c.2]
theorem cE_cons (c : Int × ByteArray) (l : List (Int × ByteArray)) : cE (c :: l) = .int .i64 c.1 :: .string c.2 :: cE l := rfl
theorem cE_len (l : List (Int × ByteArray)) : (cE l).length = l.length * 2 := by
  induction l with
  | nil => rfl
  | cons c l ih => rw [cE_cons]; simp [ih]; omega
theorem cE_at (l : List (Int × ByteArray)) : ∀ (k : Nat) (h : k < l.length), (cE l)[k * 2]? = some (.int .i64 l[k].1) ∧ (cE l)[k * 2 + 1]? = some (.string l[k].2) := by
  induction l with
  | nil => intro k h; simp at h
  | cons c l ih =>
    intro k h
    cases k with
    | zero => exact ⟨rfl, rfl⟩
    | succ k =>
      have := ih k (by simpa using h)
      rw [cE_cons, show (k + 1) * 2 = k * 2 + 1 + 1 from by omega]
      simpa using this
theorem cE_app (l m : List (Int × ByteArray)) : cE (l ++ m) = cE l ++ cE m := by simp [cE]
theorem cE_one (l : List (Int × ByteArray)) : ∀ u ∈ cE l, u.oneCell' = true := by
  intro u hu; simp [cE] at hu; obtain ⟨a, b, _, rfl | rfl⟩ := hu <;> rfl
theorem cE_set (l : List (Int × ByteArray)) : ∀ (k : Nat) (x : Int) (y : ByteArray), ((cE l).set (k * 2) (.int .i64 x)).set (k * 2 + 1) (.string y) = cE (l.set k (x, y)) := by
  induction l with
  | nil => intro k x y; simp [cE]
  | cons c l ih =>
    intro k x y
    cases k with
    | zero => rfl
    | succ k =>
      have := ih k x y
      rw [List.set_cons_succ, cE_cons, cE_cons, show (k + 1) * 2 = k * 2 + 1 + 1 from by omega, List.set_cons_succ, List.set_cons_succ, List.set_cons_succ, List.set_cons_succ, this]
theorem cE_take (l : List (Int × ByteArray)) (k : Nat) : cE (l.take k) = (cE l).take (k * 2) := by
  induction l generalizing k with
  | nil => simp [cE]
  | cons c l ih =>
    cases k with
    | zero => simp [cE]
    | succ k => rw [List.take_succ_cons, cE_cons, cE_cons, ih, show (k + 1) * 2 = k * 2 + 1 + 1 from by omega, List.take_succ_cons, List.take_succ_cons]
theorem made_ent (n : Nat) : (madeCells #[.int .i64 0, .string ⟨#[]⟩] (n * 2)).toList = cE (List.replicate n (0, ⟨#[]⟩)) := by
  apply List.ext_getElem?
  intro j
  by_cases hj : j < n * 2
  · obtain ⟨h0, h1⟩ := cE_at (List.replicate n ((0 : Int), (⟨#[]⟩ : ByteArray))) (j / 2) (by simp; omega)
    rw [List.getElem_replicate] at h0 h1
    rcases Nat.mod_two_eq_zero_or_one j with h | h
    · rw [show j / 2 * 2 = j from by omega] at h0
      rw [h0]; simp [madeCells, hj, h]
    · rw [show j / 2 * 2 + 1 = j from by omega] at h1
      rw [h1]; simp [madeCells, hj, h]
  · rw [List.getElem?_eq_none (by simp [madeCells]; omega), List.getElem?_eq_none (by rw [cE_len]; simp; omega)]
/-- The first k entries, the others still nought. -/
def fillE (l : List (Int × ByteArray)) (k : Nat) : List (Int × ByteArray) := l.take k ++ List.replicate (l.length - k) (0, ⟨#[]⟩)
theorem fillE_len (l : List (Int × ByteArray)) (k : Nat) (h : k ≤ l.length) : (fillE l k).length = l.length := by simp [fillE]; omega
theorem fillE_zero (l : List (Int × ByteArray)) : fillE l 0 = List.replicate l.length (0, ⟨#[]⟩) := by simp [fillE]
theorem fillE_all (l : List (Int × ByteArray)) (k : Nat) (h : l.length ≤ k) : fillE l k = l := by
  unfold fillE; rw [List.take_of_length_le h, show l.length - k = 0 from by omega]; simp
theorem fillE_at (l : List (Int × ByteArray)) (k : Nat) (h : k < l.length) : (fillE l k)[k]'(by rw [fillE_len l k (by omega)]; exact h) = (0, ⟨#[]⟩) := by
  have e1 : (l.take k).length = k := by rw [List.length_take]; omega
  have : (fillE l k)[k]? = some (0, ⟨#[]⟩) := by
    unfold fillE
    rw [List.getElem?_append_right (by omega), e1, List.getElem?_replicate, if_pos (by omega)]
  exact (List.getElem?_eq_some_iff.1 this).2
theorem fillE_set (l : List (Int × ByteArray)) (k : Nat) (h : k < l.length) : (fillE l k).set k (l[k].1, l[k].2) = fillE l (k + 1) := by
  have e1 : (l.take k).length = k := by rw [List.length_take]; omega
  unfold fillE
  rw [List.set_append_right _ _ (by omega), e1, Nat.sub_self, show l.length - k = (l.length - (k + 1)) + 1 from by omega, List.replicate_succ, List.set_cons_zero, show l.take (k + 1) = l.take k ++ [l[k]] from by rw [List.take_add_one, List.getElem?_eq_getElem h]; rfl, List.append_assoc]
  rfl
theorem row_ent {w : World} {b off : Nat} {l : List (Int × ByteArray)} (hc : ∀ i u, (cE l)[i]? = some u → w.cell? ⟨b, off + i, none⟩ = some u) (k : Nat) (h : k < l.length) :
    w.cell? ⟨b, off + k * 2, none⟩ = some (.int .i64 l[k].1) ∧ w.cell? ⟨b, off + k * 2 + 1, none⟩ = some (.string l[k].2) :=
  ⟨hc _ _ (cE_at l k h).1, hc _ _ (cE_at l k h).2⟩
end Go.Proofs.Ytpadpgjkpajfaaa

/- Which states are right. Plain mathematics. -/
namespace Go.Proofs.Ytpadpgjkpajfaaa
open Go.ChangeShapes Go.WideShapes Go.ChangeAt Go.RowKit
set_option linter.unusedVariables false
abbrev Ent := Int × ByteArray
def entB (p T : Int) (e : Ent) : Bool := inB e.1 p T && decide (e.2.size ≤ 400)
def logB (T : Int) : Int → List Ent → Bool
  | _, [] => true
  | p, e :: l => entB p T e && logB T e.1 l
def stateB (tm vt : Int) (l : List Ent) : Bool := inB tm 0 1000 && inB vt (-1) 4 && decide (l.length ≤ 60) && logB tm 1 l
theorem logB_step (T p : Int) (l : List Ent) (k : Nat) (h : k < l.length) : logB T p (l.drop k) = (entB p T l[k] && logB T l[k].1 (l.drop (k + 1))) := by
  rw [List.drop_eq_getElem_cons h]; rfl
theorem logB_end (T p : Int) (l : List Ent) (k : Nat) (h : l.length ≤ k) : logB T p (l.drop k) = true := by
  rw [List.drop_eq_nil_of_le h]; rfl
theorem st1 {tm vt : Int} {l : List Ent} (h : inB tm 0 1000 = false) : stateB tm vt l = false := by unfold stateB; rw [h]; rfl
theorem st2 {tm vt : Int} {l : List Ent} (h : inB vt (-1) 4 = false) : stateB tm vt l = false := by unfold stateB; rw [h]; simp
theorem st3 {tm vt : Int} {l : List Ent} (h : ¬ l.length ≤ 60) : stateB tm vt l = false := by unfold stateB; rw [decide_eq_false h]; simp
theorem st4 {tm vt : Int} {l : List Ent} (h1 : inB tm 0 1000 = true) (h2 : inB vt (-1) 4 = true) (h3 : l.length ≤ 60) : stateB tm vt l = logB tm 1 l := by unfold stateB; rw [h1, h2, decide_eq_true h3]; rfl
theorem state_parts {tm vt : Int} {l : List Ent} (h : stateB tm vt l = true) : (0 ≤ tm ∧ tm ≤ 1000) ∧ (-1 ≤ vt ∧ vt ≤ 4) ∧ l.length ≤ 60 ∧ logB tm 1 l = true := by
  unfold stateB inB at h; simp at h; exact ⟨h.1.1.1, h.1.1.2, h.1.2, h.2⟩
/-- The term that an entry at place k may not be below. -/
def prevT (l : List Ent) (k : Nat) : Int := if h : k - 1 < l.length ∧ 0 < k then l[k - 1].1 else 1
theorem prevT_zero (l : List Ent) : prevT l 0 = 1 := by unfold prevT; rw [dif_neg (by omega)]
theorem prevT_succ (l : List Ent) (k : Nat) (h : k < l.length) : prevT l (k + 1) = l[k].1 := by unfold prevT; rw [dif_pos ⟨by simpa using h, by omega⟩]; rfl
end Go.Proofs.Ytpadpgjkpajfaaa

/- Which nodes are right. Plain mathematics. -/
namespace Go.Proofs.Ytpadpgjkpajfaaa
open Go.ChangeShapes Go.WideShapes Go.ChangeAt Go.RowKit
set_option linter.unusedVariables false
theorem bdic (b : Bool) : b = false ∨ b = true := by cases b <;> simp
/-- Votes rise, each from q on. -/
def upB (nd : Int) : Int → List Int → Bool
  | _, [] => true
  | q, x :: l => inB x q (nd - 1) && upB nd (x + 1) l
/-- Places of each node. -/
def plB (n : Int) : List Int → List Int → Bool
  | x :: lx, g :: lg => inB x 1 (n + 1) && inB g 0 (x - 1) && plB n lx lg
  | _, _ => true
def roleB (ro : Int) (up : Bool) : Bool := inB ro 0 2 && (up || decide (ro = 0))
def placesB (nd : Int) (n : Int) (lx lg : List Int) : Bool := decide ((lx.length : Int) = nd) && decide ((lg.length : Int) = nd) && plB n lx lg
def nodeB (id nd tm vt ro cm el wt : Int) (up : Bool) (l : List Ent) (lv lx lg : List Int) : Bool :=
  inB nd 1 5 && inB id 0 (nd - 1) && decide (vt < nd) && stateB tm vt l && roleB ro up && inB cm 0 (l.length : Int) && inB el 0 1000 && inB wt 5 100 && upB nd 0 lv && placesB nd (l.length : Int) lx lg
theorem upB_step (nd q : Int) (l : List Int) (k : Nat) (h : k < l.length) : upB nd q (l.drop k) = (inB l[k] q (nd - 1) && upB nd (l[k] + 1) (l.drop (k + 1))) := by
  rw [List.drop_eq_getElem_cons h]; rfl
theorem upB_end (nd q : Int) (l : List Int) (k : Nat) (h : l.length ≤ k) : upB nd q (l.drop k) = true := by
  rw [List.drop_eq_nil_of_le h]; rfl
theorem plB_step (n : Int) (lx lg : List Int) (k : Nat) (h : k < lx.length) (h2 : k < lg.length) : plB n (lx.drop k) (lg.drop k) = (inB lx[k] 1 (n + 1) && inB lg[k] 0 (lx[k] - 1) && plB n (lx.drop (k + 1)) (lg.drop (k + 1))) := by
  rw [List.drop_eq_getElem_cons h, List.drop_eq_getElem_cons h2]; rfl
theorem plB_end (n : Int) (lx lg : List Int) (k : Nat) (h : lx.length ≤ k) : plB n (lx.drop k) (lg.drop k) = true := by
  rw [List.drop_eq_nil_of_le h]; rfl
/-- The least that a vote at place k may be. -/
def prevV (l : List Int) (k : Nat) : Int := if h : k - 1 < l.length ∧ 0 < k then l[k - 1] + 1 else 0
theorem prevV_zero (l : List Int) : prevV l 0 = 0 := by unfold prevV; rw [dif_neg (by omega)]
theorem prevV_succ (l : List Int) (k : Nat) (h : k < l.length) : prevV l (k + 1) = l[k] + 1 := by unfold prevV; rw [dif_pos ⟨by simpa using h, by omega⟩]; rfl
end Go.Proofs.Ytpadpgjkpajfaaa
