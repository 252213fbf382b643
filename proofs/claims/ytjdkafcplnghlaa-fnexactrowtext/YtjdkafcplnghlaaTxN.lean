/- A row's text: its runes' bytes without the blanks at the end. Plain mathematics. -/
import Derived.Test.YtjdkafcplnghlaaPair
import Derived.Laws.Cover4
namespace Go.Proofs.Ytjdkafcplnghlaa
open Go.ChangeShapes Go.WideShapes Go.ChangeAt Go.RowKit
set_option linter.unusedVariables false
/-- How many of the first k cells are left without the blanks at their end. -/
def trim (r : List (Int × Int)) : Nat → Nat
  | 0 => 0
  | k + 1 => if (r.getD k (0, 0)).1 = 32 then trim r k else k + 1
theorem trim_le (r : List (Int × Int)) : ∀ k, trim r k ≤ k
  | 0 => Nat.le_refl _
  | k + 1 => by
    simp only [trim]
    split
    · exact Nat.le_succ_of_le (trim_le r k)
    · exact Nat.le_refl _
theorem trim_blank {r : List (Int × Int)} {k : Nat} (h : k < r.length) (e : r[k].1 = 32) : trim r (k + 1) = trim r k := by
  simp only [trim]; rw [if_pos (by rw [show r.getD k (0, 0) = r[k] from by simp [h]]; exact e)]
theorem trim_not {r : List (Int × Int)} {k : Nat} (h : k < r.length) (e : ¬ r[k].1 = 32) : trim r (k + 1) = k + 1 := by
  simp only [trim]; rw [if_neg (by rw [show r.getD k (0, 0) = r[k] from by simp [h]]; exact e)]
def firsts (r : List (Int × Int)) (k : Nat) : List Int := (r.take k).map (·.1)
theorem firsts_len (r : List (Int × Int)) (k : Nat) (h : k ≤ r.length) : (firsts r k).length = k := by unfold firsts; rw [List.length_map, List.length_take]; omega
theorem firsts_snoc (r : List (Int × Int)) (k : Nat) (h : k < r.length) : firsts r (k + 1) = firsts r k ++ [r[k].1] := by
  unfold firsts; rw [List.take_succ_eq_append_getElem h, List.map_append]; rfl
def rowT (r : List (Int × Int)) (n : Nat) : ByteArray := runesBytes (firsts r (trim r n))
theorem runes_app (l m : List Int) : runesBytes (l ++ m) = m.foldl (fun r n => r ++ Utf8.encode n) (runesBytes l) := by unfold runesBytes; rw [List.foldl_append]
theorem runes_snoc (l : List Int) (n : Int) : runesBytes (l ++ [n]) = runesBytes l ++ Utf8.encode n := by rw [runes_app]; rfl
theorem foldl_enc (m : List Int) : ∀ s : ByteArray, m.foldl (fun r n => r ++ Utf8.encode n) s = s ++ runesBytes m := by
  induction m with
  | nil => intro s; simp [runesBytes]
  | cons n m ih =>
    intro s
    have h2 : runesBytes (n :: m) = Utf8.encode n ++ runesBytes m := by
      show m.foldl _ (ByteArray.empty ++ Utf8.encode n) = _
      rw [ih]; simp
    rw [List.foldl_cons, ih, h2, ByteArray.append_assoc]
theorem rowT_pre (r : List (Int × Int)) (n : Nat) (hn : n ≤ r.length) : (runesBytes (firsts r n)).extract 0 (rowT r n).size = rowT r n := by
  unfold rowT
  have e : firsts r n = firsts r (trim r n) ++ ((r.take n).drop (trim r n)).map (·.1) := by
    unfold firsts
    rw [← List.map_append]
    congr 1
    have h := List.take_append_drop (trim r n) (r.take n)
    rw [List.take_take, Nat.min_eq_left (trim_le r n)] at h
    exact h.symm
  rw [e, runes_app, foldl_enc]
  apply ByteArray.ext
  simp [ByteArray.data_extract, ByteArray.data_append]
theorem runes_le (r : List (Int × Int)) (n : Nat) : (runesBytes (firsts r n)).size ≤ 4 * n := by
  have := runesBytes_size_le (firsts r n)
  have h : (firsts r n).length ≤ n := by unfold firsts; rw [List.length_map]; exact List.length_take_le _ _
  omega
theorem rowT_le (r : List (Int × Int)) (n : Nat) (hn : n ≤ r.length) : (rowT r n).size ≤ (runesBytes (firsts r n)).size := by
  have h := congrArg ByteArray.size (rowT_pre r n hn)
  rw [ByteArray.size_extract] at h
  omega
def cR (l : List Int) : List Value := l.map fun c => .int .i32 c
theorem cR_len (l : List Int) : (cR l).length = l.length := by simp [cR]
end Go.Proofs.Ytjdkafcplnghlaa
