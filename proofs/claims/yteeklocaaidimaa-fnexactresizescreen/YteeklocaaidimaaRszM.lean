/- A screen of another size: rows of cells pasted into rows; copy of rows of two-cell elements. -/
import Derived.Test.YteeklocaaidimaaPair
import Derived.Laws.CopyRow
import Derived.Laws.CopyOwn
namespace Go.Proofs.Yteeklocaaidimaa
open Go.ChangeShapes Go.WideShapes Go.ChangeAt Go.RowKit
set_option linter.unusedVariables false
def paste (l : List (Int × Int)) (s : Nat) (r : List (Int × Int)) : List (Int × Int) := l.take s ++ r ++ l.drop (s + r.length)
theorem paste_len (l : List (Int × Int)) (s : Nat) (r : List (Int × Int)) (h : s + r.length ≤ l.length) : (paste l s r).length = l.length := by
  unfold paste
  rw [List.length_append, List.length_append, List.length_take, List.length_drop]
  omega
theorem paste_nil (l : List (Int × Int)) (s : Nat) : paste l s [] = l := by unfold paste; simp
theorem paste_set (l : List (Int × Int)) (s : Nat) (r : List (Int × Int)) (x : Nat) (hx : x < r.length) (h : s + r.length ≤ l.length) : (paste l s (r.take x)).set (s + x) r[x] = paste l s (r.take (x + 1)) := by
  unfold paste
  have hs : (l.take s).length = s := by rw [List.length_take]; omega
  have hr : (r.take x).length = x := by rw [List.length_take]; omega
  have hr1 : (r.take (x + 1)).length = x + 1 := by rw [List.length_take]; omega
  rw [hr, hr1, List.take_succ_eq_append_getElem hx, List.set_append_right _ _ (by rw [List.length_append, hs, hr]; omega), List.length_append, hs, hr, Nat.sub_self]
  rw [List.drop_eq_getElem_cons (i := s + x) (by omega), List.set_cons_zero]
  simp only [List.append_assoc, List.cons_append, List.nil_append, Nat.add_assoc]
theorem cP_take (l : List (Int × Int)) : ∀ k, (cP l).take (k * 2) = cP (l.take k) := by
  induction l with
  | nil => intro k; simp [cP]
  | cons c l ih =>
    intro k
    cases k with
    | zero => simp [cP]
    | succ k => rw [cP_cons, Nat.add_mul, Nat.one_mul, List.take_succ_cons, List.take_succ_cons, List.take_succ_cons, cP_cons, ih]
theorem cP_drop (l : List (Int × Int)) : ∀ k, (cP l).drop (k * 2) = cP (l.drop k) := by
  induction l with
  | nil => intro k; simp [cP]
  | cons c l ih =>
    intro k
    cases k with
    | zero => simp
    | succ k => rw [cP_cons, Nat.add_mul, Nat.one_mul, List.drop_succ_cons, List.drop_succ_cons, List.drop_succ_cons, ih]
theorem cP_paste (l : List (Int × Int)) (s : Nat) (r : List (Int × Int)) : cP (paste l s r) = (cP l).take (s * 2) ++ cP r ++ (cP l).drop (s * 2 + (cP r).length) := by
  unfold paste
  rw [cP_app, cP_app, cP_take, cP_len, ← Nat.add_mul, cP_drop]
/-- An owned row of cells into which a row was copied. -/
theorem own_paste {w : World} {lo g n cap s : Nat} {e : TypeId} {l r : List (Int × Int)} {cur : Array Value} (ho : w.ownsRow lo e 2 (.slice (some ⟨g, 0, none⟩) n cap) n (cP l)) (hg : w.heap[g]? = some (.cells cur e (0, 0))) (h : s + r.length ≤ n) :
    (w.setRow g (cur.toList.take (s * 2) ++ cP r ++ cur.toList.drop (s * 2 + (cP r).length)).toArray).ownsRow lo e 2 (.slice (some ⟨g, 0, none⟩) n cap) n (cP (paste l s r)) := by
  have hl : l.length = n := by have := ho.1; rw [cP_len] at this; omega
  refine ⟨by rw [cP_len, paste_len _ _ _ (by omega), hl], ?_⟩
  rcases ho.2 with ⟨h1, _⟩ | ⟨g', cap', cur', hv, hlo, hg', hc, hm, hsz, ht⟩
  · cases h1
  · obtain ⟨rfl, rfl⟩ : g = g' ∧ cap = cap' := by injection hv with a b c; injection a with a; injection a with a1; exact ⟨a1, c⟩
    obtain rfl : cur = cur' := by have := hg.symm.trans hg'; injection this with this; injection this
    have hcs : cur.toList.length = cap * 2 := by rw [Array.length_toList]; exact hsz
    have hrl : (cP r).length = r.length * 2 := cP_len r
    refine .inr ⟨g, cap, _, rfl, hlo, setRow_heap w g cur _ e _ hg, hc, hm, ?_, ?_⟩
    · rw [List.size_toArray, List.length_append, List.length_append, List.length_take, List.length_drop, hcs, hrl]; omega
    · rw [cP_paste, ← ht]
      show List.take (n * 2) (cur.toList.take (s * 2) ++ cP r ++ cur.toList.drop (s * 2 + (cP r).length)) = _
      have ha : (cur.toList.take (s * 2) ++ cP r).length = s * 2 + (cP r).length := by rw [List.length_append, List.length_take, hcs]; omega
      rw [List.take_append, ha, List.take_of_length_le (l := cur.toList.take (s * 2) ++ cP r) (by rw [ha, hrl]; omega), List.take_take, Nat.min_eq_left (by omega), List.drop_take]
theorem run_copy2 {P : Program} {w : World} (dT sT ty elem : TypeId) (hu : P.underlying dT = some (.slice elem)) (hsz : (P.info? elem).map (·.size) = some 2)
    (g off dLen dCap : Nat) (ad : Addr) (sLen sCap : Nat) (cur : Array Value) (t : TypeId) (hg : w.heap[g]? = some (.cells cur t (0, 0))) (k : Nat) (hk : k = Nat.min sLen dLen) (cs : List Value) (hn : cs.length = k * 2) (hsrc : ∀ j v, cs[j]? = some v → w.cell? (ad.add j) = some v)
    (hfit : off + cs.length ≤ cur.size) (h1 : ∀ v ∈ cs, v.oneCell' = true) :
    (Builtin.copy_ #[dT, sT] ty #[.slice (some ⟨g, off, none⟩) dLen dCap, .slice (some ad) sLen sCap]).run P w = .ok (goInt k) (w.setRow g (cur.toList.take off ++ cs ++ cur.toList.drop (off + cs.length)).toArray) := by
  have hl := run_loadCells_list (P := P) w ad cs hsrc
  have hst := run_storeCells_at P g off t cs 0 cur w hg (by simpa using hfit) h1
  cases hq : P.info? elem with
  | none => simp [hq] at hsz
  | some i =>
    have hi : i.size = 2 := by simpa [hq] using hsz
    simp [Builtin.copy_, run_underlying hu, Builtin.lenOf, Builtin.firstCells, sizeOf, typeInfo, hq, hi, ← hk, ← hn, hl, hst]
/-- The cells of the new size after k rows. -/
def rz (l : List (Int × Int)) (W W2 p : Nat) : Nat → List (Int × Int)
  | 0 => List.replicate p (32, 0)
  | k + 1 => paste (rz l W W2 p k) (k * W2) ((l.drop (k * W)).take (min W W2))
theorem row_fits (k W2 H2 : Nat) (h : k < H2) : k * W2 + W2 ≤ W2 * H2 := by
  have : (k + 1) * W2 ≤ H2 * W2 := Nat.mul_le_mul_right W2 (by omega)
  rw [Nat.add_mul, Nat.one_mul, Nat.mul_comm H2 W2] at this; exact this
theorem rz_len (l : List (Int × Int)) (W W2 H2 p : Nat) (hp : p = W2 * H2) : ∀ k, k ≤ H2 → (rz l W W2 p k).length = p
  | 0, _ => by simp [rz]
  | k + 1, h => by
    have ih := rz_len l W W2 H2 p hp k (by omega)
    have hf := row_fits k W2 H2 (by omega)
    unfold rz
    rw [paste_len _ _ _ (by rw [ih, List.length_take]; omega), ih]
end Go.Proofs.Yteeklocaaidimaa
