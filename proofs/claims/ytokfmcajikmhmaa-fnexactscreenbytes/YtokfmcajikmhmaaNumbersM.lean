/- Numbers as three bytes each: the plain mathematics. -/
import Derived.Test.YtokfmcajikmhmaaNumM
import Derived.Test.YtokfmcajikmhmaaIntS
namespace Go.Proofs.Ytokfmcajikmhmaa
open Go.ChangeShapes Go.WideShapes Go.ChangeAt Go.RowKit
def fitsN (x : Int) : Prop := -1 ≤ x ∧ x ≤ 16777214
def numsL (l : List Int) : List UInt8 := l.flatMap fun x => be (x + 1).toNat 3
theorem numsL_len (l : List Int) : (numsL l).length = 3 * l.length := by
  induction l with
  | nil => rfl
  | cons x l ih => unfold numsL at *; rw [List.flatMap_cons, List.length_append, be_len, ih, List.length_cons]; omega
theorem numsL_snoc (l : List Int) (k : Nat) (h : k < l.length) : numsL (l.take (k + 1)) = numsL (l.take k) ++ be (l[k] + 1).toNat 3 := by
  unfold numsL; rw [List.take_succ_eq_append_getElem h, List.flatMap_append]; simp
def fitB (l : List Int) : Bool := l.all fun x => decide (-1 ≤ x ∧ x ≤ 16777214)
def allFit (l : List Int) : Prop := ∀ k (h : k < l.length), fitsN l[k]
theorem fitB_iff (l : List Int) : fitB l = true ↔ allFit l := by
  unfold fitB allFit fitsN
  rw [List.all_eq_true]
  constructor
  · intro h k hk; exact of_decide_eq_true (h _ (List.getElem_mem hk))
  · intro h x hx
    obtain ⟨k, hk, rfl⟩ := List.getElem_of_mem hx
    exact decide_eq_true (h k hk)
def nbL (l : List Int) : List UInt8 := if 4096 < l.length then [] else if fitB l then numsL l else []
def nbC (l : List Int) : Int := if 4096 < l.length then 2 else if fitB l then 0 else 4
theorem nb_long {l : List Int} (h : 4096 < l.length) : nbL l = [] ∧ nbC l = 2 := by unfold nbL nbC; rw [if_pos h, if_pos h]; exact ⟨rfl, rfl⟩
theorem nb_ok {l : List Int} (h : ¬ 4096 < l.length) (h2 : allFit l) : nbL l = numsL l ∧ nbC l = 0 := by unfold nbL nbC; have h3 := (fitB_iff l).2 h2; rw [if_neg h, if_neg h, if_pos h3, if_pos h3]; exact ⟨rfl, rfl⟩
theorem nb_bad {l : List Int} (h : ¬ 4096 < l.length) (h2 : ¬ allFit l) : nbL l = [] ∧ nbC l = 4 := by unfold nbL nbC; have h3 : ¬ fitB l = true := fun e => h2 ((fitB_iff l).1 e); rw [if_neg h, if_neg h, if_neg h3, if_neg h3]; exact ⟨rfl, rfl⟩
theorem nbL_le (l : List Int) : (nbL l).length ≤ 12288 := by
  unfold nbL; split
  · simp
  · split
    · rw [numsL_len]; omega
    · simp
theorem fit_nat (x : Int) (h : fitsN x) : ∃ n : Nat, x = (n : Int) - 1 ∧ n ≤ 16777215 ∧ n = (x + 1).toNat := ⟨(x + 1).toNat, by unfold fitsN at h; omega, by unfold fitsN at h; omega, rfl⟩
theorem nil_own (w : World) (base : Nat) (t : TypeId) : w.ownsRow base t 1 (.slice none 0 0) ([] : List UInt8).length (B8 []) := World.ownsRow_nil w base t 1
end Go.Proofs.Ytokfmcajikmhmaa
