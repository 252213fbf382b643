/- Records written: the bytes. Plain mathematics. -/
import Derived.Test.YtgbbmonkhakjnaaDoorFrmR
import Derived.Test.YtgbbmonkhakjnaaDoorFrmU
import Derived.Test.YtgbbmonkhakjnaaDoorStoM
namespace Go.Proofs.YtgbbmonkhakjnaaDoor
open Go.ChangeShapes Go.WideShapes Go.ChangeAt Go.RowKit
set_option linter.unusedVariables false
def wrL (l : List ByteArray) : List UInt8 := l.flatMap fun t => frmB t.data.toList
def wrD (d : ByteArray) (l : List ByteArray) : ByteArray := ⟨(d.data.toList ++ wrL l).toArray⟩
def rokB (l : List ByteArray) : Bool := l.all fun t => inB (t.size : Int) 1 1000
theorem rok_iff (l : List ByteArray) : rokB l = true ↔ ∀ k (h : k < l.length), inB (l[k].size : Int) 1 1000 = true := by
  unfold rokB; rw [List.all_eq_true]
  constructor
  · intro h k hk; exact h _ (List.getElem_mem hk)
  · intro h x hx; obtain ⟨k, hk, rfl⟩ := List.mem_iff_getElem.1 hx; exact h k hk
theorem rok_no {l : List ByteArray} {k : Nat} (hk : k < l.length) (h : inB (l[k].size : Int) 1 1000 = false) : rokB l = false := by
  cases hh : rokB l with
  | false => rfl
  | true => rw [(rok_iff l).1 hh k hk] at h; cases h
theorem wrL_snoc (l : List ByteArray) (k : Nat) (h : k < l.length) : wrL (l.take (k + 1)) = wrL (l.take k) ++ frmB l[k].data.toList := by
  unfold wrL; rw [List.take_add_one, List.getElem?_eq_getElem h, List.flatMap_append]; simp
theorem wrL_step (l : List ByteArray) (k : Nat) (h : k < l.length) : (wrL (l.take (k + 1))).length = (wrL (l.take k)).length + (7 + l[k].size) := by
  rw [wrL_snoc l k h, List.length_append, frmB_len, sizeT]
theorem wrL_all (l : List ByteArray) (k : Nat) (h : l.length ≤ k) : wrL (l.take k) = wrL l := by rw [List.take_of_length_le h]
def WrIs (d : ByteArray) (s : Int) (l : List ByteArray) (d2 : ByteArray) (s2 c : Int) : Prop :=
  (4096 < l.length ∧ d2 = ⟨#[]⟩ ∧ s2 = 0 ∧ c = 2) ∨ (l.length ≤ 4096 ∧ stoB d s = false ∧ d2 = ⟨#[]⟩ ∧ s2 = 0 ∧ c = 1) ∨ (l.length ≤ 4096 ∧ stoB d s = true ∧ rokB l = false ∧ d2 = ⟨#[]⟩ ∧ s2 = 0 ∧ c = 4) ∨
  (l.length ≤ 4096 ∧ stoB d s = true ∧ rokB l = true ∧ 60000 < d.size + (wrL l).length ∧ d2 = d ∧ s2 = s ∧ c = 7) ∨ (l.length ≤ 4096 ∧ stoB d s = true ∧ rokB l = true ∧ d.size + (wrL l).length ≤ 60000 ∧ d2 = wrD d l ∧ s2 = s ∧ c = 0)
theorem wr_ex (d : ByteArray) (s : Int) (l : List ByteArray) : ∃ d2 s2 c, WrIs d s l d2 s2 c := by
  by_cases h : l.length ≤ 4096
  · cases h1 : stoB d s with
    | false => exact ⟨_, _, _, .inr (.inl ⟨h, h1, rfl, rfl, rfl⟩)⟩
    | true => cases h2 : rokB l with
      | false => exact ⟨_, _, _, .inr (.inr (.inl ⟨h, h1, h2, rfl, rfl, rfl⟩))⟩
      | true =>
        by_cases h3 : d.size + (wrL l).length ≤ 60000
        · exact ⟨_, _, _, .inr (.inr (.inr (.inr ⟨h, h1, h2, h3, rfl, rfl, rfl⟩)))⟩
        · exact ⟨_, _, _, .inr (.inr (.inr (.inl ⟨h, h1, h2, by omega, rfl, rfl, rfl⟩)))⟩
  · exact ⟨_, _, _, .inl ⟨by omega, rfl, rfl, rfl⟩⟩
theorem in_bounds {n : Nat} (h : inB (n : Int) 1 1000 = true) : 1 ≤ n ∧ n ≤ 1000 := by
  have := of_decide_eq_true h; omega
end Go.Proofs.YtgbbmonkhakjnaaDoor
