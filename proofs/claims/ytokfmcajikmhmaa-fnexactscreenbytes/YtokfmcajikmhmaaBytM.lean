/- A screen's bytes. Plain mathematics. -/
import Derived.Test.YtokfmcajikmhmaaRowI
import Derived.Test.YtokfmcajikmhmaaNumbersM
import Derived.Test.YtokfmcajikmhmaaFieldsM
namespace Go.Proofs.Ytokfmcajikmhmaa
open Go.ChangeShapes Go.WideShapes Go.ChangeAt Go.RowKit
set_option linter.unusedVariables false
def rowsL (W : Nat) (l : List (Int × Int)) (k : Nat) : List ByteArray := (List.range k).map fun y => (⟨(rowB ((l.drop (y * W)).take W)).toArray⟩ : ByteArray)
theorem rowsL_snoc (W : Nat) (l : List (Int × Int)) (k : Nat) : rowsL W l (k + 1) = rowsL W l k ++ [⟨(rowB ((l.drop (k * W)).take W)).toArray⟩] := by unfold rowsL; rw [List.range_succ, List.map_append]; rfl
theorem rowsL_len (W : Nat) (l : List (Int × Int)) (k : Nat) : (rowsL W l k).length = k := by simp [rowsL]
def head3 (ns : List Int) (t : ByteArray) (m : List ByteArray) : List ByteArray := [⟨(numsL ns).toArray⟩, t, ⟨(be m.length 1 ++ fieldsL m).toArray⟩]
def sbF (ns : List Int) (t : ByteArray) (m : List ByteArray) (W : Nat) (l : List (Int × Int)) (k : Nat) : List ByteArray := head3 ns t m ++ rowsL W l k
theorem sbF_len (ns : List Int) (t : ByteArray) (m : List ByteArray) (W : Nat) (l : List (Int × Int)) (k : Nat) : (sbF ns t m W l k).length = 3 + k := by unfold sbF head3; rw [List.length_append, rowsL_len]; simp
theorem sbF_snoc (ns : List Int) (t : ByteArray) (m : List ByteArray) (W : Nat) (l : List (Int × Int)) (k : Nat) : sbF ns t m W l (k + 1) = sbF ns t m W l k ++ [⟨(rowB ((l.drop (k * W)).take W)).toArray⟩] := by unfold sbF; rw [rowsL_snoc, List.append_assoc]
def sbL (ns : List Int) (t : ByteArray) (m : List ByteArray) (W : Nat) (l : List (Int × Int)) (H : Nat) : List UInt8 := be (3 + H) 1 ++ fieldsL (sbF ns t m W l H)
theorem fieldsL_app (l m : List ByteArray) : fieldsL (l ++ m) = fieldsL l ++ fieldsL m := by simp [fieldsL]
theorem fieldsL_le (l : List ByteArray) (c : Nat) (h : ∀ x ∈ l, x.size ≤ c) : (fieldsL l).length ≤ (2 + c) * l.length := by
  induction l with
  | nil => simp [fieldsL]
  | cons x l ih =>
    have h1 := ih (fun y hy => h y (List.mem_cons_of_mem _ hy))
    have h2 := h x (List.mem_cons_self ..)
    have e : fieldsL (x :: l) = fieldB x ++ fieldsL l := rfl
    rw [e, List.length_append, fieldB_len, List.length_cons, Nat.mul_add, Nat.mul_one]
    omega
theorem mk_size (l : List UInt8) : (⟨l.toArray⟩ : ByteArray).size = l.length := by simp [ByteArray.size]
/-- What a right screen's numbers, title and history are. -/
theorem ok_more {i0 i1 i2 i3 i4 i5 i6 i7 i8 : Int} {t : List UInt8} {l : List (Int × Int)} {m : List ByteArray} (h : okB i0 i1 i2 i3 i4 i5 i6 i7 i8 t l m = true) : allFit [i0, i1, i2, i3, i4, i5, i6, i7, i8] ∧ t.length ≤ 40 ∧ m.length ≤ 6 ∧ ∀ x ∈ m, x.size ≤ 96 := by
  unfold okB at h
  simp only [Bool.and_eq_true] at h
  obtain ⟨h1, h2, h3, h4, h5, h6, _, h8⟩ := h
  have g1 : 2 ≤ i0 ∧ i0 ≤ 24 ∧ 2 ≤ i1 ∧ i1 ≤ 10 := of_decide_eq_true h1
  unfold placeB at h2 h3
  unfold areaB at h4
  rw [Bool.and_eq_true] at h2 h3 h4
  have a1 : 0 ≤ i2 ∧ i2 ≤ i0 := of_decide_eq_true h2.1
  have a2 : 0 ≤ i3 ∧ i3 ≤ i1 - 1 := of_decide_eq_true h2.2
  have a3 : 0 ≤ i7 ∧ i7 ≤ i0 := of_decide_eq_true h3.1
  have a4 : 0 ≤ i8 ∧ i8 ≤ i1 - 1 := of_decide_eq_true h3.2
  have a5 : 0 ≤ i5 ∧ i5 ≤ i1 - 2 := of_decide_eq_true h4.1
  have a6 : i5 + 1 ≤ i6 ∧ i6 ≤ i1 - 1 := of_decide_eq_true h4.2
  have a7 : 0 ≤ i4 ∧ i4 ≤ 127 := of_decide_eq_true h5
  unfold titleB at h6
  rw [Bool.and_eq_true] at h6
  unfold histB at h8
  rw [Bool.and_eq_true] at h8
  refine ⟨fun k hk => ?_, of_decide_eq_true h6.1, of_decide_eq_true h8.1, fun x hx => of_decide_eq_true (List.all_eq_true.1 h8.2 x hx)⟩
  unfold fitsN
  match k, hk with
  | 0, _ => exact ⟨by show -1 ≤ i0; omega, by show i0 ≤ 16777214; omega⟩
  | 1, _ => exact ⟨by show -1 ≤ i1; omega, by show i1 ≤ 16777214; omega⟩
  | 2, _ => exact ⟨by show -1 ≤ i2; omega, by show i2 ≤ 16777214; omega⟩
  | 3, _ => exact ⟨by show -1 ≤ i3; omega, by show i3 ≤ 16777214; omega⟩
  | 4, _ => exact ⟨by show -1 ≤ i4; omega, by show i4 ≤ 16777214; omega⟩
  | 5, _ => exact ⟨by show -1 ≤ i5; omega, by show i5 ≤ 16777214; omega⟩
  | 6, _ => exact ⟨by show -1 ≤ i6; omega, by show i6 ≤ 16777214; omega⟩
  | 7, _ => exact ⟨by show -1 ≤ i7; omega, by show i7 ≤ 16777214; omega⟩
  | 8, _ => exact ⟨by show -1 ≤ i8; omega, by show i8 ≤ 16777214; omega⟩
  | k + 9, hk => exfalso; simp only [List.length_cons, List.length_nil] at hk; omega
/-- The sizes of a right screen's fields. -/
theorem sbF_sizes (ns : List Int) (t : ByteArray) (m : List ByteArray) (W : Nat) (l : List (Int × Int)) (k : Nat) (hns : ns.length ≤ 9) (ht : t.size ≤ 40) (hm : m.length ≤ 6) (hms : ∀ x ∈ m, x.size ≤ 96) (hW : W ≤ 24) : ∀ x ∈ sbF ns t m W l k, x.size ≤ 600 := by
  intro x hx
  unfold sbF head3 at hx
  rcases List.mem_append.1 hx with h | h
  · simp only [List.mem_cons, List.not_mem_nil, or_false] at h
    rcases h with rfl | rfl | rfl
    · rw [mk_size, numsL_len]; omega
    · omega
    · rw [mk_size, List.length_append, be_len]; have := fieldsL_le m 96 hms; have : (2 + 96) * m.length ≤ 98 * 6 := Nat.mul_le_mul (Nat.le_refl _) hm; omega
  · unfold rowsL at h
    obtain ⟨y, _, rfl⟩ := List.mem_map.1 h
    rw [mk_size, rowB_len, List.length_take]; omega
theorem short_of {l : List ByteArray} {c : Nat} (h : ∀ x ∈ l, x.size ≤ c) (hc : c ≤ 20000) : allShort l := fun k hk => Nat.le_trans (h _ (List.getElem_mem hk)) hc
theorem fsum_of {l : List ByteArray} {c n : Nat} (h : ∀ x ∈ l, x.size ≤ c) (hn : l.length ≤ n) (hc : (2 + c) * n ≤ 65535) : ¬ 65536 < fsum l := by
  unfold fsum
  have h1 := fieldsL_le l c h
  have h2 : (2 + c) * l.length ≤ (2 + c) * n := Nat.mul_le_mul (Nat.le_refl _) hn
  omega
/-- What ScreenBytes answers. -/
def sbV (ok : Bool) (i0 i1 i2 i3 i4 i5 i6 i7 i8 : Int) (t : ByteArray) (l : List (Int × Int)) (m : List ByteArray) : List UInt8 := if ok then sbL [i0, i1, i2, i3, i4, i5, i6, i7, i8] t m i0.toNat l i1.toNat else []
def sbC (ok : Bool) : Int := if ok then 0 else 1
end Go.Proofs.Ytokfmcajikmhmaa
