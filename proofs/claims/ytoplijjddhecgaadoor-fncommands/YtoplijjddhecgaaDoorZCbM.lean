/- The bytes of a command. Plain mathematics. -/
import Derived.Test.YtoplijjddhecgaaDoorZG2
import Derived.Test.YtoplijjddhecgaaDoorZG5
import Derived.Test.YtoplijjddhecgaaDoorZG6
import Derived.Test.YtoplijjddhecgaaDoorZG8
namespace Go.Proofs.YtoplijjddhecgaaDoor
open Go.ChangeShapes Go.WideShapes Go.ChangeAt Go.RowKit
set_option linter.unusedVariables false
def bitI (r : Bool) : Int := if r then 1 else 0
def cbN (k cl sq p n ep : Int) (r : Bool) : List Int := [k, cl, sq, p, n + 1000, ep, bitI r]
def cbF (k cl sq p n ep : Int) (r : Bool) (nm dt : ByteArray) : List ByteArray := [⟨(numsL (cbN k cl sq p n ep r)).toArray⟩, nm, dt]
def cbL (k cl sq p n ep : Int) (r : Bool) (nm dt : ByteArray) : List UInt8 := be 3 1 ++ fieldsL (cbF k cl sq p n ep r nm dt)
def cbV (ok : Bool) (k cl sq p n ep : Int) (r : Bool) (nm dt : ByteArray) : List UInt8 := if ok then cbL k cl sq p n ep r nm dt else []
def cbC (ok : Bool) : Int := if ok then 0 else 1
theorem emp_size {s : ByteArray} (h : s.toList = (⟨#[]⟩ : ByteArray).toList) : s.size = 0 := by
  rw [ByteArray.toList_eq, ByteArray.toList_eq] at h
  have h2 : s.data.toList.length = 0 := by rw [h]; rfl
  have h3 : s.size = s.data.toList.length := by rw [Array.length_toList]; rfl
  omega
theorem jst_parts {p n ep : Int} {r : Bool} {nm dt : ByteArray} {p2 n2 ep2 : Int} {r2 : Bool} {nm2 dt2 : ByteArray} (h : jst p n ep r nm dt p2 n2 ep2 r2 nm2 dt2 = true) : p = p2 ∧ n = n2 ∧ ep = ep2 ∧ r = r2 ∧ nm.toList = nm2.toList ∧ dt.toList = dt2.toList := of_decide_eq_true h
theorem in_parts {x a b : Int} (h : inB x a b = true) : a ≤ x ∧ x ≤ b := of_decide_eq_true h
theorem wn_parts {s : ByteArray} (h : wnB s = true) : s.size ≤ 12 := by
  unfold wnB at h; rw [Bool.and_eq_true] at h; exact of_decide_eq_true h.1
theorem sz_parts {x y : Int} (h : sizeB x y = true) : 2 ≤ x ∧ x ≤ 24 ∧ 2 ≤ y ∧ y ≤ 10 := of_decide_eq_true h
theorem cmd_parts {k cl sq p n ep : Int} {r : Bool} {nm dt : ByteArray} (h : cmdB k cl sq p n ep r nm dt = true) : (1 ≤ k ∧ k ≤ 8) ∧ (0 ≤ cl ∧ cl ≤ 200) ∧ (1 ≤ sq ∧ sq ≤ 60000) ∧ (0 ≤ p ∧ p ≤ 1000) ∧ (-100 ≤ n ∧ n ≤ 200) ∧ (0 ≤ ep ∧ ep ≤ 60000) ∧ nm.size ≤ 12 ∧ dt.size ≤ 200 := by
  unfold cmdB at h
  rw [Bool.and_eq_true, Bool.and_eq_true] at h
  obtain ⟨h1, h2, h⟩ := h
  have h1 := in_parts h1
  have h2 := in_parts h2
  unfold kindB at h
  split at h
  · rename_i e; unfold isWindowB at h; rw [Bool.and_eq_true] at h; have a := jst_parts h.1; have b := wn_parts h.2; have c := emp_size a.2.2.2.2.2; omega
  split at h
  · rename_i e; unfold isSplitB at h; rw [Bool.and_eq_true] at h; have a := jst_parts h.1; have b := in_parts h.2; have c := emp_size a.2.2.2.2.2; have d := emp_size a.2.2.2.2.1; omega
  split at h
  · rename_i e; unfold isKillB at h; rw [Bool.and_eq_true] at h; have a := jst_parts h.1; have b := in_parts h.2; have c := emp_size a.2.2.2.2.2; have d := emp_size a.2.2.2.2.1; omega
  split at h
  · rename_i e; unfold isMoveB at h; rw [Bool.and_eq_true, Bool.and_eq_true] at h; have a := jst_parts h.1; have b := in_parts h.2.1; have b2 := in_parts h.2.2; have c := emp_size a.2.2.2.2.2; have d := emp_size a.2.2.2.2.1; omega
  split at h
  · rename_i e; unfold isOutputB at h; rw [Bool.and_eq_true, Bool.and_eq_true, Bool.and_eq_true] at h; have a := jst_parts h.1; have b := in_parts h.2.1; have b2 := in_parts h.2.2.1; have b3 := in_parts h.2.2.2; have d := emp_size a.2.2.2.2.1; omega
  split at h
  · rename_i e; unfold isOwnB at h; rw [Bool.and_eq_true, Bool.and_eq_true] at h; have a := jst_parts h.1; have b := in_parts h.2.1; have b2 := in_parts h.2.2; have c := emp_size a.2.2.2.2.2; have d := emp_size a.2.2.2.2.1; omega
  split at h
  · rename_i e; unfold isResizeB at h; rw [Bool.and_eq_true] at h; have a := jst_parts h.1; have b := sz_parts h.2; have c := emp_size a.2.2.2.2.2; have d := emp_size a.2.2.2.2.1; omega
  split at h
  · rename_i e; unfold isRenameB at h; rw [Bool.and_eq_true, Bool.and_eq_true] at h; have a := jst_parts h.1; have b := wn_parts h.2.1; have b2 := wn_parts h.2.2; omega
  · cases h
theorem cb_fit {k cl sq p n ep : Int} {r : Bool} {nm dt : ByteArray} (h : cmdB k cl sq p n ep r nm dt = true) : allFit (cbN k cl sq p n ep r) := by
  rw [← fitB_iff]
  have := cmd_parts h
  unfold fitB cbN bitI
  cases r <;> simp <;> omega
theorem cb_sizes {k cl sq p n ep : Int} {r : Bool} {nm dt : ByteArray} (h : cmdB k cl sq p n ep r nm dt = true) : ∀ x ∈ cbF k cl sq p n ep r nm dt, x.size ≤ 200 := by
  have := cmd_parts h
  intro x hx
  unfold cbF at hx
  simp only [List.mem_cons, List.not_mem_nil, or_false] at hx
  rcases hx with rfl | rfl | rfl
  · rw [mk_size, numsL_len]; simp [cbN]
  · omega
  · omega
theorem cb_len (ok : Bool) (k cl sq p n ep : Int) (r : Bool) (nm dt : ByteArray) (h : ok = cmdB k cl sq p n ep r nm dt) : (cbV ok k cl sq p n ep r nm dt).length ≤ 1048576 := by
  cases ok
  · simp [cbV]
  · have h1 := fieldsL_le _ 200 (cb_sizes h.symm)
    have h2 : (cbF k cl sq p n ep r nm dt).length = 3 := rfl
    rw [h2] at h1
    unfold cbV cbL
    rw [if_pos rfl, List.length_append, be_len]
    omega
end Go.Proofs.YtoplijjddhecgaaDoor
