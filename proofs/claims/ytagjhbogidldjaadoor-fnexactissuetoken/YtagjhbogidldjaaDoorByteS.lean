/- Slices of bytes: a copy owns its memory and holds the same bytes; two rows are held against each other. -/
import Derived.Test.YtagjhbogidldjaaDoorBase
namespace Go.Proofs.YtagjhbogidldjaaDoor
open Go.ChangeShapes Go.WideShapes Go.ChangeAt Go.RowKit
theorem Tryd.inf5 : (Tryd.prog.info? 5).map (fun i => (i.zero, i.size, i.bytes)) = some (some (.int .u8 0), 1, 1) := by kernel_rfl

def fill8 (l : List UInt8) (k : Nat) : List Value := B8 (l.take k) ++ List.replicate (l.length - k) (.int .u8 0)
theorem fill8_zero (l : List UInt8) : fill8 l 0 = (madeCells (Value.int .u8 0).cells (l.length * 1)).toList := by
  show _ = (madeCells #[Value.int .u8 0] (l.length * 1)).toList
  rw [toList_madeCells_one]; simp [fill8, B8]
theorem fill8_all (l : List UInt8) (k : Nat) (h : l.length ≤ k) : fill8 l k = B8 l := by
  unfold fill8; rw [List.take_of_length_le h, show l.length - k = 0 from by omega]; simp
theorem fill8_set (l : List UInt8) (k : Nat) (h : k < l.length) : (fill8 l k).set k (.int .u8 (l[k].toNat : Int)) = fill8 l (k + 1) := by
  have e1 : (B8 (l.take k)).length = k := by rw [B8_len, List.length_take]; omega
  unfold fill8
  rw [List.set_append_right _ _ (by omega), e1, Nat.sub_self, List.take_succ_eq_append_getElem h, B8_app]
  obtain ⟨m, hm⟩ : ∃ m, l.length - k = m + 1 := ⟨l.length - k - 1, by omega⟩
  rw [hm, show l.length - (k + 1) = m from by omega]
  simp [List.replicate_succ, B8]
theorem fill8_at (l : List UInt8) (k : Nat) (h : k < l.length) : (fill8 l k)[k]? = some (.int .u8 0) := by
  have e1 : (B8 (l.take k)).length = k := by rw [B8_len, List.length_take]; omega
  unfold fill8
  rw [List.getElem?_append_right (by omega), e1, Nat.sub_self]
  obtain ⟨m, hm⟩ : ∃ m, l.length - k = m + 1 := ⟨l.length - k - 1, by omega⟩
  rw [hm]; rfl

end Go.Proofs.YtagjhbogidldjaaDoor
