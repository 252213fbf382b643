/- The contracts of FnHash's road, at a hash. -/
import Derived.Test.YthcibojpeamocaaDoorHashBack
namespace Go.Proofs.YthcibojpeamocaaDoor
open Go.ChangeShapes Go.WideShapes Go.ChangeAt Go.RowKit
theorem textH (H T : ByteArray) (h : H.size = 32) (hT : T = ⟨(hexL H.data.toList).toArray⟩) (w : World) :
    Calls Tryd.prog 8 #[.string H] w fun e w' => e = .returned (.tuple #[.string T, .int .i64 0]) ∧ Below w.heap.size w w' := by
  refine (text8 H (by omega) w).mono ?_
  rintro e w' ⟨rfl, hb⟩
  have f := fault_ok (s := H) ⟨(hexL H.data.toList).toArray⟩ h
  exact ⟨by rw [f.1, show txtS H = T from by rw [hT]; exact f.2], hb⟩
theorem readH (H T : ByteArray) (h : H.size = 32) (hT : T = ⟨(hexL H.data.toList).toArray⟩) (w : World) :
    Calls Tryd.prog 9 #[.string T] w fun e w' => e = .returned (.tuple #[.string H, .int .i64 0]) ∧ Below w.heap.size w w' := by
  have hl : H.data.toList.length = 32 := by rw [Array.length_toList]; exact h
  have hs : T.size = 64 := by rw [hT]; show (hexL H.data.toList).toArray.size = 64; rw [List.size_toArray, hexL_len, hl]
  refine (read7 T (by omega) w).mono ?_
  rintro e w' ⟨rfl, hb⟩
  have f := read_back H.data.toList hl
  rw [hT]
  exact ⟨by rw [f.1, f.2], hb⟩
theorem bitsH (H B : ByteArray) (h : H.size = 32) (hB : B = ⟨(bitsL H.data.toList).toArray⟩) (w : World) :
    Calls Tryd.prog 10 #[.string H] w fun e w' => e = .returned (.tuple #[.string B, .int .i64 0]) ∧ Below w.heap.size w w' := by
  refine (bits13 H (by omega) w).mono ?_
  rintro e w' ⟨rfl, hb⟩
  have f := fault_ok (s := H) ⟨(bitsL H.data.toList).toArray⟩ h
  exact ⟨by rw [f.1, show bitS H = B from by rw [hB]; exact f.2], hb⟩
theorem sizesH (H : ByteArray) (h : H.size = 32) : (⟨(hexL H.data.toList).toArray⟩ : ByteArray).size = 64 ∧ (⟨(bitsL H.data.toList).toArray⟩ : ByteArray).size = 256 := by
  have hl : H.data.toList.length = 32 := by rw [Array.length_toList]; exact h
  refine ⟨?_, ?_⟩
  · show (hexL H.data.toList).toArray.size = 64; rw [List.size_toArray, hexL_len, hl]
  · show (bitsL H.data.toList).toArray.size = 256; rw [List.size_toArray, bitsL_len, hl]
theorem ihashH (H : ByteArray) (a : Option Addr) (cap : Nat) (l : List UInt8) (hH : H = shaA l) (hl : l.length ≤ 1048576) (w : World) (hr : Row8 w a l) (hk : KIn w) :
    Calls Tryd.prog 7 #[.slice a l.length cap] w fun e w' => e = .returned (.string H) ∧ Below w.heap.size w w' := by rw [hH]; exact ihashA a cap l hl w hr hk
theorem shashH (H : ByteArray) (a : Option Addr) (cap : Nat) (l : List UInt8) (hH : H = shaA l) (hl : l.length ≤ 1048576) (w : World) (hr : Row8 w a l) :
    Calls Tryd.prog 11 #[.slice a l.length cap] w fun e w' => e = .returned (.string H) ∧ Below w.heap.size w w' := by rw [hH]; exact shashA a cap l hl w hr
end Go.Proofs.YthcibojpeamocaaDoor
