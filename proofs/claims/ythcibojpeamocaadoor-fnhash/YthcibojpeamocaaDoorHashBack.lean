/- A hash is read back from its digits: the plain mathematics. -/
import Derived.Test.YthcibojpeamocaaDoorHash
import Derived.Test.YthcibojpeamocaaDoorHashTextI
import Derived.Test.YthcibojpeamocaaDoorHashBitsI
import Derived.Test.YthcibojpeamocaaDoorReadHashI
import Derived.Test.YthcibojpeamocaaDoorCrc
namespace Go.Proofs.YthcibojpeamocaaDoor
open Go.ChangeShapes Go.WideShapes Go.ChangeAt Go.RowKit
theorem nib_dig : ∀ n : Fin 16, nib ((hexDig n.val).toNat : Int) = (n.val : Int) := by decide
theorem hexL_at (l : List UInt8) (j : Nat) (h : j < l.length) : (hexL l)[2 * j]? = some (hexDig (l[j].toNat / 16)) ∧ (hexL l)[2 * j + 1]? = some (hexDig (l[j].toNat % 16)) := by
  induction l generalizing j with
  | nil => simp at h
  | cons c l ih =>
    cases j with
    | zero => exact ⟨rfl, rfl⟩
    | succ j =>
      have := ih j (by simpa using h)
      have e : hexL (c :: l) = hexDig (c.toNat / 16) :: hexDig (c.toNat % 16) :: hexL l := rfl
      rw [e, show 2 * (j + 1) = 2 * j + 1 + 1 from by omega]
      simpa using this
theorem bAt_list (l : List UInt8) (i : Nat) (c : UInt8) (h : l[i]? = some c) : bAt ⟨l.toArray⟩ i = (c.toNat : Int) := by
  obtain ⟨hl, he⟩ := List.getElem?_eq_some_iff.1 h
  have hs : i < (⟨l.toArray⟩ : ByteArray).size := by show i < l.toArray.size; simpa using hl
  rw [← bAt_of _ i hs]
  have : (⟨l.toArray⟩ : ByteArray)[i] = c := by show l.toArray[i]'(by simpa using hl) = c; simpa using he
  rw [this]
theorem back_at (l : List UInt8) (j : Nat) (h : j < l.length) : nib (bAt ⟨(hexL l).toArray⟩ (2 * j)) = ((l[j].toNat / 16 : Nat) : Int) ∧ nib (bAt ⟨(hexL l).toArray⟩ (2 * j + 1)) = ((l[j].toNat % 16 : Nat) : Int) := by
  have hc := l[j].toNat_lt
  obtain ⟨h1, h2⟩ := hexL_at l j h
  rw [bAt_list _ _ _ h1, bAt_list _ _ _ h2]
  exact ⟨nib_dig ⟨l[j].toNat / 16, by omega⟩, nib_dig ⟨l[j].toNat % 16, by omega⟩⟩
theorem read_back (l : List UInt8) (h : l.length = 32) : rdC ⟨(hexL l).toArray⟩ = 0 ∧ rdS ⟨(hexL l).toArray⟩ = ⟨l.toArray⟩ := by
  have hsz : (⟨(hexL l).toArray⟩ : ByteArray).size = 64 := by show (hexL l).toArray.size = 64; simp [hexL_len, h]
  have hall : rdAll ⟨(hexL l).toArray⟩ := ⟨hsz, fun j hj => by
    obtain ⟨h1, h2⟩ := back_at l j (by omega)
    exact ⟨by rw [h1]; omega, by rw [h2]; omega⟩⟩
  obtain ⟨r1, r2⟩ := rd_ok hall
  refine ⟨r1, r2.trans ?_⟩
  have e : rdL ⟨(hexL l).toArray⟩ 32 = l := by
    apply List.ext_getElem?
    intro j
    by_cases hj : j < 32
    · obtain ⟨h1, h2⟩ := back_at l j (by omega)
      have hb : byteOf ⟨(hexL l).toArray⟩ j = l[j] := by
        unfold byteOf
        rw [h1, h2]
        apply UInt8.toNat_inj.1
        rw [UInt8.toNat_ofNat']
        have := l[j].toNat_lt
        omega
      unfold rdL
      rw [List.getElem?_map, List.getElem?_range hj, Option.map_some, hb, List.getElem?_eq_getElem (by omega)]
    · rw [List.getElem?_eq_none (by rw [rdL_len]; omega), List.getElem?_eq_none (by omega)]
  rw [e]
theorem hashB_size (r : R8) : (hashB r).size = 32 := by
  show (textL r.l).toArray.size = 32
  rw [List.size_toArray, textL_len]; rfl
end Go.Proofs.YthcibojpeamocaaDoor
