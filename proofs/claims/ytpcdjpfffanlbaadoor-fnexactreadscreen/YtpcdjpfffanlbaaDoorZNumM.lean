/- Numbers as bytes, the higher ones first: what both texts write and read. -/
import Derived.Test.YtpcdjpfffanlbaaDoorZRowV
import Derived.Laws.BitsAllLaws
import Derived.Laws.BitsLemmas
namespace Go.Proofs.YtpcdjpfffanlbaaDoor
open Go.ChangeShapes Go.WideShapes Go.ChangeAt Go.RowKit

def nb (v j : Nat) : UInt8 := UInt8.ofNat (v / 256 ^ j % 256)
def be (v : Nat) : Nat → List UInt8
 | 0 => []
 | s + 1 => nb v s :: be v s
def ofBE (l : List UInt8) : Nat := l.foldl (fun n c => n * 256 + c.toNat) 0
theorem ofBE_app (l : List UInt8) (c : UInt8) : ofBE (l ++ [c]) = ofBE l * 256 + c.toNat := by unfold ofBE; rw [List.foldl_append]; rfl
theorem ofBE_snoc (l : List UInt8) (k : Nat) (h : k < l.length) : ofBE (l.take (k + 1)) = ofBE (l.take k) * 256 + l[k].toNat := by
 rw [List.take_succ_eq_append_getElem h, ofBE_app]
theorem ofBE_lt (l : List UInt8) (k : Nat) : ofBE (l.take k) < 256 ^ k := by
 induction k with
 | zero => simp [ofBE]
 | succ k ih =>
  by_cases h : k < l.length
  ·rw [ofBE_snoc l k h, Nat.pow_succ]; have := l[k].toNat_lt; omega
  ·rw [List.take_of_length_le (by omega)]; rw [List.take_of_length_le (by omega)] at ih; rw [Nat.pow_succ]; omega
theorem or_byte (n : Nat) (c : Nat) (hn : n < 4294967296) (hc : c < 256) : bits .or .i64 ((n : Int) * 256) (c : Int) = ((n * 256 + c : Nat) : Int) := by
 have h : n <<< 8 + c = n <<< 8 ||| c := Nat.shiftLeft_add_eq_or_of_lt (by omega) n
 rw [Nat.shiftLeft_eq, show (2 : Nat) ^ 8 = 256 from rfl] at h
 show IntKind.i64.wrap ((BitVec.ofInt 64 ((n : Int) * 256) ||| BitVec.ofInt 64 (c : Int)).toNat : Int) = _
 rw [show (n : Int) * 256 = ((n * 256 : Nat) : Int) from by omega, BitVec.toNat_or, ofInt_u64 (n * 256) (by omega), ofInt_u64 c (by omega), ← h, IntKind.wrap_i64]
 omega
theorem lit_empty (w : World) (base : Nat) (t : TypeId) (hb : base ≤ w.heap.size) : (w.alloc (.cells #[] t)).ownsRow base t 1 (.slice (some ⟨w.heap.size, 0, none⟩) 0 0) ([] : List UInt8).length (B8 []) :=
 World.ownsRow_lit w #[] 0 hb (by decide) rfl

end Go.Proofs.YtpcdjpfffanlbaaDoor
