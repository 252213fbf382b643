/- Texts put together: Info HexM. -/
import Derived.Test.YtcgklaplofnemaaDoorZBase
/- The table's row of a byte. -/
namespace Go.Proofs.YtcgklaplofnemaaDoor
theorem Tryd.info5 : (Tryd.prog.info? 5).map (fun i => (i.zero, i.size, i.bytes)) = some (some (.int .u8 0), 1, 1) := by kernel_rfl
end Go.Proofs.YtcgklaplofnemaaDoor

/- Hashes as digits: the plain mathematics. -/
namespace Go.Proofs.YtcgklaplofnemaaDoor
open Go.ChangeShapes Go.WideShapes Go.ChangeAt Go.RowKit

def hexDig (n : Nat) : UInt8 := if n < 10 then UInt8.ofNat (48 + n) else UInt8.ofNat (87 + n)

def hexTwo (c : UInt8) : List UInt8 := [hexDig (c.toNat / 16), hexDig (c.toNat % 16)]

def hexL (l : List UInt8) : List UInt8 := l.flatMap hexTwo

theorem hexL_len (l : List UInt8) : (hexL l).length = 2 * l.length := by
  induction l with
  | nil => rfl
  | cons c l ih => simp [hexL, hexTwo] at *; omega

def hexs : ByteArray := ⟨#[48, 49, 50, 51, 52, 53, 54, 55, 56, 57, 97, 98, 99, 100, 101, 102]⟩

theorem hex_fin : ∀ m : Fin 16, hexs[m.val]'m.isLt = hexDig m.val := by decide

theorem hex_get (m : Nat) (h : m < hexs.size) : hexs[m]'h = hexDig m := hex_fin ⟨m, h⟩

theorem hexL_snoc (s : ByteArray) (k : Nat) (h : k < s.size) : hexL (s.data.toList.take (k + 1)) = hexL (s.data.toList.take k) ++ hexTwo s[k] := by
  rw [take_snoc s k h]; simp [hexL]

theorem hex_rel {s : ByteArray} {k : Nat} (h : k < s.size) {w wr w1 : World} {o : Obj} {v v' : Value} {e : TypeId}
    (hown : wr.ownsRow w.heap.size e 1 v (hexL (s.data.toList.take k)).length (B8 (hexL (s.data.toList.take k)))) (hb : Below w.heap.size w wr)
    (hown1 : w1.ownsRow w.heap.size e 1 v' ((hexL (s.data.toList.take k)).length + 2) (B8 (hexL (s.data.toList.take k)) ++ B8 (hexTwo s[k])))
    (hgrow : (wr.alloc o).drew.grownBy w1 v.ownBlock) :
    w1.ownsRow w.heap.size e 1 v' (hexL (s.data.toList.take (k + 1))).length (B8 (hexL (s.data.toList.take (k + 1)))) ∧ Below w.heap.size w w1 := by
  rw [hexL_snoc s k h, B8_app, List.length_append]
  exact ⟨hown1, ((hb.alloc hb.size o).drew).grown hgrow (by have := hb.size; simp; omega) fun j hj => (hown.lt j hj).1⟩
end Go.Proofs.YtcgklaplofnemaaDoor
