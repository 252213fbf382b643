/- Texts put together: HmacM Info HexM. -/
import Derived.Test.YtilnpkonhbmdpaaDoorZSHash
import Derived.Test.YtilnpkonhbmdpaaDoorZRowV
import Derived.Lib.AppendStr
import Derived.Lib.BufferWrite
import Derived.Lib.ConvBytes
import Derived.Laws.BitsAllLaws
import Derived.Laws.BitsLemmas
import Derived.Test.YtilnpkonhbmdpaaDoorZBase
/- A keyed hash: the plain mathematics, a key's block, a text as bytes. -/
namespace Go.Proofs.YtilnpkonhbmdpaaDoor
open Go.ChangeShapes Go.WideShapes Go.ChangeAt Go.RowKit
def keyZ (k : List UInt8) : List UInt8 := k ++ List.replicate (64 - k.length) 0
def keyX (k : List UInt8) (m : UInt8) : List UInt8 := (keyZ k).map fun c => c ^^^ m
theorem keyZ_len (k : List UInt8) (h : k.length ≤ 64) : (keyZ k).length = 64 := by unfold keyZ; simp; omega
theorem keyX_len (k : List UInt8) (m : UInt8) (h : k.length ≤ 64) : (keyX k m).length = 64 := by unfold keyX; rw [List.length_map, keyZ_len k h]
def hmacK (key : ByteArray) : ByteArray := if 64 < key.size then hashB (shaR key.data.toList) else key
def hmacIn (key : ByteArray) (msg : List UInt8) : ByteArray := hashB (shaR (keyX (hmacK key).data.toList 54 ++ msg))
def hmacB (key msg : ByteArray) : ByteArray := hashB (shaR (keyX (hmacK key).data.toList 92 ++ (hmacIn key msg.data.toList).data.toList))
def hmS (key msg : ByteArray) : ByteArray := if 65536 < key.size ∨ 65536 < msg.size then ⟨#[]⟩ else hmacB key msg
def hmC (key msg : ByteArray) : Int := if 65536 < key.size ∨ 65536 < msg.size then 2 else 0
theorem hm_long {key msg : ByteArray} (h : 65536 < key.size ∨ 65536 < msg.size) : hmS key msg = ⟨#[]⟩ ∧ hmC key msg = 2 := by unfold hmS hmC; rw [if_pos h, if_pos h]; exact ⟨rfl, rfl⟩
theorem hm_ok {key msg : ByteArray} (h : ¬ 65536 < key.size) (h2 : ¬ 65536 < msg.size) : hmS key msg = hmacB key msg ∧ hmC key msg = 0 := by
  have h3 : ¬ (65536 < key.size ∨ 65536 < msg.size) := by omega
  unfold hmS hmC; rw [if_neg h3, if_neg h3]; exact ⟨rfl, rfl⟩
theorem hash_size (r : R8) : (hashB r).size = 32 := by show (textL r.l).toArray.size = 32; rw [List.size_toArray, textL_len]; rfl
theorem u8_xor (a b : UInt8) : bits .xor .u8 (a.toNat : Int) (b.toNat : Int) = ((a ^^^ b).toNat : Int) := by
  have ha := a.toNat_lt
  have hb := b.toNat_lt
  have hx : a.toNat ^^^ b.toNat < 2 ^ 8 := Nat.xor_lt_two_pow ha hb
  rw [UInt8.toNat_xor]
  show IntKind.u8.wrap ((BitVec.ofInt 8 (a.toNat : Int) ^^^ BitVec.ofInt 8 (b.toNat : Int)).toNat : Int) = _
  rw [BitVec.toNat_xor, BitVec.toNat_ofInt, BitVec.toNat_ofInt, IntKind.wrap_u8']
  rw [show ((a.toNat : Int) % ((2 ^ 8 : Nat) : Int)).toNat = a.toNat from by omega, show ((b.toNat : Int) % ((2 ^ 8 : Nat) : Int)).toNat = b.toNat from by omega]
  omega
theorem list_size (s : ByteArray) : s.data.toList.length = s.size := by rw [Array.length_toList]; rfl
/-- '[]byte(s)'. -/
theorem to_bytes (w : World) (s : ByteArray) : ∃ w' cap, (convert 9 71 (.string s)).run Tryd.prog w = .ok (.slice (some ⟨w.heap.size, 0, none⟩) s.size cap) w' ∧ Row8 w' (some ⟨w.heap.size, 0, none⟩) s.data.toList ∧ Below w.heap.size w w' := by
  refine ⟨Go.Lib.bytesWorld w 5 s, _, Go.Lib.run_convert_string_bytes w _ _ 5 s Tryd.underlying9 Tryd.underlying71 Tryd.underlying5, ?_, ?_⟩
  · refine .inr ⟨w.heap.size, 0, rfl, by rw [Go.Lib.bytesWorld_size]; omega, fun i hi => ?_⟩
    have h := Go.Lib.bytesWorld_cell w 5 s i (by rw [← list_size]; exact hi)
    rw [Nat.zero_add, h, List.getD_eq_getElem?_getD, List.getElem?_eq_getElem hi]; rfl
  · exact ⟨rfl, rfl, rfl, by rw [Go.Lib.bytesWorld_size]; omega, fun k hk => Go.Lib.bytesWorld_at_old w _ s k hk⟩
theorem wpList_copy_text {P : Program} {w : World} {ops : Array Oper} {rest : List Oper} {o : Oper} {a : Act} {Q : Exit → Act → World → Prop} (hgd : o.guard = none) (d s : Operand) (dT sT : TypeId)
    (ho : o.op = .call { callee := .builtin .copy, args := #[d, s], argTypes := #[dT, sT] }) (elem : TypeId) (hu : P.underlying dT = some (.slice elem)) (hsz : (P.info? elem).map (·.size) = some 1)
    (g dLen dCap : Nat) (x : ByteArray) (hd : a.eval d = .slice (some ⟨g, 0, none⟩) dLen dCap) (hs : a.eval s = .string x)
    (cur : List Value) (t : TypeId) (hg : ArrAt w g t cur) (hle : x.size ≤ dLen) (hfit : x.size ≤ cur.length)
    (h : ∀ w', ArrAt w' g t (B8 x.data.toList ++ cur.drop x.size) → Below g w w' → wpList P ops Q rest (a.put o.dst (goInt x.size)) w') : wpList P ops Q (o :: rest) a w := by
  refine wpList_plain hgd fun K hK => ?_
  have hrun := Go.Lib.run_copy_row_string (P := P) w dT sT o.type elem g 0 dLen dCap x cur.toArray t hu hsz hg hle (by simpa using hfit)
  unfold Oper.wp
  simp [execOp, ho, resolve, invoke, builtin, hd, hs, hrun, Result.andThen]
  refine hK _ _ (h _ ?_ (below_setRow (Below.refl g w) (Nat.le_refl _) _))
  have e : B8 x.data.toList = Go.Lib.byteCells x.data.toList := rfl
  rw [e]
  show _ = _
  have := setRow_heap w g cur.toArray (([] : List Value) ++ Go.Lib.byteCells x.data.toList ++ cur.drop x.size).toArray t (0, 0) hg
  simpa using this
theorem arr_own8 {w : World} {g n : Nat} {t : TypeId} {l : List UInt8} (h : ArrAt w g t (B8 l)) (hl : l.length = n) (hn : n ≤ maxLen) : w.ownsRow g t 1 (.slice (some ⟨g, 0, none⟩) n n) l.length (B8 l) := by
  subst hl
  exact ⟨by rw [B8_len]; omega, .inr ⟨g, l.length, (B8 l).toArray, rfl, Nat.le_refl _, h, Nat.le_refl _, hn, by simp [B8_len], by rw [List.take_of_length_le]; simp [B8_len]⟩⟩
end Go.Proofs.YtilnpkonhbmdpaaDoor

/- The table's row of a byte. -/
namespace Go.Proofs.YtilnpkonhbmdpaaDoor
theorem Tryd.info5 : (Tryd.prog.info? 5).map (fun i => (i.zero, i.size, i.bytes)) = some (some (.int .u8 0), 1, 1) := by kernel_rfl
end Go.Proofs.YtilnpkonhbmdpaaDoor

/- Hashes as digits: the plain mathematics. -/
namespace Go.Proofs.YtilnpkonhbmdpaaDoor
open Go.ChangeShapes Go.WideShapes Go.ChangeAt Go.RowKit

def hexDig (n : Nat) : UInt8 := if n < 10 then UInt8.ofNat (48 + n) else UInt8.ofNat (87 + n)

def hexTwo (c : UInt8) : List UInt8 := [hexDig (c.toNat / 16), hexDig (c.toNat % 16)]

def hexL (l : List UInt8) : List UInt8 := l.flatMap hexTwo

theorem hexL_len (l : List UInt8) : (hexL l).length = 2 * l.length := by
  induction l with
  | nil => rfl
  | cons c l ih => simp [hexL, hexTwo] at *; omega

def hexs : ByteArray := ⟨#[48, 49, 50, 51, 52, 53, 54, 55, 56, 57, 97, 98, 99, 100, 101, 102]⟩

theorem hex_fin : ∀ m : Fin 16, hexs[m.val]'m.isLt = hexDig m.val := by decide

theorem hex_get (m : Nat) (h : m < hexs.size) : hexs[m]'h = hexDig m := hex_fin ⟨m, h⟩

theorem hexL_snoc (s : ByteArray) (k : Nat) (h : k < s.size) : hexL (s.data.toList.take (k + 1)) = hexL (s.data.toList.take k) ++ hexTwo s[k] := by
  rw [take_snoc s k h]; simp [hexL]

theorem hex_rel {s : ByteArray} {k : Nat} (h : k < s.size) {w wr w1 : World} {o : Obj} {v v' : Value} {e : TypeId}
    (hown : wr.ownsRow w.heap.size e 1 v (hexL (s.data.toList.take k)).length (B8 (hexL (s.data.toList.take k)))) (hb : Below w.heap.size w wr)
    (hown1 : w1.ownsRow w.heap.size e 1 v' ((hexL (s.data.toList.take k)).length + 2) (B8 (hexL (s.data.toList.take k)) ++ B8 (hexTwo s[k])))
    (hgrow : (wr.alloc o).drew.grownBy w1 v.ownBlock) :
    w1.ownsRow w.heap.size e 1 v' (hexL (s.data.toList.take (k + 1))).length (B8 (hexL (s.data.toList.take (k + 1)))) ∧ Below w.heap.size w w1 := by
  rw [hexL_snoc s k h, B8_app, List.length_append]
  exact ⟨hown1, ((hb.alloc hb.size o).drew).grown hgrow (by have := hb.size; simp; omega) fun j hj => (hown.lt j hj).1⟩
end Go.Proofs.YtilnpkonhbmdpaaDoor
