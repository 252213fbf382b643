/- Texts put together: RowV HmacM Info HexM. -/
import Derived.Test.YtmmnoepcklfonaaGreatDoorZG0
import Derived.Test.YtmmnoepcklfonaaGreatDoorZSHash
import Derived.Lib.AppendStr
import Derived.Lib.BufferWrite
import Derived.Lib.ConvBytes
import Derived.Laws.BitsAllLaws
import Derived.Laws.BitsLemmas
/- Rows of one-cell values that a call owns or reads, kept while other rows turn. -/
namespace Go.Proofs.YtmmnoepcklfonaaGreatDoor
open Go.ChangeShapes Go.WideShapes Go.ChangeAt Go.RowKit

/-- A slice's address a leads to the values xs (or there are none). -/
def RowV (w : World) (a : Option Addr) (xs : List Value) : Prop :=
  xs = [] ∨ ∃ b off, a = some ⟨b, off, none⟩ ∧ b < w.heap.size ∧ ∀ i u, xs[i]? = some u → w.cell? ⟨b, off + i, none⟩ = some u
theorem RowV.below {w w' : World} {a : Option Addr} {xs : List Value} (h : RowV w a xs) (hb : Below w.heap.size w w') : RowV w' a xs := by
  rcases h with h | ⟨b, off, e, hlt, hc⟩
  · exact .inl h
  · exact .inr ⟨b, off, e, Nat.lt_of_lt_of_le hlt hb.size, fun i u hu => (hb.cell (p := ⟨b, off + i, none⟩) hlt).trans (hc i u hu)⟩
theorem RowV.at {w : World} {a : Option Addr} {xs : List Value} (h : RowV w a xs) (hn : 0 < xs.length) :
    ∃ b off, a = some ⟨b, off, none⟩ ∧ b < w.heap.size ∧ ∀ i u, xs[i]? = some u → w.cell? ⟨b, off + i, none⟩ = some u := by
  rcases h with rfl | h
  · simp at hn
  · exact h
theorem rowV_8 {w : World} {a : Option Addr} {l : List UInt8} (h : RowV w a (B8 l)) : Row8 w a l := by
  rcases h with h | ⟨b, off, e, hlt, hc⟩
  · left; have := congrArg List.length h; rw [B8_len] at this; exact List.length_eq_zero_iff.1 this
  · exact .inr ⟨b, off, e, hlt, fun i hi => hc i _ (by simp [B8, List.getElem?_eq_getElem hi])⟩
theorem own_rowV {w : World} {base : Nat} {e : TypeId} {v : Value} {n : Nat} {xs : List Value} (h : w.ownsRow base e 1 v n xs) : ∃ a cap, v = .slice a n cap ∧ RowV w a xs := by
  obtain ⟨hl, h2⟩ := h
  rcases h2 with ⟨rfl, rfl⟩ | ⟨g, cap, cur, rfl, hbg, hg, hrest⟩
  · exact ⟨none, 0, rfl, .inl (List.length_eq_zero_iff.1 (by simpa using hl))⟩
  · refine ⟨some ⟨g, 0, none⟩, cap, rfl, ?_⟩
    have hown : w.ownsRow base e 1 (.slice (some ⟨g, 0, none⟩) n cap) n xs := ⟨hl, .inr ⟨g, cap, cur, rfl, hbg, hg, hrest⟩⟩
    refine .inr ⟨g, 0, rfl, (hown.lt g rfl).2, fun i u hu => ?_⟩
    have hi : i < xs.length := (List.getElem?_eq_some_iff.1 hu).1
    rw [Nat.zero_add, hown.cellAt i (by omega), hu]

theorem row_at {w : World} {base : Nat} {e : TypeId} {a : Option Addr} {n cap : Nat} {xs : List Value} (h : w.ownsRow base e 1 (.slice a n cap) n xs) : RowV w a xs := by
  obtain ⟨a', cap', e, h⟩ := own_rowV h
  injection e with e1; subst e1; exact h
/-- 'string(b)' where b reads as the bytes l. -/
theorem conv_row8 {P : Program} {w : World} {src dst e : TypeId} {a : Option Addr} {cap : Nat} {l : List UInt8} (hs : P.underlying src = some (.slice e)) (he : P.underlying e = some (.int .u8)) (hd : P.underlying dst = some .string)
    (h : Row8 w a l) : (convert src dst (.slice a l.length cap)).run P w = .ok (.string ⟨l.toArray⟩) w := by
  cases a with
  | none =>
    rcases h with rfl | ⟨b, off, e, _⟩
    · exact run_convert_bytes_nil w src e hs he 0 cap dst hd
    · cases e
  | some x =>
    refine run_convert_bytes_back w src dst e x cap l hs he hd ?_
    intro j hj
    rcases h with rfl | ⟨b, off, e, hlt, hc⟩
    · simp at hj
    · injection e with e; subst e
      rw [show (⟨b, off, none⟩ : Addr).add j = ⟨b, off + j, none⟩ from by unfold Addr.add; split <;> simp_all, hc j hj]
theorem row8_part {w : World} {b off : Nat} {l : List UInt8} (hb : b < w.heap.size) (hc : ∀ i (h : i < l.length), w.cell? ⟨b, off + i, none⟩ = some (.int .u8 (l[i].toNat : Int))) (s n : Nat) (h : s + n ≤ l.length) : Row8 w (some ⟨b, off + s, none⟩) ((l.drop s).take n) := by
  refine .inr ⟨b, off + s, rfl, hb, fun i hi => ?_⟩
  have hi' : i < n := by rw [List.length_take] at hi; omega
  rw [show off + s + i = off + (s + i) from by omega, hc (s + i) (by omega), List.getElem_take, List.getElem_drop]
/-- v owns its row in a block from lo up to hi. -/
def Held (w : World) (lo hi : Nat) (e : TypeId) (v : Value) (n : Nat) (xs : List Value) : Prop :=
  w.ownsRow lo e 1 v n xs ∧ (∀ k, v.ownBlock = some k → k < hi) ∧ hi ≤ w.heap.size
theorem held_of {w : World} {lo : Nat} {e : TypeId} {v : Value} {n : Nat} {xs : List Value} (h : w.ownsRow lo e 1 v n xs) : Held w lo w.heap.size e v n xs :=
  ⟨h, fun k hk => (h.lt k hk).2, Nat.le_refl _⟩
theorem Held.below {w w' : World} {lo hi B : Nat} {e : TypeId} {v : Value} {n : Nat} {xs : List Value} (h : Held w lo hi e v n xs) (hb : Below B w w') (hB : hi ≤ B) : Held w' lo hi e v n xs := by
  obtain ⟨⟨hl, h2⟩, hk, hs⟩ := h
  refine ⟨⟨hl, ?_⟩, hk, Nat.le_trans hs hb.size⟩
  rcases h2 with h2 | ⟨g, cap, cur, rfl, hbg, hg, hrest⟩
  · exact .inl h2
  · exact .inr ⟨g, cap, cur, rfl, hbg, (hb.block g (Nat.lt_of_lt_of_le (hk g rfl) hB)).trans hg, hrest⟩
theorem Held.grown {w w' : World} {lo hi : Nat} {row : Option Nat} {e : TypeId} {v : Value} {n : Nat} {xs : List Value} (h : Held w lo hi e v n xs) (hg : w.grownBy w' row) (hr : ∀ k, row = some k → k < lo ∨ hi ≤ k) : Held w' lo hi e v n xs := by
  obtain ⟨ho, hk, hs⟩ := h
  refine ⟨ho.kept hg ?_, hk, Nat.le_trans hs hg.size⟩
  cases hv : v.ownBlock with
  | none => exact .inl rfl
  | some k =>
    right; intro he
    rcases hr k he.symm with h1 | h1
    · exact absurd (ho.lt k hv).1 (by omega)
    · exact absurd (hk k hv) (by omega)
theorem Held.row {w : World} {lo hi : Nat} {e : TypeId} {v : Value} {n : Nat} {xs : List Value} (h : Held w lo hi e v n xs) : ∃ a cap, v = .slice a n cap ∧ RowV w a xs := own_rowV h.1
theorem Held.own {w : World} {lo hi : Nat} {e : TypeId} {v : Value} {n : Nat} {xs : List Value} (h : Held w lo hi e v n xs) : w.ownsRow lo e 1 v n xs := h.1
theorem Held.le {w : World} {lo hi : Nat} {e : TypeId} {v : Value} {n : Nat} {xs : List Value} (h : Held w lo hi e v n xs) : hi ≤ w.heap.size := h.2.2
theorem Held.blk {w : World} {lo hi : Nat} {e : TypeId} {v : Value} {n : Nat} {xs : List Value} (h : Held w lo hi e v n xs) : ∀ k, v.ownBlock = some k → lo ≤ k ∧ k < hi := fun k hk => ⟨(h.1.lt k hk).1, h.2.1 k hk⟩
theorem Below.marked {w0 w w' : World} {B lo hi : Nat} {e : TypeId} {v : Value} {n : Nat} {xs : List Value} (hb : Below B w0 w) (hB : B ≤ w.heap.size) (h : Held w lo hi e v n xs) (hl : B ≤ lo) (hg : w.grownBy w' v.ownBlock) : Below B w0 w' :=
  hb.grown hg hB fun k hk => Nat.le_trans hl (h.blk k hk).1

theorem Held.rowV {w : World} {lo hi : Nat} {e : TypeId} {a : Option Addr} {n cap : Nat} {xs : List Value} (h : Held w lo hi e (.slice a n cap) n xs) : RowV w a xs := row_at h.1
/-- The first j values turned into f's. -/
def markV (xs : List Value) (f : Nat → Value) (j : Nat) : List Value := (List.range j).map f ++ xs.drop j
theorem markV_zero (xs : List Value) (f : Nat → Value) : markV xs f 0 = xs := by simp [markV]
theorem markV_all (xs : List Value) (f : Nat → Value) (j : Nat) (h : j = xs.length) : markV xs f j = (List.range j).map f := by
  unfold markV; rw [List.drop_of_length_le (by omega)]; simp
theorem markV_at (xs : List Value) (f : Nat → Value) (j : Nat) : (markV xs f j)[j]? = xs[j]? := by
  unfold markV
  rw [List.getElem?_append_right (by simp)]; simp
theorem markV_set (xs : List Value) (f : Nat → Value) (j : Nat) (h : j < xs.length) : (markV xs f j).set j (f j) = markV xs f (j + 1) := by
  unfold markV
  rw [List.set_append_right _ _ (by simp)]
  simp only [List.length_map, List.length_range, Nat.sub_self]
  rw [List.drop_eq_getElem_cons h, List.set_cons_zero, List.range_succ, List.map_append]
  simp
/-- A made row of zeros z whose first k places have been filled from xs. -/
def fillV (z : Value) (xs : List Value) (k : Nat) : List Value := xs.take k ++ List.replicate (xs.length - k) z
theorem fillV_zero (z : Value) (xs : List Value) (hz : z.cells = #[z]) : fillV z xs 0 = (madeCells z.cells (xs.length * 1)).toList := by
  rw [hz, toList_madeCells_one]; simp [fillV]
theorem fillV_all (z : Value) (xs : List Value) (k : Nat) (h : xs.length ≤ k) : fillV z xs k = xs := by
  unfold fillV; rw [List.take_of_length_le h, show xs.length - k = 0 from by omega]; simp
theorem fillV_set (z : Value) (xs : List Value) (k : Nat) (u : Value) (h : xs[k]? = some u) : (fillV z xs k).set k u = fillV z xs (k + 1) := by
  obtain ⟨hk, rfl⟩ := List.getElem?_eq_some_iff.1 h
  have e1 : (xs.take k).length = k := by rw [List.length_take]; omega
  unfold fillV
  rw [List.set_append_right _ _ (by omega), e1, Nat.sub_self, List.take_succ_eq_append_getElem hk]
  obtain ⟨m, hm⟩ : ∃ m, xs.length - k = m + 1 := ⟨xs.length - k - 1, by omega⟩
  rw [hm, show xs.length - (k + 1) = m from by omega, List.replicate_succ, List.set_cons_zero, List.append_assoc]
  rfl
theorem fillV_at (z : Value) (xs : List Value) (k : Nat) (h : k < xs.length) : (fillV z xs k)[k]? = some z := by
  have e1 : (xs.take k).length = k := by rw [List.length_take]; omega
  unfold fillV
  rw [List.getElem?_append_right (by omega), e1, Nat.sub_self]
  obtain ⟨m, hm⟩ : ∃ m, xs.length - k = m + 1 := ⟨xs.length - k - 1, by omega⟩
  rw [hm]; rfl
theorem cell_of {xs : List Value} {j : Nat} (h : j < xs.length) : ∃ u, xs[j]? = some u := ⟨xs[j], List.getElem?_eq_getElem h⟩
theorem stored_grown {w : World} {g j : Nat} {u : Value} : w.grownBy (w.setCell ⟨g, j, none⟩ u) (some g) := by
  refine ⟨rfl, rfl, rfl, by simp, fun k _ hk => ?_⟩
  have hk' : g ≠ k := fun e => hk (by rw [e])
  simp [World.setCell, Array.getElem?_modify, hk']
theorem World.grownBy.trans' {a b c : World} {row : Option Nat} (h : a.grownBy b row) (k : b.grownBy c row) : a.grownBy c row :=
  ⟨k.os.trans h.os, k.tape.trans h.tape, k.output.trans h.output, Nat.le_trans h.size k.size, fun i hi hr => (k.block i (Nat.lt_of_lt_of_le hi h.size) hr).trans (h.block i hi hr)⟩
theorem below_undrew {B : Nat} {w w' : World} (h : Below B w.drew w') : Below B w w' := ⟨h.os, h.tape, h.output, h.size, h.block⟩
theorem grownBy_refl (w : World) (row : Option Nat) : w.grownBy w row := ⟨rfl, rfl, rfl, Nat.le_refl _, fun _ _ _ => rfl⟩
theorem bcell {W w1 : World} (hb : Below W.heap.size W w1) : (∀ b o, b < W.heap.size → w1.cell? ⟨b, o, none⟩ = W.cell? ⟨b, o, none⟩) ∧ (∀ b o, b < W.heap.size → w1.frozen? ⟨b, o, none⟩ = W.frozen? ⟨b, o, none⟩) :=
  ⟨fun b o h => hb.cell (p := ⟨b, o, none⟩) h, fun b o h => hb.frozen (p := ⟨b, o, none⟩) h⟩
end Go.Proofs.YtmmnoepcklfonaaGreatDoor

/- A keyed hash: the plain mathematics, a key's block, a text as bytes. -/
namespace Go.Proofs.YtmmnoepcklfonaaGreatDoor
open Go.ChangeShapes Go.WideShapes Go.ChangeAt Go.RowKit
def keyZ (k : List UInt8) : List UInt8 := k ++ List.replicate (64 - k.length) 0
def keyX (k : List UInt8) (m : UInt8) : List UInt8 := (keyZ k).map fun c => c ^^^ m
theorem keyZ_len (k : List UInt8) (h : k.length ≤ 64) : (keyZ k).length = 64 := by unfold keyZ; simp; omega
theorem keyX_len (k : List UInt8) (m : UInt8) (h : k.length ≤ 64) : (keyX k m).length = 64 := by unfold keyX; rw [List.length_map, keyZ_len k h]
def hmacK (key : ByteArray) : ByteArray := if 64 < key.size then hashB (shaR key.data.toList) else key
def hmacIn (key : ByteArray) (msg : List UInt8) : ByteArray := hashB (shaR (keyX (hmacK key).data.toList 54 ++ msg))
def hmacB (key msg : ByteArray) : ByteArray := hashB (shaR (keyX (hmacK key).data.toList 92 ++ (hmacIn key msg.data.toList).data.toList))
def hmS (key msg : ByteArray) : ByteArray := if 65536 < key.size ∨ 65536 < msg.size then ⟨#[]⟩ else hmacB key msg
def hmC (key msg : ByteArray) : Int := if 65536 < key.size ∨ 65536 < msg.size then 2 else 0
theorem hm_long {key msg : ByteArray} (h : 65536 < key.size ∨ 65536 < msg.size) : hmS key msg = ⟨#[]⟩ ∧ hmC key msg = 2 := by unfold hmS hmC; rw [if_pos h, if_pos h]; exact ⟨rfl, rfl⟩
theorem hm_ok {key msg : ByteArray} (h : ¬ 65536 < key.size) (h2 : ¬ 65536 < msg.size) : hmS key msg = hmacB key msg ∧ hmC key msg = 0 := by
  have h3 : ¬ (65536 < key.size ∨ 65536 < msg.size) := by omega
  unfold hmS hmC; rw [if_neg h3, if_neg h3]; exact ⟨rfl, rfl⟩
theorem hash_size (r : R8) : (hashB r).size = 32 := by show (textL r.l).toArray.size = 32; rw [List.size_toArray, textL_len]; rfl
theorem u8_xor (a b : UInt8) : bits .xor .u8 (a.toNat : Int) (b.toNat : Int) = ((a ^^^ b).toNat : Int) := by
  have ha := a.toNat_lt
  have hb := b.toNat_lt
  have hx : a.toNat ^^^ b.toNat < 2 ^ 8 := Nat.xor_lt_two_pow ha hb
  rw [UInt8.toNat_xor]
  show IntKind.u8.wrap ((BitVec.ofInt 8 (a.toNat : Int) ^^^ BitVec.ofInt 8 (b.toNat : Int)).toNat : Int) = _
  rw [BitVec.toNat_xor, BitVec.toNat_ofInt, BitVec.toNat_ofInt, IntKind.wrap_u8']
  rw [show ((a.toNat : Int) % ((2 ^ 8 : Nat) : Int)).toNat = a.toNat from by omega, show ((b.toNat : Int) % ((2 ^ 8 : Nat) : Int)).toNat = b.toNat from by omega]
  omega
theorem list_size (s : ByteArray) : s.data.toList.length = s.size := by rw [Array.length_toList]; rfl
/-- '[]byte(s)'. -/
theorem to_bytes (w : World) (s : ByteArray) : ∃ w' cap, (convert 9 101 (.string s)).run Tryz.prog w = .ok (.slice (some ⟨w.heap.size, 0, none⟩) s.size cap) w' ∧ Row8 w' (some ⟨w.heap.size, 0, none⟩) s.data.toList ∧ Below w.heap.size w w' := by
  refine ⟨Go.Lib.bytesWorld w 5 s, _, Go.Lib.run_convert_string_bytes w _ _ 5 s Tryz.underlying9 Tryz.underlying101 Tryz.underlying5, ?_, ?_⟩
  · refine .inr ⟨w.heap.size, 0, rfl, by rw [Go.Lib.bytesWorld_size]; omega, fun i hi => ?_⟩
    have h := Go.Lib.bytesWorld_cell w 5 s i (by rw [← list_size]; exact hi)
    rw [Nat.zero_add, h, List.getD_eq_getElem?_getD, List.getElem?_eq_getElem hi]; rfl
  · exact ⟨rfl, rfl, rfl, by rw [Go.Lib.bytesWorld_size]; omega, fun k hk => Go.Lib.bytesWorld_at_old w _ s k hk⟩
theorem wpList_copy_text {P : Program} {w : World} {ops : Array Oper} {rest : List Oper} {o : Oper} {a : Act} {Q : Exit → Act → World → Prop} (hgd : o.guard = none) (d s : Operand) (dT sT : TypeId)
    (ho : o.op = .call { callee := .builtin .copy, args := #[d, s], argTypes := #[dT, sT] }) (elem : TypeId) (hu : P.underlying dT = some (.slice elem)) (hsz : (P.info? elem).map (·.size) = some 1)
    (g dLen dCap : Nat) (x : ByteArray) (hd : a.eval d = .slice (some ⟨g, 0, none⟩) dLen dCap) (hs : a.eval s = .string x)
    (cur : List Value) (t : TypeId) (hg : ArrAt w g t cur) (hle : x.size ≤ dLen) (hfit : x.size ≤ cur.length)
    (h : ∀ w', ArrAt w' g t (B8 x.data.toList ++ cur.drop x.size) → Below g w w' → wpList P ops Q rest (a.put o.dst (goInt x.size)) w') : wpList P ops Q (o :: rest) a w := by
  refine wpList_plain hgd fun K hK => ?_
  have hrun := Go.Lib.run_copy_row_string (P := P) w dT sT o.type elem g 0 dLen dCap x cur.toArray t hu hsz hg hle (by simpa using hfit)
  unfold Oper.wp
  simp [execOp, ho, resolve, invoke, builtin, hd, hs, hrun, Result.andThen]
  refine hK _ _ (h _ ?_ (below_setRow (Below.refl g w) (Nat.le_refl _) _))
  have e : B8 x.data.toList = Go.Lib.byteCells x.data.toList := rfl
  rw [e]
  show _ = _
  have := setRow_heap w g cur.toArray (([] : List Value) ++ Go.Lib.byteCells x.data.toList ++ cur.drop x.size).toArray t (0, 0) hg
  simpa using this
theorem arr_own8 {w : World} {g n : Nat} {t : TypeId} {l : List UInt8} (h : ArrAt w g t (B8 l)) (hl : l.length = n) (hn : n ≤ maxLen) : w.ownsRow g t 1 (.slice (some ⟨g, 0, none⟩) n n) l.length (B8 l) := by
  subst hl
  exact ⟨by rw [B8_len]; omega, .inr ⟨g, l.length, (B8 l).toArray, rfl, Nat.le_refl _, h, Nat.le_refl _, hn, by simp [B8_len], by rw [List.take_of_length_le]; simp [B8_len]⟩⟩
end Go.Proofs.YtmmnoepcklfonaaGreatDoor

/- The table's row of a byte. -/
namespace Go.Proofs.YtmmnoepcklfonaaGreatDoor
theorem Tryz.info5 : (Tryz.prog.info? 5).map (fun i => (i.zero, i.size, i.bytes)) = some (some (.int .u8 0), 1, 1) := by kernel_rfl
end Go.Proofs.YtmmnoepcklfonaaGreatDoor

/- Hashes as digits: the plain mathematics. -/
namespace Go.Proofs.YtmmnoepcklfonaaGreatDoor
open Go.ChangeShapes Go.WideShapes Go.ChangeAt Go.RowKit

def hexDig (n : Nat) : UInt8 := if n < 10 then UInt8.ofNat (48 + n) else UInt8.ofNat (87 + n)

def hexTwo (c : UInt8) : List UInt8 := [hexDig (c.toNat / 16), hexDig (c.toNat % 16)]

def hexL (l : List UInt8) : List UInt8 := l.flatMap hexTwo

theorem hexL_len (l : List UInt8) : (hexL l).length = 2 * l.length := by
  induction l with
  | nil => rfl
  | cons c l ih => simp [hexL, hexTwo] at *; omega

def hexs : ByteArray := ⟨#[48, 49, 50, 51, 52, 53, 54, 55, 56, 57, 97, 98, 99, 100, 101, 102]⟩

theorem hex_fin : ∀ m : Fin 16, hexs[m.val]'m.isLt = hexDig m.val := by decide

theorem hex_get (m : Nat) (h : m < hexs.size) : hexs[m]'h = hexDig m := hex_fin ⟨m, h⟩

theorem hexL_snoc (s : ByteArray) (k : Nat) (h : k < s.size) : hexL (s.data.toList.take (k + 1)) = hexL (s.data.toList.take k) ++ hexTwo s[k] := by
  rw [take_snoc s k h]; simp [hexL]

theorem hex_rel {s : ByteArray} {k : Nat} (h : k < s.size) {w wr w1 : World} {o : Obj} {v v' : Value} {e : TypeId}
    (hown : wr.ownsRow w.heap.size e 1 v (hexL (s.data.toList.take k)).length (B8 (hexL (s.data.toList.take k)))) (hb : Below w.heap.size w wr)
    (hown1 : w1.ownsRow w.heap.size e 1 v' ((hexL (s.data.toList.take k)).length + 2) (B8 (hexL (s.data.toList.take k)) ++ B8 (hexTwo s[k])))
    (hgrow : (wr.alloc o).drew.grownBy w1 v.ownBlock) :
    w1.ownsRow w.heap.size e 1 v' (hexL (s.data.toList.take (k + 1))).length (B8 (hexL (s.data.toList.take (k + 1)))) ∧ Below w.heap.size w w1 := by
  rw [hexL_snoc s k h, B8_app, List.length_append]
  exact ⟨hown1, ((hb.alloc hb.size o).drew).grown hgrow (by have := hb.size; simp; omega) fun j hj => (hown.lt j hj).1⟩
end Go.Proofs.YtmmnoepcklfonaaGreatDoor
