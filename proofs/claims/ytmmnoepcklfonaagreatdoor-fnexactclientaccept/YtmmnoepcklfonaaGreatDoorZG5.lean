/- Texts put together: Words ByteS Pad. -/
import Derived.Test.YtmmnoepcklfonaaGreatDoorZMix
import Derived.Test.YtmmnoepcklfonaaGreatDoorZG0
import Derived.Laws.CopyOwn
/- The registers as 32 bytes: what wordsText answers. -/
namespace Go.Proofs.YtmmnoepcklfonaaGreatDoor
open Go.ChangeShapes Go.WideShapes Go.ChangeAt Go.RowKit
theorem Tryz.ib5 : (Tryz.prog.info? 5).map (fun i => (i.zero, i.size, i.bytes)) = some (some (.int .u8 0), 1, 1) := by kernel_rfl

def wb (x : BitVec 32) (n : Nat) : UInt8 := UInt8.ofNat (x.toNat / n % 256)
def word4 (x : BitVec 32) : List UInt8 := [wb x 16777216, wb x 65536, wb x 256, wb x 1]
theorem wb_val (x : BitVec 32) (n : Nat) : wI x / (n : Int) % 256 = ((wb x n).toNat : Int) := by
  unfold wb wI; rw [UInt8.toNat_ofNat']; omega
theorem wb_one (x : BitVec 32) : wI x % 256 = ((wb x 1).toNat : Int) := by
  unfold wb wI; rw [UInt8.toNat_ofNat']; omega
def textL (l : List (BitVec 32)) : List UInt8 := l.flatMap word4
def hashB (r : R8) : ByteArray := ⟨(textL r.l).toArray⟩
theorem textL_len (l : List (BitVec 32)) : (textL l).length = 4 * l.length := by
  induction l with
  | nil => rfl
  | cons c l ih => simp [textL, word4] at *; omega
theorem textL_snoc (l : List (BitVec 32)) (k : Nat) (h : k < l.length) : textL (l.take (k + 1)) = textL (l.take k) ++ word4 (gt l k) := by
  rw [List.take_succ_eq_append_getElem h]
  have : gt l k = l[k] := by unfold gt; simp [h]
  rw [this]; unfold textL; rw [List.flatMap_append, List.flatMap_singleton]
theorem idx8_0 (r : R8) (w : World) : (Instr.index 135 (.agg #[.int .u32 (wI r.a), .int .u32 (wI r.b), .int .u32 (wI r.c), .int .u32 (wI r.d), .int .u32 (wI r.e), .int .u32 (wI r.f), .int .u32 (wI r.g), .int .u32 (wI r.y)]) (.int .i64 0)).run Tryz.prog w = .ok (.int .u32 (wI r.a)) w := by kernel_rfl
theorem idx8_1 (r : R8) (w : World) : (Instr.index 135 (.agg #[.int .u32 (wI r.a), .int .u32 (wI r.b), .int .u32 (wI r.c), .int .u32 (wI r.d), .int .u32 (wI r.e), .int .u32 (wI r.f), .int .u32 (wI r.g), .int .u32 (wI r.y)]) (.int .i64 1)).run Tryz.prog w = .ok (.int .u32 (wI r.b)) w := by kernel_rfl
theorem idx8_2 (r : R8) (w : World) : (Instr.index 135 (.agg #[.int .u32 (wI r.a), .int .u32 (wI r.b), .int .u32 (wI r.c), .int .u32 (wI r.d), .int .u32 (wI r.e), .int .u32 (wI r.f), .int .u32 (wI r.g), .int .u32 (wI r.y)]) (.int .i64 2)).run Tryz.prog w = .ok (.int .u32 (wI r.c)) w := by kernel_rfl
theorem idx8_3 (r : R8) (w : World) : (Instr.index 135 (.agg #[.int .u32 (wI r.a), .int .u32 (wI r.b), .int .u32 (wI r.c), .int .u32 (wI r.d), .int .u32 (wI r.e), .int .u32 (wI r.f), .int .u32 (wI r.g), .int .u32 (wI r.y)]) (.int .i64 3)).run Tryz.prog w = .ok (.int .u32 (wI r.d)) w := by kernel_rfl
theorem idx8_4 (r : R8) (w : World) : (Instr.index 135 (.agg #[.int .u32 (wI r.a), .int .u32 (wI r.b), .int .u32 (wI r.c), .int .u32 (wI r.d), .int .u32 (wI r.e), .int .u32 (wI r.f), .int .u32 (wI r.g), .int .u32 (wI r.y)]) (.int .i64 4)).run Tryz.prog w = .ok (.int .u32 (wI r.e)) w := by kernel_rfl
theorem idx8_5 (r : R8) (w : World) : (Instr.index 135 (.agg #[.int .u32 (wI r.a), .int .u32 (wI r.b), .int .u32 (wI r.c), .int .u32 (wI r.d), .int .u32 (wI r.e), .int .u32 (wI r.f), .int .u32 (wI r.g), .int .u32 (wI r.y)]) (.int .i64 5)).run Tryz.prog w = .ok (.int .u32 (wI r.f)) w := by kernel_rfl
theorem idx8_6 (r : R8) (w : World) : (Instr.index 135 (.agg #[.int .u32 (wI r.a), .int .u32 (wI r.b), .int .u32 (wI r.c), .int .u32 (wI r.d), .int .u32 (wI r.e), .int .u32 (wI r.f), .int .u32 (wI r.g), .int .u32 (wI r.y)]) (.int .i64 6)).run Tryz.prog w = .ok (.int .u32 (wI r.g)) w := by kernel_rfl
theorem idx8_7 (r : R8) (w : World) : (Instr.index 135 (.agg #[.int .u32 (wI r.a), .int .u32 (wI r.b), .int .u32 (wI r.c), .int .u32 (wI r.d), .int .u32 (wI r.e), .int .u32 (wI r.f), .int .u32 (wI r.g), .int .u32 (wI r.y)]) (.int .i64 7)).run Tryz.prog w = .ok (.int .u32 (wI r.y)) w := by kernel_rfl
theorem idx8 (r : R8) (k : Nat) (h : k < 8) (w : World) : (Instr.index 135 (.agg #[.int .u32 (wI r.a), .int .u32 (wI r.b), .int .u32 (wI r.c), .int .u32 (wI r.d), .int .u32 (wI r.e), .int .u32 (wI r.f), .int .u32 (wI r.g), .int .u32 (wI r.y)]) (.int .i64 (k : Int))).run Tryz.prog w = .ok (.int .u32 (wI (gt r.l k))) w := by
  have hc : k = 0 ∨ k = 1 ∨ k = 2 ∨ k = 3 ∨ k = 4 ∨ k = 5 ∨ k = 6 ∨ k = 7 := by omega
  rcases hc with rfl | rfl | rfl | rfl | rfl | rfl | rfl | rfl
  · exact idx8_0 r w
  · exact idx8_1 r w
  · exact idx8_2 r w
  · exact idx8_3 r w
  · exact idx8_4 r w
  · exact idx8_5 r w
  · exact idx8_6 r w
  · exact idx8_7 r w
theorem mk32 : ∃ cur : Array Value, cur.size = 32 ∧ ∀ w : World, (Instr.makeSlice 101 (.int .i64 0) (.int .i64 32)).run Tryz.prog w = .ok (.slice (some ⟨w.heap.size, 0, none⟩) 0 32) (w.alloc (.cells cur 5)) :=
  ⟨Array.replicate 32 (.int .u8 0), by simp, fun _ => by kernel_rfl⟩
theorem made_second (w : World) (o : Obj) (cur : Array Value) (e : TypeId) (n : Nat) (hn : n ≤ maxLen) (hc : cur.size = n) : ((w.alloc o).alloc (.cells cur e)).ownsRow (w.heap.size + 1) e 1 (.slice (some ⟨w.heap.size + 1, 0, none⟩) 0 n) 0 [] := by
  have h := World.ownsRow_made (base := w.heap.size + 1) (e := e) (size := 1) (w.alloc o) cur n (by simp) hn (by omega)
  rwa [show (w.alloc o).heap.size = w.heap.size + 1 from by simp] at h
theorem text_rel {w wr w1 : World} {o : Obj} {v v' : Value} {e : TypeId} {m : List UInt8} {l : List (BitVec 32)} {k B : Nat} (hk : k < l.length) (hm : m = textL (l.take k)) (hB : w.heap.size ≤ B)
    (hown : wr.ownsRow B e 1 v m.length (B8 m)) (hbl : Below w.heap.size w wr)
    (hown1 : w1.ownsRow B e 1 v' (m.length + 4) (B8 m ++ B8 (word4 (gt l k))))
    (hgrow : (wr.alloc o).grownBy w1 v.ownBlock) :
    w1.ownsRow B e 1 v' (textL (l.take (k + 1))).length (B8 (textL (l.take (k + 1)))) ∧ Below w.heap.size w w1 := by
  have h := own_app hown1 rfl
  rw [hm, ← textL_snoc l k hk] at h
  exact ⟨h, below_app hbl hbl.size hown hB hgrow⟩

set_option maxHeartbeats 400000 in
set_option maxRecDepth 100000 in
theorem words28 (r : R8) (w : World) :
    Calls Tryz.prog 114 #[.agg #[.int .u32 (wI r.a), .int .u32 (wI r.b), .int .u32 (wI r.c), .int .u32 (wI r.d), .int .u32 (wI r.e), .int .u32 (wI r.f), .int .u32 (wI r.g), .int .u32 (wI r.y)]] w fun e w' => e = .returned (.string (hashB r)) ∧ Below w.heap.size w w' := by
  obtain ⟨i0, hi, hz0, hz1, hz2⟩ := info_parts Tryz.ib5
  obtain ⟨cur, hcs, hmk⟩ := mk32
  have HC := hide hcs
  clear hcs
  go_enter Tryz.func114, Tryz.ntmps114
  go_wp2_with fail
  go_loopw [3, 8] (fun v i wr => ∃ k : Nat, k ≤ 8 ∧ i = .int .i64 k ∧ wr.ownsRow (w.heap.size + 1) 5 1 v (textL (r.l.take k)).length (B8 (textL (r.l.take k))) ∧ Below w.heap.size w wr) (fun _ i _ => 8 - (intOf i).toNat)
  case atStart => exact ⟨0, by omega, rfl, made_second w _ cur 5 32 (by decide) (unhide HC), ((Below.refl _ _).alloc (Nat.le_refl _) _).alloc (by simp) _⟩
  case round =>
    clear hmk
    obtain ⟨k, hk, rfl, hown, hb⟩ := hrel
    by_cases hlt : k < 8
    · have hix := idx8 r k hlt
      have hkl : Hid (k < r.l.length) := hlt
      have hz := hb.size
      obtain ⟨m, hm⟩ : ∃ m, m = textL (r.l.take k) := ⟨_, rfl⟩
      rw [← hm] at hown
      have HM := hide hm
      have HL : m.length ≤ 32 := by rw [hm, textL_len]; have := List.length_take_le k r.l; omega
      obtain ⟨x, hx⟩ : ∃ x, x = gt r.l k := ⟨_, rfl⟩
      rw [← hx] at hix
      have HX := hide hx
      have v1 : wI x / 16777216 % 256 = ((wb x 16777216).toNat : Int) := wb_val x 16777216
      have v2 : wI x / 65536 % 256 = ((wb x 65536).toNat : Int) := wb_val x 65536
      have v3 : wI x / 256 % 256 = ((wb x 256).toNat : Int) := wb_val x 256
      have v4 := wb_one x
      clear hm hx
      go_wp2_with (at_builtin; refine wpList_append_lies _ rfl _ _ 101 rfl (w.heap.size + 1) 5 i0 (.int .u8 0) 1 1 Tryz.underlying101 hi hz0 hz1 hz2 rfl (by decide) _ _ _ rfl (hown.alloc _) ⟨wr.heap.size, 0, none⟩ 4 4 (B8 (word4 x)) rfl rfl (by exact news_new wr (B8 (word4 x)) 5) (B8_one _) (by decide) (by unfold maxLen; omega) (by omega) (by simp; omega) _ rfl ?_; intro g cap w1 hown1 hgrow1 hat1 hlt1; have R := text_rel (unhide hkl) (unhide HM) (by omega) hown hb ((unhide HX) ▸ hown1) hgrow1; clear hown1 hgrow1 hown hb hat1 hlt1 hix v1 v2 v3 v4)
      go_roundw
      case rel => exact ⟨k + 1, by omega, by go_num, R.1, R.2⟩
      case measure => simp [intOf]; omega
    · have ek : k = 8 := by omega
      rw [ek, show r.l.take 8 = r.l from rfl] at hown
      have hcv := conv_own (P := Tryz.prog) Tryz.underlying101 Tryz.underlying5 Tryz.underlying9 hown
      clear hown ek
      go_wp2_with fail
      go_ret
      exact ⟨rfl, hb⟩
end Go.Proofs.YtmmnoepcklfonaaGreatDoor

/- Slices of bytes: a copy owns its memory and holds the same bytes; two rows are held against each other. -/
namespace Go.Proofs.YtmmnoepcklfonaaGreatDoor
open Go.ChangeShapes Go.WideShapes Go.ChangeAt Go.RowKit
def fill8 (l : List UInt8) (k : Nat) : List Value := B8 (l.take k) ++ List.replicate (l.length - k) (.int .u8 0)
end Go.Proofs.YtmmnoepcklfonaaGreatDoor

/- A message is padded: what padMessage answers. -/
namespace Go.Proofs.YtmmnoepcklfonaaGreatDoor
open Go.ChangeShapes Go.WideShapes Go.ChangeAt Go.RowKit

def padN (n : Nat) : Nat := (n + 72) / 64 * 64
def lb (v j : Nat) : UInt8 := UInt8.ofNat (v / 256 ^ j % 256)
def be8 (v : Nat) : List UInt8 := [lb v 7, lb v 6, lb v 5, lb v 4, lb v 3, lb v 2, lb v 1, lb v 0]
/-- The padded message with the last k bytes of its length laid. -/
def padK (l : List UInt8) (k : Nat) : List UInt8 := l ++ (128 :: (List.replicate (padN l.length - l.length - 1 - k) 0 ++ (be8 (8 * l.length)).drop (8 - k)))
def padL (l : List UInt8) : List UInt8 := padK l 8
theorem padN_bd (n : Nat) : n + 9 ≤ padN n ∧ padN n ≤ n + 72 := by unfold padN; omega
theorem be8_drop (v k : Nat) (h : k < 8) : (be8 v).drop (8 - (k + 1)) = lb v k :: (be8 v).drop (8 - k) := by
  have hc : k = 0 ∨ k = 1 ∨ k = 2 ∨ k = 3 ∨ k = 4 ∨ k = 5 ∨ k = 6 ∨ k = 7 := by omega
  rcases hc with rfl | rfl | rfl | rfl | rfl | rfl | rfl | rfl <;> rfl
theorem padK_len (l : List UInt8) (k : Nat) (h : k ≤ 8) : (padK l k).length = padN l.length := by
  have := padN_bd l.length
  have hd : ((be8 (8 * l.length)).drop (8 - k)).length = k := by rw [List.length_drop]; show 8 - (8 - k) = k; omega
  simp only [padK, List.length_append, List.length_cons, List.length_replicate, hd]
  omega
theorem padK_set (l : List UInt8) (k : Nat) (h : k < 8) : (padK l k).set (padN l.length - 1 - k) (lb (8 * l.length) k) = padK l (k + 1) := by
  have hb := padN_bd l.length
  unfold padK
  rw [be8_drop _ _ h]
  obtain ⟨z, hz⟩ : ∃ z, padN l.length - l.length - 1 - k = z + 1 := ⟨padN l.length - l.length - 1 - k - 1, by omega⟩
  rw [show padN l.length - l.length - 1 - (k + 1) = z from by omega, hz, List.replicate_succ' ]
  rw [List.set_append_right _ _ (by omega)]
  obtain ⟨p, hp⟩ : ∃ p, padN l.length - 1 - k - l.length = p + 1 := ⟨z, by omega⟩
  rw [hp, List.set_cons_succ, List.append_assoc, List.set_append_right _ _ (by simp; omega)]
  have e : p - (List.replicate z (0 : UInt8)).length = 0 := by simp; omega
  rw [e]; rfl
theorem lb_val (n k : Nat) : (n : Int) * 8 / 2 ^ (8 * k) % 256 = ((lb (8 * n) k).toNat : Int) := by
  have e : (2 : Int) ^ (8 * k) = ((256 ^ k : Nat) : Int) := by rw [Int.pow_mul]; simp
  rw [e, show (n : Int) * 8 = ((8 * n : Nat) : Int) from by omega]
  unfold lb
  rw [UInt8.toNat_ofNat', ← Int.natCast_ediv]
  omega
theorem B8_set (l : List UInt8) (k : Nat) (c : UInt8) : (B8 l).set k (.int .u8 (c.toNat : Int)) = B8 (l.set k c) := by simp [B8, List.map_set]

theorem Tryz.sizeb : (Tryz.prog.info? 5).map (·.size) = some 1 := by kernel_rfl
theorem own_arr {w : World} {base : Nat} {e : TypeId} {g n : Nat} {xs : List Value} (h : w.ownsRow base e 1 (.slice (some ⟨g, 0, none⟩) n n) n xs) : ArrAt w g e xs := by
  rcases h.2 with ⟨h', _⟩ | ⟨g', cap', cur, h', _, hg, _, _, hcs, ht⟩
  · simp at h'
  · simp only [Value.slice.injEq, Option.some.injEq, Addr.mk.injEq, and_true, true_and] at h'
    obtain ⟨rfl, rfl⟩ := h'
    rw [List.take_of_length_le (by rw [Array.length_toList, hcs]; exact Nat.le_refl _)] at ht
    unfold ArrAt; rw [hg, ← ht]
theorem B8_rep (n : Nat) : B8 (List.replicate n 0) = List.replicate n (.int .u8 0) := by simp [B8]
theorem pad_stage1 {w w1 : World} {N : Nat} (hown : w1.ownsRow w.heap.size 5 1 (.slice (some ⟨w.heap.size, 0, none⟩) N N) N (madeCells (Value.int .u8 0).cells (N * 1)).toList) (hg : w.grownBy w1 none) :
    Hid (ArrAt w1 w.heap.size 5 (B8 (List.replicate N 0))) ∧ Hid (Below w.heap.size w w1) := by
  have h := own_arr hown
  have e : (madeCells (Value.int .u8 0).cells (N * 1)).toList = B8 (List.replicate N 0) := by
    show (madeCells #[Value.int .u8 0] (N * 1)).toList = _
    rw [toList_madeCells_one, B8_rep, Nat.mul_one]
  rw [e] at h
  exact ⟨h, (Below.refl w.heap.size w).grown hg (Nat.le_refl _) (fun k hk => by cases hk)⟩
theorem row8_src {w : World} {a : Option Addr} {l : List UInt8} (h : Row8 w a l) (hp : 0 < l.length) : ∃ ad, a = some ad ∧ ∀ j v, (B8 l)[j]? = some v → w.cell? (ad.add j) = some v := by
  obtain ⟨b, off, rfl, _, hc⟩ := h.at hp
  refine ⟨_, rfl, fun j v hv => ?_⟩
  have hj : j < l.length := by have := (List.getElem?_eq_some_iff.1 hv).1; rwa [B8_len] at this
  rw [Addr.add_mid, hc j hj, ← hv]
  simp [B8, List.getElem?_eq_getElem hj]
theorem pad_stage2 {w w2 : World} {l : List UInt8} (hb : l.length + 9 ≤ padN l.length) (hh : w2.heap[w.heap.size]? = some (.cells (splice (B8 (List.replicate (padN l.length) 0)) 0 (B8 l)).toArray 5 (0, 0))) :
    Hid (ArrAt w2 w.heap.size 5 (B8 (l ++ List.replicate (padN l.length - l.length) 0))) ∧ w2.cell? ⟨w.heap.size, l.length, none⟩ = some (.int .u8 0) ∧ w2.frozen? ⟨w.heap.size, l.length, none⟩ = false := by
  have e : splice (B8 (List.replicate (padN l.length) 0)) 0 (B8 l) = B8 (l ++ List.replicate (padN l.length - l.length) 0) := by
    unfold splice
    rw [B8_app, B8_rep, B8_rep, B8_len]; simp
  rw [e] at hh
  have hA : ArrAt w2 w.heap.size 5 (B8 (l ++ List.replicate (padN l.length - l.length) 0)) := hh
  refine ⟨hA, ?_, hA.frozen _⟩
  rw [hA.cell, B8_app, List.getElem?_append_right (by rw [B8_len]; omega), B8_len, Nat.sub_self, B8_rep, List.getElem?_replicate, if_pos (by omega)]

theorem pad_stage3 {w w2 : World} {l : List UInt8} (hb : l.length + 9 ≤ padN l.length) (hA : ArrAt w2 w.heap.size 5 (B8 (l ++ List.replicate (padN l.length - l.length) 0))) :
    ArrAt (w2.setCell ⟨w.heap.size, l.length, none⟩ (.int .u8 128)) w.heap.size 5 (B8 (padK l 0)) := by
  have h := hA.set l.length (.int .u8 128)
  have e : (B8 (l ++ List.replicate (padN l.length - l.length) 0)).set l.length (.int .u8 128) = B8 (padK l 0) := by
    rw [show (Value.int .u8 128) = .int .u8 (((128 : UInt8).toNat : Nat) : Int) from rfl, B8_set, List.set_append_right _ _ (Nat.le_refl _), Nat.sub_self]
    obtain ⟨z, hz⟩ : ∃ z, padN l.length - l.length = z + 1 := ⟨padN l.length - l.length - 1, by omega⟩
    unfold padK
    rw [hz, List.replicate_succ, List.set_cons_zero, show z + 1 - 1 - 0 = z from by omega, show (be8 (8 * l.length)).drop (8 - 0) = [] from rfl, List.append_nil]
  rw [e] at h
  exact h

set_option maxHeartbeats 400000 in
set_option maxRecDepth 100000 in
theorem pad26 (a : Option Addr) (cap : Nat) (l : List UInt8) (hl : l.length ≤ 1048576) (w : World) (hr : Row8 w a l) :
    Calls Tryz.prog 112 #[.slice a l.length cap] w fun e w' => e = .returned (.slice (some ⟨w.heap.size, 0, none⟩) (padN l.length) (padN l.length)) ∧
      ArrAt w' w.heap.size 5 (B8 (padL l)) ∧ Below w.heap.size w w' := by
  obtain ⟨i0, hi, hz0, hz1, hz2⟩ := info_parts Tryz.ib5
  have HR := hide hr
  have hb := padN_bd l.length
  have HN : Hid (((l.length : Int) + 1 + 8 + 64 - 1) / 64 * 64 = (padN l.length : Int)) := by show _ = _; unfold padN; omega
  clear hr
  go_enter Tryz.func112, Tryz.ntmps112
  go_wp2_with (first | (at_make; refine wpList_make_full _ rfl _ _ 101 rfl w.heap.size 5 i0 (.int .u8 0) 1 Tryz.underlying101 hi hz0 hz1 .i64 .i64 _ _ (padN l.length) rfl rfl (unhide HN) (unhide HN) (by rw [hz2]; omega) (by unfold maxLen; omega) (Nat.le_refl _) ?_; intro w1 hown hgrow; obtain ⟨HA, HB⟩ := pad_stage1 hown hgrow; clear hown hgrow) | (refine wpList_copy_splice rfl _ _ 101 101 rfl 5 Tryz.underlying101 Tryz.sizeb _ _ _ _ _ _ rfl rfl w.heap.size 0 (B8 (List.replicate (padN l.length) 0)) 5 (unhide HA) (B8 l) (by rw [B8_len]; exact (Nat.min_eq_left (by omega)).symm) (fun hp => ⟨rfl, row8_src ((unhide HR).below (unhide HB)) (by rw [B8_len] at hp; exact hp)⟩) (by rw [B8_len, B8_len, List.length_replicate]; omega) (B8_one _) w.heap.size w (unhide HB) (Nat.le_refl _) ?_; intro w2 hh2 hb2; obtain ⟨HA2, c2, f2⟩ := pad_stage2 hb.1 (unhide hh2); have HB2 := hide hb2; clear hh2 hb2))
  have HA3 : Hid (ArrAt (w2.setCell ⟨w.heap.size, l.length, none⟩ (.int .u8 128)) w.heap.size 5 (B8 (padK l 0))) := pad_stage3 hb.1 (unhide HA2)
  have HB3 : Hid (Below w.heap.size w (w2.setCell ⟨w.heap.size, l.length, none⟩ (.int .u8 128))) := (unhide HB2).setCell (p := ⟨w.heap.size, l.length, none⟩) (Nat.le_refl _) _
  go_loopw [28] (fun i wr => ∃ k : Nat, k ≤ 8 ∧ i = .int .i64 k ∧ Hid (ArrAt wr w.heap.size 5 (B8 (padK l k))) ∧ Hid (Below w.heap.size w wr)) (fun i _ => 8 - (intOf i).toNat)
  case atStart => exact ⟨0, by omega, rfl, HA3, HB3⟩
  case round =>
    clear HA HB HA2 HB2 HA3 HB3 c2 f2 HR
    obtain ⟨k, hk, rfl, HA, HB⟩ := hrel
    by_cases hlt : k < 8
    · obtain ⟨q, hq⟩ : ∃ q, q = padN l.length - 1 - k := ⟨_, rfl⟩
      have hqi : (padN l.length : Int) - 1 - (k : Int) = (q : Int) := by omega
      have hql : q < (padK l k).length := by rw [padK_len l k hk]; omega
      have q1 : (q : Int) < (padN l.length : Int) := by omega
      have q0 : (0 : Int) ≤ (q : Int) := by omega
      have c1 : wr.cell? ⟨w.heap.size, q, none⟩ = some (.int .u8 ((padK l k)[q].toNat : Int)) := by rw [(unhide HA).cell]; simp [B8, List.getElem?_eq_getElem hql]
      have f1 := (unhide HA).frozen q
      have HST : Hid ((B8 (padK l k)).set q (.int .u8 ((lb (8 * l.length) k).toNat : Int)) = B8 (padK l (k + 1))) := by show _ = _; rw [hq, B8_set, padK_set l k hlt]
      generalize ((padK l k)[q].toNat : Int) = old at *
      clear hql hq
      have HQ := hide hb
      go_wp2_with fail
      rw [lb_val l.length k]
      go_roundw
      case rel => exact ⟨k + 1, by omega, by go_num, (unhide HST) ▸ (unhide HA).set q _, (unhide HB).setCell (p := ⟨w.heap.size, q, none⟩) (Nat.le_refl _) _⟩
      case measure => simp [intOf]; omega
    · have ek : k = 8 := by omega
      rw [ek] at HA
      clear ek
      go_wp2_with fail
      go_ret
      exact ⟨rfl, HA, HB⟩
end Go.Proofs.YtmmnoepcklfonaaGreatDoor
