/- Texts put together: Base ByteS Crc. -/
import Derived.OrdersHeld
import Derived.Test.YtamjljhbnhdgdaaDoorRows
import Derived.WalkKit
import Derived.ProofKit
import Derived.OpenShut
import Derived.ShutString
import Derived.WalkSpells
import Derived.WalkLawsBesides
import Derived.Deep.RegionHeld3
import Derived.Deep.AppendLies
import Derived.Laws.IdiomStrings
import Derived.Laws.OwnMore
import Derived.Laws.BitsAllLaws
import Derived.Laws.BitsLemmas
/- Small laws on bytes, rows that a call owns and endings, for the walks of this seat. -/
namespace Go.Proofs.YtamjljhbnhdgdaaDoor
open Go.ChangeShapes Go.WideShapes Go.ChangeAt Go.RowKit
theorem hide {p : Prop} (h : p) : Hid p := h
theorem unhide {p : Prop} (h : Hid p) : p := h
theorem ret_bool {a b : Bool} (h : a = b) : Ending.returned (.bool a) = .returned (.bool b) := by rw [h]
theorem ret_int {k : IntKind} {a b : Int} (h : a = b) : Ending.returned (.int k a) = .returned (.int k b) := by rw [h]
/-- The cells of bytes. -/
def B8 (l : List UInt8) : List Value := l.map fun c => Value.int .u8 (c.toNat : Int)
theorem B8_len (l : List UInt8) : (B8 l).length = l.length := by simp [B8]
theorem B8_app (l m : List UInt8) : B8 (l ++ m) = B8 l ++ B8 m := by simp [B8]
theorem B8_one (l : List UInt8) : ∀ u ∈ B8 l, u.oneCell' = true := by
 intro u hu; simp [B8] at hu; obtain ⟨c, _, rfl⟩ := hu; rfl
theorem wrapi (n : Int) (h0 : -4611686018427387904 ≤ n) (h1 : n ≤ 4611686018427387904) : IntKind.i64.wrap n = n := by
 simp only [IntKind.wrap, IntKind.signed, IntKind.bits]
 simp
 omega

def bAt (s : ByteArray) (i : Nat) : Int := if h : i < s.size then (s[i].toNat : Int) else 0
/-- 'string(b)' where b owns the bytes l. -/
theorem conv_own {P : Program} {w : World} {base : Nat} {src dst e : TypeId} {v : Value} {l : List UInt8} (hs : P.underlying src = some (.slice e)) (he : P.underlying e = some (.int .u8)) (hd : P.underlying dst = some .string)
  (h : w.ownsRow base e 1 v l.length (B8 l)) : (convert src dst v).run P w = .ok (.string ⟨l.toArray⟩) w := by
 rcases h.2 with ⟨rfl, h0⟩ | ⟨g, cap, cur, rfl, _, hg, _, _, _, ht⟩
 ·obtain rfl : l = [] := List.length_eq_zero_iff.1 h0
  exact run_convert_bytes_nil w src e hs he 0 0 dst hd
 ·refine run_convert_bytes_back w src dst e _ cap l hs he hd ?_
  intro j hj
  refine World.ownsRow.cells h rfl j _ ?_
  simp [B8, List.getElem?_eq_getElem hj]
/-- The cells of a block that was just made. -/
theorem news_new (w : World) (cs : List Value) (t : TypeId) : ∀ j u, cs[j]? = some u → (w.alloc (.cells cs.toArray t)).cell? ((⟨w.heap.size, 0, none⟩ : Addr).add j) = some u := by
 refine World.news_of_block (cs := cs.toArray) (t := t) (fr := (0, 0)) ?_
 show (w.heap.push _)[w.heap.size]? = _
 simp
theorem own_app {w : World} {base : Nat} {e : TypeId} {v : Value} {l m : List UInt8} {n : Nat} (h : w.ownsRow base e 1 v (l.length + n) (B8 l ++ B8 m)) (hn : m.length = n) : w.ownsRow base e 1 v (l ++ m).length (B8 (l ++ m)) := by
 rw [B8_app, List.length_append, hn]; exact h
theorem below_app {B : Nat} {a w w' : World} {o : Obj} {base : Nat} {e : TypeId} {size : Nat} {v : Value} {n : Nat} {xs : List Value} (hb : Below B a w) (hB : B ≤ w.heap.size) (hown : w.ownsRow base e size v n xs) (hbase : B ≤ base)
  (hg : (w.alloc o).grownBy w' v.ownBlock) : Below B a w' :=
 (hb.alloc hB o).grown hg (by simp; omega) fun j hj => Nat.le_trans hbase (hown.lt j hj).1
/-- A slice's address a leads to the bytes l (or there are none). -/
def Row8 (w : World) (a : Option Addr) (l : List UInt8) : Prop :=
 l = [] ∨ ∃ b off, a = some ⟨b, off, none⟩ ∧ b < w.heap.size ∧ ∀ i (h : i < l.length), w.cell? ⟨b, off + i, none⟩ = some (.int .u8 (l[i].toNat : Int))
theorem Row8.below {w w' : World} {a : Option Addr} {l : List UInt8} (h : Row8 w a l) (hb : Below w.heap.size w w') : Row8 w' a l := by
 rcases h with h | ⟨b, off, e, hlt, hc⟩
 ·exact .inl h
 ·exact .inr ⟨b, off, e, Nat.lt_of_lt_of_le hlt hb.size, fun i hi => (hb.cell (p := ⟨b, off + i, none⟩) hlt).trans (hc i hi)⟩
theorem Row8.at {w : World} {a : Option Addr} {l : List UInt8} (h : Row8 w a l) (hn : 0 < l.length) :
  ∃ b off, a = some ⟨b, off, none⟩ ∧ b < w.heap.size ∧ ∀ i (h : i < l.length), w.cell? ⟨b, off + i, none⟩ = some (.int .u8 (l[i].toNat : Int)) := by
 rcases h with rfl | h
 ·simp at hn
 ·exact h
theorem bdN {B : Nat} {a w : World} (h : Go.RowKit.Below B a w) (n : Nat) : Go.RowKit.Below B a (w.drewN n) := ⟨h.os, h.tape, h.output, h.size, h.block⟩
theorem qqA {A : Type} (l : List A) (i : Nat) (x : A) : l.toArray.setIfInBounds i x = (l.set i x).toArray := by simp
theorem qqB {A : Type} (a b : A) (l : List A) : (a :: l).set 0 b = b :: l := rfl
theorem qqC {A : Type} (a b : A) (l : List A) (n : Nat) : (a :: l).set (n + 1) b = a :: l.set n b := rfl
theorem wtk {P : Program} {md : Region.Mode} {ops : Array Oper} {Q : Exit → Act → World → Prop} {S : World → Prop} {i : Nat} {oi : Oper} {v : Value} {fuel : Nat} {listed : Array Bool} {a : Act} {w : World} (hi : ops[i]? = some oi) (hy : YieldsIf P ops S oi v a) (hS : S w) (h : wpAnyH P md ops Q S fuel (listed.setIfInBounds i true) (a.put oi.dst v) w) (hs : Region.noSelect ops = true := by kernel_rfl) (hf : Region.free md ops listed i = true := by kernel_rfl) (hr : (Region.ready md ops listed).contains i = true := by kernel_rfl) (hQ : ∀ c a w, Q (.panic c) (a.put oi.dst v) w → Q (.panic c) a w := by exact fun _ _ _ h => h) : wpAnyH P md ops Q S (fuel + 1) listed a w := wpAnyH_take hi hs hf hr hQ hy hS h
theorem wtv {P : Program} {md : Region.Mode} {ops : Array Oper} {Q : Exit → Act → World → Prop} {S : World → Prop} {fuel : Nat} {listed listed' : Array Bool} {a a' : Act} {w : World} {v : Value} (i : Nat) {oi : Oper} (h : wpAnyH P md ops Q S fuel listed' a' w) (hi : ops[i]? = some oi := by rfl) (hw : Region.wanted oi (yielded ops a.tmps) = true := by rfl) (hv : ∀ w', S w' → (execOp a.eval oi).run P w' = .ok (.value v) w' := by (intro w' hSw; (try dsimp only at hSw); go_simp; try with_reducible rfl)) (ha : a.put oi.dst v = a' := by ((try simp only [Act.put, qqA, qqB, qqC]); try rfl)) (hl : listed.setIfInBounds i true = listed' := by ((try simp only [qqA, qqB, qqC]); try rfl)) (hS : S w := by assumption) (hs : Region.noSelect ops = true := by kernel_rfl) (hf : Region.free md ops listed i = true := by kernel_rfl) (hr : (Region.ready md ops listed).contains i = true := by kernel_rfl) (hQ : ∀ c a w, Q (.panic c) (a.put oi.dst v) w → Q (.panic c) a w := by exact fun _ _ _ h => h) : wpAnyH P md ops Q S (fuel + 1) listed a w := by
 subst ha hl; exact wpAnyH_take hi hs hf hr hQ (Or.inl ⟨hw, hv⟩) hS h
theorem wtu {P : Program} {md : Region.Mode} {ops : Array Oper} {Q : Exit → Act → World → Prop} {S : World → Prop} {fuel : Nat} {listed listed' : Array Bool} {a a' : Act} {w : World} (i : Nat) {oi : Oper} (h : wpAnyH P md ops Q S fuel listed' a' w) (hi : ops[i]? = some oi := by rfl) (hw : Region.wanted oi (yielded ops a.tmps) = false := by rfl) (ha : a.put oi.dst undef = a' := by ((try simp only [Act.put, qqA, qqB, qqC]); try rfl)) (hl : listed.setIfInBounds i true = listed' := by ((try simp only [qqA, qqB, qqC]); try rfl)) (hS : S w := by assumption) (hs : Region.noSelect ops = true := by kernel_rfl) (hf : Region.free md ops listed i = true := by kernel_rfl) (hr : (Region.ready md ops listed).contains i = true := by kernel_rfl) (hQ : ∀ c a w, Q (.panic c) (a.put oi.dst undef) w → Q (.panic c) a w := by exact fun _ _ _ h => h) : wpAnyH P md ops Q S (fuel + 1) listed a w := by
 subst ha hl; exact wpAnyH_take hi hs hf hr hQ (Or.inr ⟨hw, rfl⟩) hS h
end Go.Proofs.YtamjljhbnhdgdaaDoor

/- Slices of bytes: a copy owns its memory and holds the same bytes; two rows are held against each other. -/
namespace Go.Proofs.YtamjljhbnhdgdaaDoor
open Go.ChangeShapes Go.WideShapes Go.ChangeAt Go.RowKit
def fill8 (l : List UInt8) (k : Nat) : List Value := B8 (l.take k) ++ List.replicate (l.length - k) (.int .u8 0)
end Go.Proofs.YtamjljhbnhdgdaaDoor

/- CRC-32: what both texts reckon at every row of at most 65536 bytes. -/
namespace Go.Proofs.YtamjljhbnhdgdaaDoor
open Go.ChangeShapes Go.WideShapes Go.ChangeAt Go.RowKit

def crcStep (x : Nat) : Nat := if x % 2 = 1 then (x / 2) ^^^ 3988292384 else x / 2
def crcN : Nat → Nat → Nat
 | 0, x => x
 | k + 1, x => crcStep (crcN k x)
def crcL (l : List UInt8) : Nat := l.foldl (fun r c => crcN 8 (r ^^^ c.toNat)) 4294967295
def chk (l : List UInt8) : Int := ((crcL l ^^^ 4294967295 : Nat) : Int)
theorem crcStep_lt (x : Nat) (h : x < 4294967296) : crcStep x < 4294967296 := by
 unfold crcStep
 split
 ·have : (x / 2) ^^^ 3988292384 < 2 ^ 32 := Nat.xor_lt_two_pow (by omega) (by omega)
  omega
 ·omega
theorem crcN_lt (k x : Nat) (h : x < 4294967296) : crcN k x < 4294967296 := by
 induction k with
 | zero => exact h
 | succ k ih => exact crcStep_lt _ ih
theorem xor_lt (x : Nat) (c : UInt8) (h : x < 4294967296) : x ^^^ c.toNat < 4294967296 := by
 have := c.toNat_lt
 have : x ^^^ c.toNat < 2 ^ 32 := Nat.xor_lt_two_pow (by omega) (by omega)
 omega
theorem crc_snoc (l : List UInt8) (k : Nat) (h : k < l.length) : crcL (l.take (k + 1)) = crcN 8 (crcL (l.take k) ^^^ l[k].toNat) := by
 unfold crcL
 rw [List.take_succ_eq_append_getElem h, List.foldl_append]
 rfl
theorem crcL_lt (l : List UInt8) : ∀ k, crcL (l.take k) < 4294967296 := by
 intro k
 induction k with
 | zero => simp [crcL]
 | succ k ih =>
  by_cases h : k < l.length
  ·rw [crc_snoc l k h]; exact crcN_lt 8 _ (xor_lt _ _ ih)
  ·rw [List.take_of_length_le (by omega)]; rw [List.take_of_length_le (by omega)] at ih; exact ih
theorem odd_u32 (x : Nat) (h : x < 4294967296) : bits .and .u32 (x : Int) 1 = ((x % 2 : Nat) : Int) := by
 have := u32_and_nat x 1 h (by decide)
 rw [Nat.and_one_is_mod] at this
 simpa using this
theorem step_odd (x : Nat) (h : x % 2 = 1) : crcStep x = (x / 2) ^^^ 3988292384 := by unfold crcStep; rw [if_pos h]
theorem step_even (x : Nat) (h : ¬ x % 2 = 1) : crcStep x = x / 2 := by unfold crcStep; rw [if_neg h]

theorem fin_u32 (y : Nat) (h : y < 4294967296) : wrap64 (bits BinOp.xor IntKind.u32 IntKind.u32.max (y : Int)) = ((y ^^^ 4294967295 : Nat) : Int) := by
 have e : IntKind.u32.max = ((4294967295 : Nat) : Int) := by simp [IntKind.max, IntKind.signed, IntKind.bits]
 have hx : y ^^^ 4294967295 < 2 ^ 32 := Nat.xor_lt_two_pow (by omega) (by omega)
 rw [e, u32_xor_nat 4294967295 y (by omega) h, Nat.xor_comm]
 generalize y ^^^ 4294967295 = z at *
 unfold wrap64; omega

set_option maxHeartbeats 400000 in
set_option maxRecDepth 100000 in
theorem shift17 (x : Nat) (hx : x < 4294967296) (w : World) :
  Calls Tryd.prog 65 #[.int .u32 (x : Int)] w fun e w' => e = .returned (.int .u32 ((crcN 8 x : Nat) : Int)) ∧ w' = w := by
 have HX := hide hx
 go_enter Tryd.func65, Tryd.ntmps65
 go_wp2_with fail
 go_loop [0, 4] (fun r i => ∃ k y : Nat, k ≤ 8 ∧ i = .int .i64 k ∧ r = .int .u32 (y : Int) ∧ Hid (y = crcN k x)) (fun _ i => 8 - (intOf i).toNat)
 case atStart => exact ⟨0, x, by omega, rfl, rfl, rfl⟩
 case round =>
  obtain ⟨k, y, hk, rfl, rfl, HY⟩ := hrel
  have hy : y < 4294967296 := by have := crcN_lt k x (unhide HX); rw [← unhide HY] at this; exact this
  by_cases hlt : k < 8
  ·by_cases ho : y % 2 = 1
   ·have h1 : bits BinOp.and IntKind.u32 (y : Int) 1 = 1 := by rw [odd_u32 y hy, ho]; rfl
    have h2 : bits BinOp.xor IntKind.u32 ((y : Int) / 2) 3988292384 = ((crcStep y : Nat) : Int) := by
     have := u32_xor_nat (y / 2) 3988292384 (by omega) (by decide)
     rw [step_odd y ho, ← this]; simp
    clear ho hy hx
    go_wp2_with fail
    go_round
    case rel => exact ⟨k + 1, crcStep y, by omega, by go_num, rfl, by rw [unhide HY]; rfl⟩
    case measure => simp [intOf]; omega
   ·have h1 : bits BinOp.and IntKind.u32 (y : Int) 1 = 0 := by rw [odd_u32 y hy, show y % 2 = 0 from by omega]; rfl
    have HE := hide (step_even y ho)
    clear ho hy hx
    go_wp2_with fail
    go_round
    case rel => exact ⟨k + 1, y / 2, by omega, by go_num, by go_num, by show y / 2 = crcStep (crcN k x); rw [← unhide HE, unhide HY]⟩
    case measure => simp [intOf]; omega
  ·have ek : k = 8 := by omega
   have HV : Hid (((crcN 8 x : Nat) : Int) = (y : Int)) := by rw [unhide HY, ek]; rfl
   clear hy hx ek
   go_wp2_with fail
   go_ret
   rw [unhide HV]
   exact ⟨rfl, rfl⟩

set_option maxHeartbeats 800000 in
set_option maxRecDepth 100000 in
theorem check10 (a : Option Addr) (cap : Nat) (l : List UInt8) (hl : l.length ≤ 65536) (w : World) (hr : Row8 w a l) :
  Calls Tryd.prog 55 #[.slice a l.length cap] w fun e w' => e = .returned (.int .i64 (chk l)) ∧ w' = w := by
 have HR := hide hr
 clear hr
 go_enter Tryd.func55, Tryd.ntmps55
 go_wp2_with fail
 go_loop [3, 11] (fun r i => ∃ k y : Nat, k ≤ l.length ∧ i = .int .i64 k ∧ r = .int .u32 (y : Int) ∧ Hid (y = crcL (l.take k))) (fun _ i => l.length - (intOf i).toNat)
 case atStart => exact ⟨0, 4294967295, by omega, rfl, rfl, rfl⟩
 case round =>
  obtain ⟨k, y, hk, rfl, rfl, HY⟩ := hrel
  have hy : y < 4294967296 := by have := crcL_lt l k; rw [← unhide HY] at this; exact this
  by_cases hlt : k < l.length
  ·obtain ⟨b, off, ha, hblt, hc⟩ := (unhide HR).at (by omega)
   subst ha
   have hc1 := hc k hlt
   have hlt' : (k : Int) < (l.length : Int) := by omega
   have hcv := l[k].toNat_lt
   have h2 : bits BinOp.xor IntKind.u32 (y : Int) (l[k].toNat : Int) = ((y ^^^ l[k].toNat : Nat) : Int) := u32_xor_nat y l[k].toNat hy (by omega)
   have HZ := hide (xor_lt y l[k] hy)
   have c0 : (l[k].toNat : Int) ≤ 255 := by omega
   clear hc HR hy hblt hcv
   go_wp2_with (go_at_call 65; refine (shift17 _ (unhide HZ) _).mono ?_; rintro e w' ⟨rfl, hw⟩; subst w')
   go_round
   case rel => exact ⟨k + 1, crcN 8 (y ^^^ l[k].toNat), by omega, by go_num, rfl, by show _ = _; rw [crc_snoc l k hlt, unhide HY]⟩
   case measure => simp [intOf]; omega
  ·have HV : Hid (wrap64 (bits BinOp.xor IntKind.u32 IntKind.u32.max (y : Int)) = chk l) := by
    show _ = _
    rw [fin_u32 y hy, unhide HY, List.take_of_length_le (by omega)]; rfl
   clear hy
   go_wp2_with fail
   go_ret
   exact ⟨ret_int (unhide HV), rfl⟩

def chkA (l : List UInt8) : Int := if 65536 < l.length then 0 else chk l
theorem chkA_long {l : List UInt8} (h : 65536 < l.length) : chkA l = 0 := by unfold chkA; rw [if_pos h]
theorem chkA_ok {l : List UInt8} (h : ¬ 65536 < l.length) : chkA l = chk l := by unfold chkA; rw [if_neg h]
theorem icheck (a : Option Addr) (cap : Nat) (l : List UInt8) (hl : l.length ≤ 1048576) (w : World) (hr : Row8 w a l) :
  Calls Tryd.prog 55 #[.slice a l.length cap] w fun e w' => e = .returned (.int .i64 (chkA l)) ∧ w' = w := by
 by_cases h : 65536 < l.length
 ·have HV := hide (chkA_long h)
  clear hr
  go_enter Tryd.func55, Tryd.ntmps55
  go_wp2_with fail
  go_ret
  rw [unhide HV]
  exact ⟨rfl, rfl⟩
 ·rw [chkA_ok h]; exact check10 a cap l (by omega) w hr
end Go.Proofs.YtamjljhbnhdgdaaDoor
