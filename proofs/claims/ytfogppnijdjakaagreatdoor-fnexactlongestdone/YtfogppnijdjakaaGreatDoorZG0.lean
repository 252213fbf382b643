/- Texts put together: Base RowV. -/
import Derived.OrdersHeld
import Derived.Test.YtfogppnijdjakaaGreatDoorRows
import Derived.WalkKit
import Derived.ProofKit
import Derived.OpenShut
import Derived.ShutString
import Derived.WalkSpells
import Derived.WalkLawsBesides
import Derived.Deep.RegionHeld3
import Derived.Deep.AppendLies
import Derived.Laws.IdiomStrings
import Derived.Laws.OwnMore
/- Small laws on bytes, rows that a call owns and endings, for the walks of this seat. -/
namespace Go.Proofs.YtfogppnijdjakaaGreatDoor
open Go.ChangeShapes Go.WideShapes Go.ChangeAt Go.RowKit
theorem hide {p : Prop} (h : p) : Hid p := h
theorem unhide {p : Prop} (h : Hid p) : p := h
theorem ret_bool {a b : Bool} (h : a = b) : Ending.returned (.bool a) = .returned (.bool b) := by rw [h]
theorem ret_int {k : IntKind} {a b : Int} (h : a = b) : Ending.returned (.int k a) = .returned (.int k b) := by rw [h]
theorem ret_string {a b : ByteArray} (h : a = b) : Ending.returned (.string a) = .returned (.string b) := by rw [h]

/-- The cells of bytes. -/
def B8 (l : List UInt8) : List Value := l.map fun c => Value.int .u8 (c.toNat : Int)
theorem B8_len (l : List UInt8) : (B8 l).length = l.length := by simp [B8]
theorem B8_one (l : List UInt8) : ∀ u ∈ B8 l, u.oneCell' = true := by
 intro u hu; simp [B8] at hu; obtain ⟨c, _, rfl⟩ := hu; rfl
theorem wrapi (n : Int) (h0 : -4611686018427387904 ≤ n) (h1 : n ≤ 4611686018427387904) : IntKind.i64.wrap n = n := by
 simp only [IntKind.wrap, IntKind.signed, IntKind.bits]
 simp
 omega

def bAt (s : ByteArray) (i : Nat) : Int := if h : i < s.size then (s[i].toNat : Int) else 0
/-- 'string(b)' where b owns the bytes l. -/
theorem conv_own {P : Program} {w : World} {base : Nat} {src dst e : TypeId} {v : Value} {l : List UInt8} (hs : P.underlying src = some (.slice e)) (he : P.underlying e = some (.int .u8)) (hd : P.underlying dst = some .string)
  (h : w.ownsRow base e 1 v l.length (B8 l)) : (convert src dst v).run P w = .ok (.string ⟨l.toArray⟩) w := by
 rcases h.2 with ⟨rfl, h0⟩ | ⟨g, cap, cur, rfl, _, hg, _, _, _, ht⟩
 ·obtain rfl : l = [] := List.length_eq_zero_iff.1 h0
  exact run_convert_bytes_nil w src e hs he 0 0 dst hd
 ·refine run_convert_bytes_back w src dst e _ cap l hs he hd ?_
  intro j hj
  refine World.ownsRow.cells h rfl j _ ?_
  simp [B8, List.getElem?_eq_getElem hj]
/-- The cells of a block that was just made. -/
theorem news_new (w : World) (cs : List Value) (t : TypeId) : ∀ j u, cs[j]? = some u → (w.alloc (.cells cs.toArray t)).cell? ((⟨w.heap.size, 0, none⟩ : Addr).add j) = some u := by
 refine World.news_of_block (cs := cs.toArray) (t := t) (fr := (0, 0)) ?_
 show (w.heap.push _)[w.heap.size]? = _
 simp
theorem below_app {B : Nat} {a w w' : World} {o : Obj} {base : Nat} {e : TypeId} {size : Nat} {v : Value} {n : Nat} {xs : List Value} (hb : Below B a w) (hB : B ≤ w.heap.size) (hown : w.ownsRow base e size v n xs) (hbase : B ≤ base)
  (hg : (w.alloc o).grownBy w' v.ownBlock) : Below B a w' :=
 (hb.alloc hB o).grown hg (by simp; omega) fun j hj => Nat.le_trans hbase (hown.lt j hj).1
/-- A slice's address a leads to the bytes l (or there are none). -/
def Row8 (w : World) (a : Option Addr) (l : List UInt8) : Prop :=
 l = [] ∨ ∃ b off, a = some ⟨b, off, none⟩ ∧ b < w.heap.size ∧ ∀ i (h : i < l.length), w.cell? ⟨b, off + i, none⟩ = some (.int .u8 (l[i].toNat : Int))
theorem Row8.below {w w' : World} {a : Option Addr} {l : List UInt8} (h : Row8 w a l) (hb : Below w.heap.size w w') : Row8 w' a l := by
 rcases h with h | ⟨b, off, e, hlt, hc⟩
 ·exact .inl h
 ·exact .inr ⟨b, off, e, Nat.lt_of_lt_of_le hlt hb.size, fun i hi => (hb.cell (p := ⟨b, off + i, none⟩) hlt).trans (hc i hi)⟩
theorem Row8.at {w : World} {a : Option Addr} {l : List UInt8} (h : Row8 w a l) (hn : 0 < l.length) :
  ∃ b off, a = some ⟨b, off, none⟩ ∧ b < w.heap.size ∧ ∀ i (h : i < l.length), w.cell? ⟨b, off + i, none⟩ = some (.int .u8 (l[i].toNat : Int)) := by
 rcases h with rfl | h
 ·simp at hn
 ·exact h
theorem bdN {B : Nat} {a w : World} (h : Go.RowKit.Below B a w) (n : Nat) : Go.RowKit.Below B a (w.drewN n) := ⟨h.os, h.tape, h.output, h.size, h.block⟩
theorem qqA {A : Type} (l : List A) (i : Nat) (x : A) : l.toArray.setIfInBounds i x = (l.set i x).toArray := by simp
theorem qqB {A : Type} (a b : A) (l : List A) : (a :: l).set 0 b = b :: l := rfl
theorem qqC {A : Type} (a b : A) (l : List A) (n : Nat) : (a :: l).set (n + 1) b = a :: l.set n b := rfl
theorem wtk {P : Program} {md : Region.Mode} {ops : Array Oper} {Q : Exit → Act → World → Prop} {S : World → Prop} {i : Nat} {oi : Oper} {v : Value} {fuel : Nat} {listed : Array Bool} {a : Act} {w : World} (hi : ops[i]? = some oi) (hy : YieldsIf P ops S oi v a) (hS : S w) (h : wpAnyH P md ops Q S fuel (listed.setIfInBounds i true) (a.put oi.dst v) w) (hs : Region.noSelect ops = true := by kernel_rfl) (hf : Region.free md ops listed i = true := by kernel_rfl) (hr : (Region.ready md ops listed).contains i = true := by kernel_rfl) (hQ : ∀ c a w, Q (.panic c) (a.put oi.dst v) w → Q (.panic c) a w := by exact fun _ _ _ h => h) : wpAnyH P md ops Q S (fuel + 1) listed a w := wpAnyH_take hi hs hf hr hQ hy hS h
theorem wtv {P : Program} {md : Region.Mode} {ops : Array Oper} {Q : Exit → Act → World → Prop} {S : World → Prop} {fuel : Nat} {listed listed' : Array Bool} {a a' : Act} {w : World} {v : Value} (i : Nat) {oi : Oper} (h : wpAnyH P md ops Q S fuel listed' a' w) (hi : ops[i]? = some oi := by rfl) (hw : Region.wanted oi (yielded ops a.tmps) = true := by rfl) (hv : ∀ w', S w' → (execOp a.eval oi).run P w' = .ok (.value v) w' := by (intro w' hSw; (try dsimp only at hSw); go_simp; try with_reducible rfl)) (ha : a.put oi.dst v = a' := by ((try simp only [Act.put, qqA, qqB, qqC]); try rfl)) (hl : listed.setIfInBounds i true = listed' := by ((try simp only [qqA, qqB, qqC]); try rfl)) (hS : S w := by assumption) (hs : Region.noSelect ops = true := by kernel_rfl) (hf : Region.free md ops listed i = true := by kernel_rfl) (hr : (Region.ready md ops listed).contains i = true := by kernel_rfl) (hQ : ∀ c a w, Q (.panic c) (a.put oi.dst v) w → Q (.panic c) a w := by exact fun _ _ _ h => h) : wpAnyH P md ops Q S (fuel + 1) listed a w := by
 subst ha hl; exact wpAnyH_take hi hs hf hr hQ (Or.inl ⟨hw, hv⟩) hS h
theorem wtu {P : Program} {md : Region.Mode} {ops : Array Oper} {Q : Exit → Act → World → Prop} {S : World → Prop} {fuel : Nat} {listed listed' : Array Bool} {a a' : Act} {w : World} (i : Nat) {oi : Oper} (h : wpAnyH P md ops Q S fuel listed' a' w) (hi : ops[i]? = some oi := by rfl) (hw : Region.wanted oi (yielded ops a.tmps) = false := by rfl) (ha : a.put oi.dst undef = a' := by ((try simp only [Act.put, qqA, qqB, qqC]); try rfl)) (hl : listed.setIfInBounds i true = listed' := by ((try simp only [qqA, qqB, qqC]); try rfl)) (hS : S w := by assumption) (hs : Region.noSelect ops = true := by kernel_rfl) (hf : Region.free md ops listed i = true := by kernel_rfl) (hr : (Region.ready md ops listed).contains i = true := by kernel_rfl) (hQ : ∀ c a w, Q (.panic c) (a.put oi.dst undef) w → Q (.panic c) a w := by exact fun _ _ _ h => h) : wpAnyH P md ops Q S (fuel + 1) listed a w := by
 subst ha hl; exact wpAnyH_take hi hs hf hr hQ (Or.inr ⟨hw, rfl⟩) hS h
end Go.Proofs.YtfogppnijdjakaaGreatDoor

/- Rows of one-cell values that a call owns or reads, kept while other rows turn. -/
namespace Go.Proofs.YtfogppnijdjakaaGreatDoor
open Go.ChangeShapes Go.WideShapes Go.ChangeAt Go.RowKit

/-- A slice's address a leads to the values xs (or there are none). -/
def RowV (w : World) (a : Option Addr) (xs : List Value) : Prop :=
 xs = [] ∨ ∃ b off, a = some ⟨b, off, none⟩ ∧ b < w.heap.size ∧ ∀ i u, xs[i]? = some u → w.cell? ⟨b, off + i, none⟩ = some u
theorem RowV.below {w w' : World} {a : Option Addr} {xs : List Value} (h : RowV w a xs) (hb : Below w.heap.size w w') : RowV w' a xs := by
 rcases h with h | ⟨b, off, e, hlt, hc⟩
 ·exact .inl h
 ·exact .inr ⟨b, off, e, Nat.lt_of_lt_of_le hlt hb.size, fun i u hu => (hb.cell (p := ⟨b, off + i, none⟩) hlt).trans (hc i u hu)⟩
theorem RowV.at {w : World} {a : Option Addr} {xs : List Value} (h : RowV w a xs) (hn : 0 < xs.length) :
  ∃ b off, a = some ⟨b, off, none⟩ ∧ b < w.heap.size ∧ ∀ i u, xs[i]? = some u → w.cell? ⟨b, off + i, none⟩ = some u := by
 rcases h with rfl | h
 ·simp at hn
 ·exact h
theorem rowV_8 {w : World} {a : Option Addr} {l : List UInt8} (h : RowV w a (B8 l)) : Row8 w a l := by
 rcases h with h | ⟨b, off, e, hlt, hc⟩
 ·left; have := congrArg List.length h; rw [B8_len] at this; exact List.length_eq_zero_iff.1 this
 ·exact .inr ⟨b, off, e, hlt, fun i hi => hc i _ (by simp [B8, List.getElem?_eq_getElem hi])⟩
theorem row8_V {w : World} {a : Option Addr} {l : List UInt8} (h : Row8 w a l) : RowV w a (B8 l) := by
 rcases h with rfl | ⟨b, off, e, hlt, hc⟩
 ·exact .inl rfl
 ·refine .inr ⟨b, off, e, hlt, fun i u hu => ?_⟩
  have hi : i < l.length := by have := (List.getElem?_eq_some_iff.1 hu).1; rwa [B8_len] at this
  rw [hc i hi, ← hu]; simp [B8, List.getElem?_eq_getElem hi]
theorem own_rowV {w : World} {base : Nat} {e : TypeId} {v : Value} {n : Nat} {xs : List Value} (h : w.ownsRow base e 1 v n xs) : ∃ a cap, v = .slice a n cap ∧ RowV w a xs := by
 obtain ⟨hl, h2⟩ := h
 rcases h2 with ⟨rfl, rfl⟩ | ⟨g, cap, cur, rfl, hbg, hg, hrest⟩
 ·exact ⟨none, 0, rfl, .inl (List.length_eq_zero_iff.1 (by simpa using hl))⟩
 ·refine ⟨some ⟨g, 0, none⟩, cap, rfl, ?_⟩
  have hown : w.ownsRow base e 1 (.slice (some ⟨g, 0, none⟩) n cap) n xs := ⟨hl, .inr ⟨g, cap, cur, rfl, hbg, hg, hrest⟩⟩
  refine .inr ⟨g, 0, rfl, (hown.lt g rfl).2, fun i u hu => ?_⟩
  have hi : i < xs.length := (List.getElem?_eq_some_iff.1 hu).1
  rw [Nat.zero_add, hown.cellAt i (by omega), hu]

theorem row_at {w : World} {base : Nat} {e : TypeId} {a : Option Addr} {n cap : Nat} {xs : List Value} (h : w.ownsRow base e 1 (.slice a n cap) n xs) : RowV w a xs := by
 obtain ⟨a', cap', e, h⟩ := own_rowV h
 injection e with e1; subst e1; exact h
/-- 'string(b)' where b reads as the bytes l. -/
theorem conv_row8 {P : Program} {w : World} {src dst e : TypeId} {a : Option Addr} {cap : Nat} {l : List UInt8} (hs : P.underlying src = some (.slice e)) (he : P.underlying e = some (.int .u8)) (hd : P.underlying dst = some .string)
  (h : Row8 w a l) : (convert src dst (.slice a l.length cap)).run P w = .ok (.string ⟨l.toArray⟩) w := by
 cases a with
 | none =>
  rcases h with rfl | ⟨b, off, e, _⟩
  ·exact run_convert_bytes_nil w src e hs he 0 cap dst hd
  ·cases e
 | some x =>
  refine run_convert_bytes_back w src dst e x cap l hs he hd ?_
  intro j hj
  rcases h with rfl | ⟨b, off, e, hlt, hc⟩
  ·simp at hj
  ·injection e with e; subst e
   rw [show (⟨b, off, none⟩ : Addr).add j = ⟨b, off + j, none⟩ from by unfold Addr.add; split <;> simp_all, hc j hj]
theorem row8_part {w : World} {b off : Nat} {l : List UInt8} (hb : b < w.heap.size) (hc : ∀ i (h : i < l.length), w.cell? ⟨b, off + i, none⟩ = some (.int .u8 (l[i].toNat : Int))) (s n : Nat) (h : s + n ≤ l.length) : Row8 w (some ⟨b, off + s, none⟩) ((l.drop s).take n) := by
 refine .inr ⟨b, off + s, rfl, hb, fun i hi => ?_⟩
 have hi' : i < n := by rw [List.length_take] at hi; omega
 rw [show off + s + i = off + (s + i) from by omega, hc (s + i) (by omega), List.getElem_take, List.getElem_drop]
theorem part_len (l : List UInt8) (s n : Nat) (h : s + n ≤ l.length) : ((l.drop s).take n).length = n := by rw [List.length_take, List.length_drop]; omega
/-- v owns its row in a block from lo up to hi. -/
def Held (w : World) (lo hi : Nat) (e : TypeId) (v : Value) (n : Nat) (xs : List Value) : Prop :=
 w.ownsRow lo e 1 v n xs ∧ (∀ k, v.ownBlock = some k → k < hi) ∧ hi ≤ w.heap.size
theorem held_of {w : World} {lo : Nat} {e : TypeId} {v : Value} {n : Nat} {xs : List Value} (h : w.ownsRow lo e 1 v n xs) : Held w lo w.heap.size e v n xs :=
 ⟨h, fun k hk => (h.lt k hk).2, Nat.le_refl _⟩
theorem Held.below {w w' : World} {lo hi B : Nat} {e : TypeId} {v : Value} {n : Nat} {xs : List Value} (h : Held w lo hi e v n xs) (hb : Below B w w') (hB : hi ≤ B) : Held w' lo hi e v n xs := by
 obtain ⟨⟨hl, h2⟩, hk, hs⟩ := h
 refine ⟨⟨hl, ?_⟩, hk, Nat.le_trans hs hb.size⟩
 rcases h2 with h2 | ⟨g, cap, cur, rfl, hbg, hg, hrest⟩
 ·exact .inl h2
 ·exact .inr ⟨g, cap, cur, rfl, hbg, (hb.block g (Nat.lt_of_lt_of_le (hk g rfl) hB)).trans hg, hrest⟩
theorem Held.grown {w w' : World} {lo hi : Nat} {row : Option Nat} {e : TypeId} {v : Value} {n : Nat} {xs : List Value} (h : Held w lo hi e v n xs) (hg : w.grownBy w' row) (hr : ∀ k, row = some k → k < lo ∨ hi ≤ k) : Held w' lo hi e v n xs := by
 obtain ⟨ho, hk, hs⟩ := h
 refine ⟨ho.kept hg ?_, hk, Nat.le_trans hs hg.size⟩
 cases hv : v.ownBlock with
 | none => exact .inl rfl
 | some k =>
  right; intro he
  rcases hr k he.symm with h1 | h1
  ·exact absurd (ho.lt k hv).1 (by omega)
  ·exact absurd (hk k hv) (by omega)
theorem Held.row {w : World} {lo hi : Nat} {e : TypeId} {v : Value} {n : Nat} {xs : List Value} (h : Held w lo hi e v n xs) : ∃ a cap, v = .slice a n cap ∧ RowV w a xs := own_rowV h.1
theorem Held.own {w : World} {lo hi : Nat} {e : TypeId} {v : Value} {n : Nat} {xs : List Value} (h : Held w lo hi e v n xs) : w.ownsRow lo e 1 v n xs := h.1
theorem Held.le {w : World} {lo hi : Nat} {e : TypeId} {v : Value} {n : Nat} {xs : List Value} (h : Held w lo hi e v n xs) : hi ≤ w.heap.size := h.2.2
theorem Held.blk {w : World} {lo hi : Nat} {e : TypeId} {v : Value} {n : Nat} {xs : List Value} (h : Held w lo hi e v n xs) : ∀ k, v.ownBlock = some k → lo ≤ k ∧ k < hi := fun k hk => ⟨(h.1.lt k hk).1, h.2.1 k hk⟩
theorem Below.marked {w0 w w' : World} {B lo hi : Nat} {e : TypeId} {v : Value} {n : Nat} {xs : List Value} (hb : Below B w0 w) (hB : B ≤ w.heap.size) (h : Held w lo hi e v n xs) (hl : B ≤ lo) (hg : w.grownBy w' v.ownBlock) : Below B w0 w' :=
 hb.grown hg hB fun k hk => Nat.le_trans hl (h.blk k hk).1

theorem Held.rowV {w : World} {lo hi : Nat} {e : TypeId} {a : Option Addr} {n cap : Nat} {xs : List Value} (h : Held w lo hi e (.slice a n cap) n xs) : RowV w a xs := row_at h.1
/-- The first j values turned into f's. -/
def markV (xs : List Value) (f : Nat → Value) (j : Nat) : List Value := (List.range j).map f ++ xs.drop j
theorem markV_zero (xs : List Value) (f : Nat → Value) : markV xs f 0 = xs := by simp [markV]
theorem markV_all (xs : List Value) (f : Nat → Value) (j : Nat) (h : j = xs.length) : markV xs f j = (List.range j).map f := by
 unfold markV; rw [List.drop_of_length_le (by omega)]; simp
theorem markV_at (xs : List Value) (f : Nat → Value) (j : Nat) : (markV xs f j)[j]? = xs[j]? := by
 unfold markV
 rw [List.getElem?_append_right (by simp)]; simp
theorem markV_set (xs : List Value) (f : Nat → Value) (j : Nat) (h : j < xs.length) : (markV xs f j).set j (f j) = markV xs f (j + 1) := by
 unfold markV
 rw [List.set_append_right _ _ (by simp)]
 simp only [List.length_map, List.length_range, Nat.sub_self]
 rw [List.drop_eq_getElem_cons h, List.set_cons_zero, List.range_succ, List.map_append]
 simp
/-- A made row of zeros z whose first k places have been filled from xs. -/
def fillV (z : Value) (xs : List Value) (k : Nat) : List Value := xs.take k ++ List.replicate (xs.length - k) z
theorem fillV_zero (z : Value) (xs : List Value) (hz : z.cells = #[z]) : fillV z xs 0 = (madeCells z.cells (xs.length * 1)).toList := by
 rw [hz, toList_madeCells_one]; simp [fillV]
theorem fillV_all (z : Value) (xs : List Value) (k : Nat) (h : xs.length ≤ k) : fillV z xs k = xs := by
 unfold fillV; rw [List.take_of_length_le h, show xs.length - k = 0 from by omega]; simp
theorem fillV_set (z : Value) (xs : List Value) (k : Nat) (u : Value) (h : xs[k]? = some u) : (fillV z xs k).set k u = fillV z xs (k + 1) := by
 obtain ⟨hk, rfl⟩ := List.getElem?_eq_some_iff.1 h
 have e1 : (xs.take k).length = k := by rw [List.length_take]; omega
 unfold fillV
 rw [List.set_append_right _ _ (by omega), e1, Nat.sub_self, List.take_succ_eq_append_getElem hk]
 obtain ⟨m, hm⟩ : ∃ m, xs.length - k = m + 1 := ⟨xs.length - k - 1, by omega⟩
 rw [hm, show xs.length - (k + 1) = m from by omega, List.replicate_succ, List.set_cons_zero, List.append_assoc]
 rfl
theorem fillV_at (z : Value) (xs : List Value) (k : Nat) (h : k < xs.length) : (fillV z xs k)[k]? = some z := by
 have e1 : (xs.take k).length = k := by rw [List.length_take]; omega
 unfold fillV
 rw [List.getElem?_append_right (by omega), e1, Nat.sub_self]
 obtain ⟨m, hm⟩ : ∃ m, xs.length - k = m + 1 := ⟨xs.length - k - 1, by omega⟩
 rw [hm]; rfl
theorem cell_of {xs : List Value} {j : Nat} (h : j < xs.length) : ∃ u, xs[j]? = some u := ⟨xs[j], List.getElem?_eq_getElem h⟩
theorem stored_grown {w : World} {g j : Nat} {u : Value} : w.grownBy (w.setCell ⟨g, j, none⟩ u) (some g) := by
 refine ⟨rfl, rfl, rfl, by simp, fun k _ hk => ?_⟩
 have hk' : g ≠ k := fun e => hk (by rw [e])
 simp [World.setCell, Array.getElem?_modify, hk']
theorem World.grownBy.trans' {a b c : World} {row : Option Nat} (h : a.grownBy b row) (k : b.grownBy c row) : a.grownBy c row :=
 ⟨k.os.trans h.os, k.tape.trans h.tape, k.output.trans h.output, Nat.le_trans h.size k.size, fun i hi hr => (k.block i (Nat.lt_of_lt_of_le hi h.size) hr).trans (h.block i hi hr)⟩
theorem below_undrew {B : Nat} {w w' : World} (h : Below B w.drew w') : Below B w w' := ⟨h.os, h.tape, h.output, h.size, h.block⟩
theorem grownBy_refl (w : World) (row : Option Nat) : w.grownBy w row := ⟨rfl, rfl, rfl, Nat.le_refl _, fun _ _ _ => rfl⟩
theorem bcell {W w1 : World} (hb : Below W.heap.size W w1) : (∀ b o, b < W.heap.size → w1.cell? ⟨b, o, none⟩ = W.cell? ⟨b, o, none⟩) ∧ (∀ b o, b < W.heap.size → w1.frozen? ⟨b, o, none⟩ = W.frozen? ⟨b, o, none⟩) :=
 ⟨fun b o h => hb.cell (p := ⟨b, o, none⟩) h, fun b o h => hb.frozen (p := ⟨b, o, none⟩) h⟩
end Go.Proofs.YtfogppnijdjakaaGreatDoor
