/- Texts put together: InM WnM Bv Regs ArrM. -/
import Derived.Test.YtmmnoepcklfonaaGreatDoorZG0
import Derived.Laws.BitsAllLaws
import Derived.Laws.BitsLemmas
import Derived.Deep.QuietTactic
import Derived.BigQuiet
import Derived.Deep.MidRow
import Derived.WalkSmall
/- Numbers within bounds, texts of bytes within bounds, runes. Plain mathematics. -/
namespace Go.Proofs.YtmmnoepcklfonaaGreatDoor
open Go.ChangeShapes Go.WideShapes Go.ChangeAt Go.RowKit
theorem b_true {p : Prop} [Decidable p] (h : p) : true = decide p := (decide_eq_true h).symm
theorem b_false {p : Prop} [Decidable p] (h : ¬ p) : false = decide p := (decide_eq_false h).symm
def inB (n a b : Int) : Bool := decide (a ≤ n ∧ n ≤ b)
def byteIn (c : UInt8) : Bool := inB (c.toNat : Int) 32 126
def allText (t : List UInt8) : Bool := t.all byteIn
def titleB (t : List UInt8) : Bool := decide (t.length ≤ 40) && allText t
def runeB (n : Int) : Bool := decide (32 ≤ n ∧ n ≤ 1114111 ∧ n ≠ 127 ∧ ¬ (55296 ≤ n ∧ n ≤ 57343))
end Go.Proofs.YtmmnoepcklfonaaGreatDoor

/- A window's name. -/
namespace Go.Proofs.YtmmnoepcklfonaaGreatDoor
open Go.ChangeShapes Go.WideShapes Go.ChangeAt Go.RowKit
def wnB (s : ByteArray) : Bool := decide (s.size ≤ 12) && nameB s
end Go.Proofs.YtmmnoepcklfonaaGreatDoor

/- Words of 32 bits: the model's operations on uint32, said over BitVec 32. -/
namespace Go.Proofs.YtmmnoepcklfonaaGreatDoor
open Go.ChangeShapes Go.WideShapes Go.ChangeAt Go.RowKit

/-- A word as the number that the model holds; a plain definition, so that no rule of simp looks into it. -/
def wI (v : BitVec 32) : Int := (v.toNat : Int)
theorem wI_bd (v : BitVec 32) : 0 ≤ wI v ∧ wI v < 4294967296 := by unfold wI; have := v.isLt; omega
theorem bv_xor (a b : BitVec 32) : bits BinOp.xor IntKind.u32 (a.toNat : Int) (b.toNat : Int) = ((a ^^^ b).toNat : Int) := by
  rw [u32_xor_nat _ _ a.isLt b.isLt, BitVec.toNat_xor]
theorem bv_and (a b : BitVec 32) : bits BinOp.and IntKind.u32 (a.toNat : Int) (b.toNat : Int) = ((a &&& b).toNat : Int) := by
  rw [u32_and_nat _ _ a.isLt b.isLt, BitVec.toNat_and]
theorem bv_or (a b : BitVec 32) : bits BinOp.or IntKind.u32 (a.toNat : Int) (b.toNat : Int) = ((a ||| b).toNat : Int) := by
  rw [u32_or_nat _ _ a.isLt b.isLt, BitVec.toNat_or]
theorem bv_not (a : BitVec 32) : bits BinOp.xor IntKind.u32 IntKind.u32.max (a.toNat : Int) = ((~~~a).toNat : Int) := by
  have e : IntKind.u32.max = ((BitVec.allOnes 32).toNat : Int) := by simp [IntKind.max, IntKind.signed, IntKind.bits]
  rw [e, bv_xor, BitVec.allOnes_xor]
theorem bv_add (a b : BitVec 32) : ((a.toNat : Int) + (b.toNat : Int)) % 4294967296 = ((a + b).toNat : Int) := by
  rw [BitVec.toNat_add]; omega
theorem bv_addw (a b : BitVec 32) : IntKind.u32.wrap ((a.toNat : Int) + (b.toNat : Int)) = ((a + b).toNat : Int) := by
  rw [IntKind.wrap_u32', bv_add]
theorem bv_shr (a : BitVec 32) (k : Nat) : (a.toNat : Int) / 2 ^ k = ((a >>> k).toNat : Int) := by
  rw [BitVec.toNat_ushiftRight, Nat.shiftRight_eq_div_pow]; simp
theorem bv_shl (a : BitVec 32) (k : Nat) : ((a.toNat : Int) * 2 ^ k) % 4294967296 = ((a <<< k).toNat : Int) := by
  rw [BitVec.toNat_shiftLeft, Nat.shiftLeft_eq]; simp
theorem w_xor (a b : BitVec 32) : bits BinOp.xor IntKind.u32 (wI a) (wI b) = wI (a ^^^ b) := bv_xor a b
theorem w_and (a b : BitVec 32) : bits BinOp.and IntKind.u32 (wI a) (wI b) = wI (a &&& b) := bv_and a b
theorem w_or (a b : BitVec 32) : bits BinOp.or IntKind.u32 (wI a) (wI b) = wI (a ||| b) := bv_or a b
theorem w_not (a : BitVec 32) : bits BinOp.xor IntKind.u32 IntKind.u32.max (wI a) = wI (~~~a) := bv_not a
theorem w_add (a b : BitVec 32) : (wI a + wI b) % 4294967296 = wI (a + b) := bv_add a b
theorem w_addw (a b : BitVec 32) : IntKind.u32.wrap (wI a + wI b) = wI (a + b) := bv_addw a b
theorem w_shr (a : BitVec 32) (k : Nat) : wI a / 2 ^ k = wI (a >>> k) := bv_shr a k
theorem w_shl (a : BitVec 32) (k : Nat) : (wI a * 2 ^ k) % 4294967296 = wI (a <<< k) := bv_shl a k
/-- The turn to the right, as the specification's text has it. -/
def rot (x : BitVec 32) (n : Nat) : BitVec 32 := x >>> n ||| x <<< (32 - n)

set_option maxHeartbeats 400000 in
theorem turn34 (x : BitVec 32) (n : Nat) (h0 : 0 < n) (h1 : n < 32) (w : World) :
    Calls Tryz.prog 109 #[.int .u32 (wI x), .int .u64 (n : Int)] w fun e w' => e = .returned (.int .u32 (wI (rot x n))) ∧ w' = w := by
  have hn0 : (0 : Int) ≤ (n : Int) := by omega
  have hx0 := (wI_bd x).1
  have hn1 : (n : Int) < 32 := by omega
  go_enter Tryz.func109, Tryz.ntmps109
  go_wp2_with fail
  go_ret
  refine ⟨ret_int ?_, rfl⟩
  rw [w_shr, w_shl, w_or]
  rfl

theorem and31 (n : Nat) (h0 : 0 < n) (h1 : n < 32) : bits BinOp.and IntKind.u64 (IntKind.u64.wrap (-(n : Int))) 31 = ((32 - n : Nat) : Int) := by
  have h := u64_and_nat (18446744073709551616 - n) 31 (by omega) (by omega)
  rw [show (31 : Nat) = 2 ^ 5 - 1 from rfl, Nat.and_two_pow_sub_one_eq_mod] at h
  rw [show IntKind.u64.wrap (-(n : Int)) = ((18446744073709551616 - n : Nat) : Int) from by rw [IntKind.wrap_u64]; omega, show (31 : Int) = ((2 ^ 5 - 1 : Nat) : Int) from rfl, h]
  omega

set_option maxHeartbeats 400000 in
theorem rotl36 (x : BitVec 32) (n : Nat) (h0 : 0 < n) (h1 : n < 32) (w : World) :
    Calls Tryz.prog 129 #[.int .u32 (wI x), .int .i64 (-(n : Int))] w fun e w' => e = .returned (.int .u32 (wI (rot x n))) ∧ w' = w := by
  have hr := and31 n h0 h1
  obtain ⟨m, hm⟩ : ∃ m, m = 32 - n := ⟨_, rfl⟩
  rw [← hm] at hr
  have HN : Hid (32 - m = n) := by show _ = _; omega
  have HM := hide hm
  have hn0 : (0 : Int) ≤ (m : Int) := by omega
  have hx0 := (wI_bd x).1
  have hn1 : (m : Int) < 32 := by omega
  clear hm h0 h1
  go_enter Tryz.func129, Tryz.ntmps129
  go_wp2_with fail
  go_ret
  refine ⟨ret_int ?_, rfl⟩
  rw [unhide HN, w_shr, w_shl, w_or, unhide HM, BitVec.or_comm]
  rfl

set_option maxHeartbeats 400000 in
theorem turn35 (x : BitVec 32) (n : Nat) (h0 : 0 < n) (h1 : n < 32) (w : World) :
    Calls Tryz.prog 126 #[.int .u32 (wI x), .int .i64 (n : Int)] w fun e w' => e = .returned (.int .u32 (wI (rot x n))) ∧ w' = w := by
  have hn0 : (0 : Int) < (n : Int) := by omega
  have hn1 : (n : Int) < 32 := by omega
  go_enter Tryz.func126, Tryz.ntmps126
  go_wp2_with (go_at_call 129; refine (rotl36 x n h0 h1 _).mono ?_; rintro e w' ⟨rfl, hw⟩; subst w')
  go_ret
  exact ⟨rfl, rfl⟩

theorem turnI (x : BitVec 32) (n : Int) (k : Nat) (hk : n = (k : Int)) (h0 : 0 < k) (h1 : k < 32) (w : World) :
    Calls Tryz.prog 126 #[.int .u32 (wI x), .int .i64 n] w fun e w' => e = .returned (.int .u32 (wI (rot x k))) ∧ w' = w := by
  subst hk; exact turn35 x k h0 h1 w
theorem turnS (x : BitVec 32) (n : Int) (k : Nat) (hk : n = (k : Int)) (h0 : 0 < k) (h1 : k < 32) (w : World) :
    Calls Tryz.prog 109 #[.int .u32 (wI x), .int .u64 n] w fun e w' => e = .returned (.int .u32 (wI (rot x k))) ∧ w' = w := by
  subst hk; exact turn34 x k h0 h1 w
theorem turnG (x : BitVec 32) (n : Int) (h0 : 0 < n) (h1 : n < 32) (w : World) :
    Calls Tryz.prog 126 #[.int .u32 (wI x), .int .i64 n] w fun e w' => e = .returned (.int .u32 (wI (rot x n.toNat))) ∧ w' = w :=
  turnI x n n.toNat (by omega) (by omega) (by omega) w
theorem turnH (x : BitVec 32) (n : Int) (h0 : 0 < n) (h1 : n < 32) (w : World) :
    Calls Tryz.prog 109 #[.int .u32 (wI x), .int .u64 n] w fun e w' => e = .returned (.int .u32 (wI (rot x n.toNat))) ∧ w' = w :=
  turnS x n n.toNat (by omega) (by omega) (by omega) w
theorem ch_eq (e f g : BitVec 32) : (e &&& f ||| ~~~e &&& g) = (e &&& f ^^^ ~~~e &&& g) := by
  apply BitVec.eq_of_getLsbD_eq
  intro i hi
  simp only [BitVec.getLsbD_or, BitVec.getLsbD_and, BitVec.getLsbD_xor, BitVec.getLsbD_not, hi, decide_true, Bool.true_and]
  cases e.getLsbD i <;> cases f.getLsbD i <;> cases g.getLsbD i <;> rfl
theorem maj_eq (a b c : BitVec 32) : (a &&& b ||| a &&& c ||| b &&& c) = (a &&& b ^^^ a &&& c ^^^ b &&& c) := by
  apply BitVec.eq_of_getLsbD_eq
  intro i hi
  simp only [BitVec.getLsbD_or, BitVec.getLsbD_and, BitVec.getLsbD_xor]
  cases a.getLsbD i <;> cases b.getLsbD i <;> cases c.getLsbD i <;> rfl

end Go.Proofs.YtmmnoepcklfonaaGreatDoor

/- One step of the registers. -/
namespace Go.Proofs.YtmmnoepcklfonaaGreatDoor
open Go.ChangeShapes Go.WideShapes Go.ChangeAt Go.RowKit

def bs1 (e : BitVec 32) : BitVec 32 := rot e 6 ^^^ rot e 11 ^^^ rot e 25
def bs0 (a : BitVec 32) : BitVec 32 := rot a 2 ^^^ rot a 13 ^^^ rot a 22
def tOne (e f g y x : BitVec 32) : BitVec 32 := y + bs1 e + (e &&& f ||| ~~~e &&& g) + x
def tTwo (a b c : BitVec 32) : BitVec 32 := bs0 a + (a &&& b ||| a &&& c ||| b &&& c)

theorem wI_add (a b : BitVec 32) : wI (a + b) = (wI a + wI b) % 4294967296 := (w_add a b).symm
theorem sum6 (a b c d e f : BitVec 32) : (wI a + wI b + wI c + wI d + (wI e + wI f)) % 4294967296 = wI (a + b + c + d + (e + f)) := by
  simp only [wI_add]; omega
theorem sum5 (a b c d e : BitVec 32) : (wI a + (wI b + wI c + wI d + wI e)) % 4294967296 = wI (a + (b + c + d + e)) := by
  simp only [wI_add]; omega

set_option maxHeartbeats 1000000 in
set_option maxRecDepth 100000 in
theorem regs33 (a b c d e f g y x : BitVec 32) (w : World) :
    Calls Tryz.prog 120 #[.agg #[.int .u32 (wI a), .int .u32 (wI b), .int .u32 (wI c), .int .u32 (wI d), .int .u32 (wI e), .int .u32 (wI f), .int .u32 (wI g), .int .u32 (wI y)], .int .u32 (wI x)] w fun r w' =>
      r = .returned (.agg #[.int .u32 (wI (tOne e f g y x + tTwo a b c)), .int .u32 (wI a), .int .u32 (wI b), .int .u32 (wI c), .int .u32 (wI (d + tOne e f g y x)), .int .u32 (wI e), .int .u32 (wI f), .int .u32 (wI g)]) ∧ Below w.heap.size w w' := by
  have HT1 := hide (show tOne e f g y x = y + (rot e 6 ^^^ rot e 11 ^^^ rot e 25) + (e &&& f ||| ~~~e &&& g) + x from rfl)
  have HT2 := hide (show tTwo a b c = (rot a 2 ^^^ rot a 13 ^^^ rot a 22) + (a &&& b ||| a &&& c ||| b &&& c) from rfl)
  go_enter Tryz.func120, Tryz.ntmps120
  go_wp2_with fail
  go_quiet (fail)
  go_wp2_with fail
  go_quiet (fail)
  go_wp2_with fail
  refine (turnI e 6 6 rfl (by decide) (by decide) _).mono ?_
  rintro r w1 ⟨rfl, hw⟩
  subst w1
  go_wp2_with fail
  refine (turnI e 11 11 rfl (by decide) (by decide) _).mono ?_
  rintro r w1 ⟨rfl, hw⟩
  subst w1
  go_wp2_with fail
  refine (turnI e 25 25 rfl (by decide) (by decide) _).mono ?_
  rintro r w1 ⟨rfl, hw⟩
  subst w1
  go_wp2_with fail
  refine (turnI a 2 2 rfl (by decide) (by decide) _).mono ?_
  rintro r w1 ⟨rfl, hw⟩
  subst w1
  go_wp2_with fail
  refine (turnI a 13 13 rfl (by decide) (by decide) _).mono ?_
  rintro r w1 ⟨rfl, hw⟩
  subst w1
  go_wp2_with fail
  refine (turnI a 22 22 rfl (by decide) (by decide) _).mono ?_
  rintro r w1 ⟨rfl, hw⟩
  subst w1
  go_wp2_with fail
  simp only [w_xor, w_and, w_or, w_not, sum6, sum5]
  refine bodyPost_ret (v := .agg #[.int .u32 (wI (tOne e f g y x + tTwo a b c)), .int .u32 (wI a), .int .u32 (wI b), .int .u32 (wI c), .int .u32 (wI (d + tOne e f g y x)), .int .u32 (wI e), .int .u32 (wI f), .int .u32 (wI g)]) ?_ rfl ⟨rfl, ?_⟩
  · rw [unhide HT1, unhide HT2]
    simp [results, Tryz.results120, go_sem]
  · repeat (refine Below.setCell ?_ (by simp) _)
    exact below_drewN (((Below.refl _ _).alloc (Nat.le_refl _) _).alloc (by simp) _) _
end Go.Proofs.YtmmnoepcklfonaaGreatDoor

/- Arrays in memory: a block whose cells are known. -/
namespace Go.Proofs.YtmmnoepcklfonaaGreatDoor
open Go.ChangeShapes Go.WideShapes Go.ChangeAt Go.RowKit

/-- Block g holds just the cells l, and may be written. -/
def ArrAt (w : World) (g : Nat) (t : TypeId) (l : List Value) : Prop := w.heap[g]? = some (.cells l.toArray t (0, 0))
theorem ArrAt.cell {w : World} {g : Nat} {t : TypeId} {l : List Value} (h : ArrAt w g t l) (k : Nat) : w.cell? ⟨g, k, none⟩ = l[k]? := by
  rw [cell_of_row w g k l.toArray t (0, 0) h]; simp
theorem ArrAt.frozen {w : World} {g : Nat} {t : TypeId} {l : List Value} (h : ArrAt w g t l) (k : Nat) : w.frozen? ⟨g, k, none⟩ = false :=
  frozen_of_row w g k l.toArray t h
theorem ArrAt.set {w : World} {g : Nat} {t : TypeId} {l : List Value} (h : ArrAt w g t l) (k : Nat) (u : Value) : ArrAt (w.setCell ⟨g, k, none⟩ u) g t (l.set k u) := by
  have := heap_setCell_same w g k l.toArray t u h
  unfold ArrAt; rw [this]; simp
theorem ArrAt.other {w : World} {g g' : Nat} {t : TypeId} {l : List Value} (h : ArrAt w g t l) (hne : g ≠ g') (k : Nat) (u : Value) : ArrAt (w.setCell ⟨g', k, none⟩ u) g t l :=
  (heap_setCell_other w ⟨g', k, none⟩ g u hne).trans h
theorem ArrAt.drew {w : World} {g : Nat} {t : TypeId} {l : List Value} (h : ArrAt w g t l) : ArrAt w.drew g t l := h
theorem ArrAt.drewN {w : World} {g : Nat} {t : TypeId} {l : List Value} (h : ArrAt w g t l) (n : Nat) : ArrAt (w.drewN n) g t l := h
theorem ArrAt.lt {w : World} {g : Nat} {t : TypeId} {l : List Value} (h : ArrAt w g t l) : g < w.heap.size := by
  rcases Nat.lt_or_ge g w.heap.size with hlt | hge
  · exact hlt
  · unfold ArrAt at h; rw [Array.getElem?_eq_none hge] at h; cases h
theorem ArrAt.alloc {w : World} {g : Nat} {t : TypeId} {l : List Value} (h : ArrAt w g t l) (o : Obj) : ArrAt (w.alloc o) g t l :=
  (Below.heap_alloc w o g h.lt).trans h
theorem ArrAt.below {w w' : World} {B g : Nat} {t : TypeId} {l : List Value} (h : ArrAt w g t l) (hb : Below B w w') (hg : g < B) : ArrAt w' g t l :=
  (hb.block g hg).trans h
theorem arr_new (w : World) (l : List Value) (t : TypeId) : ArrAt (w.alloc (.cells l.toArray t)) w.heap.size t l := heap_alloc_new w _
theorem ArrAt.range {w : World} {g : Nat} {t : TypeId} {l : List Value} (h : ArrAt w g t l) : w.rangeAt g 0 l := fun j v hv => by
  rw [Nat.zero_add, h.cell j, hv]
theorem ArrAt.there {w : World} {g : Nat} {t : TypeId} {l : List Value} (h : ArrAt w g t l) : w.there g 0 l.length := fun j hj => by
  rw [Nat.zero_add]
  exact ⟨by rw [h.cell j, List.getElem?_eq_getElem hj]; rfl, h.frozen j⟩

end Go.Proofs.YtmmnoepcklfonaaGreatDoor
