/- Texts put together: RsM BitI CelM VwM NumI Bf. -/
import Derived.Test.YtmmnoepcklfonaaGreatDoorZG13
import Derived.Test.YtmmnoepcklfonaaGreatDoorZStrS
import Derived.Test.YtmmnoepcklfonaaGreatDoorZG0
import Derived.Laws.BitsAllLaws
import Derived.Test.YtmmnoepcklfonaaGreatDoorZG1
/- Bytes that hold cells. Plain mathematics. -/
namespace Go.Proofs.YtmmnoepcklfonaaGreatDoor
open Go.ChangeShapes Go.WideShapes Go.ChangeAt Go.RowKit
set_option linter.unusedVariables false
def c4 (d : List UInt8) (k : Nat) : Int × Int := (((ofBE ((d.drop (4 * k)).take 3) : Nat) : Int), ((ofBE ((d.drop (4 * k + 3)).take 1) : Nat) : Int))
def cells4 (d : List UInt8) (n : Nat) : List (Int × Int) := (List.range n).map (c4 d)
theorem cells4_len (d : List UInt8) (n : Nat) : (cells4 d n).length = n := by simp [cells4]
theorem cells4_snoc (d : List UInt8) (n : Nat) : cells4 d (n + 1) = cells4 d n ++ [c4 d n] := by simp [cells4, List.range_succ]
/-- The cells of rows of n cells each. -/
def rowsC (n : Nat) (R : List ByteArray) : List (Int × Int) := R.flatMap fun r => cells4 r.data.toList n
theorem cP_snoc (l : List (Int × Int)) (c : Int × Int) : cP (l ++ [c]) = cP l ++ [.int .i64 c.1, .int .i64 c.2] := by simp [cP]
end Go.Proofs.YtmmnoepcklfonaaGreatDoor

/- Sets of rows as bits: plain mathematics, and the program's small functions. -/
namespace Go.Proofs.YtmmnoepcklfonaaGreatDoor
open Go.ChangeShapes Go.WideShapes Go.ChangeAt Go.RowKit
set_option linter.unusedVariables false
/-- The set of the numbers below k of which f says yes. -/
def bset (f : Nat → Bool) : Nat → Nat
  | 0 => 0
  | k + 1 => bset f k + if f k then 2 ^ k else 0
theorem bset_lt (f : Nat → Bool) (k : Nat) : bset f k < 2 ^ k := by
  induction k with
  | zero => simp [bset]
  | succ k ih => unfold bset; rw [Nat.pow_succ]; split <;> omega
theorem pow_le10 {k : Nat} (h : k ≤ 10) : 2 ^ k ≤ 1024 := Nat.pow_le_pow_right (by decide) h
theorem bset_small (f : Nat → Bool) (k : Nat) (h : k ≤ 10) : bset f k < 1024 := Nat.lt_of_lt_of_le (bset_lt f k) (pow_le10 h)
theorem bset_or (f : Nat → Bool) (k : Nat) : bset f k ||| 2 ^ k = bset f k + 2 ^ k := by
  have h := Nat.two_pow_add_eq_or_of_lt (bset_lt f k) 1
  rw [Nat.mul_one] at h
  rw [Nat.or_comm, ← h, Nat.add_comm]
theorem bset_yes {f : Nat → Bool} {k : Nat} (h : f k = true) : bset f (k + 1) = bset f k ||| 2 ^ k := by rw [bset_or]; simp [bset, h]
theorem bset_no {f : Nat → Bool} {k : Nat} (h : f k = false) : bset f (k + 1) = bset f k := by simp [bset, h]
theorem bset_all {f : Nat → Bool} {k : Nat} (h : ∀ i, i < k → f i = true) : bset f k = 2 ^ k - 1 := by
  induction k with
  | zero => rfl
  | succ k ih =>
    have h1 := ih fun i hi => h i (by omega)
    have h2 : 0 < 2 ^ k := Nat.two_pow_pos k
    unfold bset
    rw [h1, h k (by omega), Nat.pow_succ, if_pos rfl]
    omega
theorem bset_less {f : Nat → Bool} {k i : Nat} (hi : i < k) (h : f i = false) : bset f k < 2 ^ k - 1 := by
  induction k with
  | zero => omega
  | succ k ih =>
    have h2 : 0 < 2 ^ k := Nat.two_pow_pos k
    have h3 := bset_lt f k
    unfold bset
    rw [Nat.pow_succ]
    by_cases e : i = k
    · subst e; rw [h]; simp; omega
    · have h4 := ih (by omega)
      split <;> omega
theorem ofInt_u16 (a : Nat) (ha : a < 65536) : (BitVec.ofInt 16 (a : Int)).toNat = a := by rw [BitVec.ofInt_natCast, BitVec.toNat_ofNat]; exact Nat.mod_eq_of_lt (by omega)
theorem u16_or_nat (a b : Nat) (ha : a < 65536) (hb : b < 65536) : bits .or .u16 (a : Int) (b : Int) = ((a ||| b : Nat) : Int) := by
  have hx : a ||| b < 2 ^ 16 := Nat.or_lt_two_pow (by omega) (by omega)
  show IntKind.u16.wrap ((BitVec.ofInt 16 (a : Int) ||| BitVec.ofInt 16 (b : Int)).toNat : Int) = _
  rw [BitVec.toNat_or, ofInt_u16 a ha, ofInt_u16 b hb, IntKind.wrap_u16]
  omega
theorem pow16 {y : Nat} (h : y ≤ 10) : IntKind.u16.wrap ((2 : Int) ^ y) = ((2 ^ y : Nat) : Int) := by
  have := pow_le10 h
  have e : (2 : Int) ^ y = ((2 ^ y : Nat) : Int) := by simp
  rw [e, IntKind.wrap_u16]
  generalize 2 ^ y = p at this
  omega
theorem pow16m {y : Nat} (h : y ≤ 10) : IntKind.u16.wrap (IntKind.u16.wrap ((2 : Int) ^ y) - 1) = ((2 ^ y - 1 : Nat) : Int) := by
  have := pow_le10 h
  have h2 : 0 < 2 ^ y := Nat.two_pow_pos y
  rw [pow16 h, IntKind.wrap_u16]
  generalize 2 ^ y = p at this h2
  omega
theorem ret_u16 {a b : Int} (h : a = b) : Ending.returned (.int .u16 a) = Ending.returned (.int .u16 b) := by rw [h]
set_option maxHeartbeats 400000 in
set_option maxRecDepth 100000 in
theorem iwith (s y q : Nat) (hs : s < 1024) (hy : y < 10) (HQ : Hid (q = (s ||| 2 ^ y))) (w : World) : Calls Tryz.prog 70 #[.int .u16 (s : Int), .int .i64 (y : Int)] w fun e w' => e = .returned (.int .u16 (q : Int)) ∧ w' = w := by
  have hy0 : ¬ (y : Int) < 0 := by omega
  go_enter Tryz.func70, Tryz.ntmps70
  go_wp2_with fail
  go_ret
  refine ⟨ret_u16 ?_, rfl⟩
  have := pow_le10 (Nat.le_of_lt hy)
  rw [unhide HQ, pow16 (Nat.le_of_lt hy), u16_or_nat _ _ (by omega) (by omega)]
set_option maxHeartbeats 400000 in
set_option maxRecDepth 100000 in
theorem ifirstR (c q : Nat) (hc : c ≤ 10) (HQ : Hid (q = 2 ^ c - 1)) (w : World) : Calls Tryz.prog 51 #[.int .i64 (c : Int)] w fun e w' => e = .returned (.int .u16 (q : Int)) ∧ w' = w := by
  have hc0 : ¬ (c : Int) < 0 := by omega
  go_enter Tryz.func51, Tryz.ntmps51
  go_wp2_with fail
  go_ret
  exact ⟨ret_u16 (by rw [unhide HQ]; exact pow16m hc), rfl⟩
set_option maxHeartbeats 400000 in
set_option maxRecDepth 100000 in
theorem iends (s y : Nat) (hy : y < 10) (R : Bool) (HR : Hid (R = decide (s < 2 ^ y))) (w : World) : Calls Tryz.prog 69 #[.int .u16 (s : Int), .int .i64 (y : Int)] w fun e w' => e = .returned (.bool R) ∧ w' = w := by
  have hy0 : ¬ (y : Int) < 0 := by omega
  go_enter Tryz.func69, Tryz.ntmps69
  go_wp2_with fail
  go_ret
  refine ⟨ret_bool ?_, rfl⟩
  have e : (s : Int) / 2 ^ y = ((s / 2 ^ y : Nat) : Int) := by simp
  rw [unhide HR, e]
  by_cases h : s < 2 ^ y
  · rw [Nat.div_eq_of_lt h, decide_eq_true h]; rfl
  · have h0 : 0 < s / 2 ^ y := Nat.div_pos (by omega) (Nat.two_pow_pos y)
    rw [decide_eq_false h, beq_eq_false_iff_ne]
    generalize s / 2 ^ y = q at h0
    omega
end Go.Proofs.YtmmnoepcklfonaaGreatDoor

/- Right cells. Plain mathematics. -/
namespace Go.Proofs.YtmmnoepcklfonaaGreatDoor
open Go.ChangeShapes Go.WideShapes Go.ChangeAt Go.RowKit
def cellB (c : Int × Int) : Bool := runeB c.1 && inB c.2 0 127
theorem all_take {α : Type} {l : List α} {f : α → Bool} (h : ∀ q (hq : q < l.length), f l[q] = true) : l.all f = true := by
  rw [List.all_eq_true]
  intro x hx
  obtain ⟨q, hq, rfl⟩ := List.mem_iff_getElem.1 hx
  exact h q hq
theorem all_bad {α : Type} {l : List α} {f : α → Bool} {q : Nat} (hq : q < l.length) (h : f l[q] = false) : l.all f = false := by
  rw [List.all_eq_false]
  exact ⟨l[q], List.getElem_mem hq, by rw [h]; decide⟩
end Go.Proofs.YtmmnoepcklfonaaGreatDoor

/- Rows of a view: which are right. Plain mathematics. -/
namespace Go.Proofs.YtmmnoepcklfonaaGreatDoor
open Go.ChangeShapes Go.WideShapes Go.ChangeAt Go.RowKit
set_option linter.unusedVariables false
/-- The bytes of W right cells. -/
def rowB (W : Nat) (r : ByteArray) : Bool := decide (r.size = 4 * W) && (cells4 r.data.toList W).all cellB
def rowAt (W : Nat) (R : List ByteArray) (k : Nat) : Bool := match R[k]? with | some r => rowB W r | none => false
theorem rowAt_at (W : Nat) (R : List ByteArray) (k : Nat) (h : k < R.length) : rowAt W R k = rowB W R[k] := by unfold rowAt; rw [List.getElem?_eq_getElem h]
/-- Just H rows, each right. -/
def rowsB (W H : Nat) (R : List ByteArray) : Bool := decide (R.length = H) && R.all (rowB W)
theorem rows_set {W : Nat} {R : List ByteArray} {n : Nat} (hn : R.length = n) : decide (bset (rowAt W R) n = 2 ^ n - 1) = R.all (rowB W) := by
  subst hn
  by_cases h : ∀ q (hq : q < R.length), rowB W R[q] = true
  · rw [all_take h, decide_eq_true (bset_all fun i hi => by rw [rowAt_at W R i hi]; exact h i hi)]
  · have h2 : ∃ q, ∃ hq : q < R.length, rowB W R[q] = false := by
      apply Classical.byContradiction
      intro hc
      apply h
      intro q hq
      cases hb : rowB W R[q]
      · exact absurd ⟨q, hq, hb⟩ hc
      · rfl
    obtain ⟨q, hq, hb⟩ := h2
    rw [all_bad hq hb, decide_eq_false]
    exact Nat.ne_of_lt (bset_less hq (by rw [rowAt_at W R q hq]; exact hb))
theorem rowB_len {W : Nat} {r : ByteArray} (h : r.size ≠ 4 * W) : rowB W r = false := by unfold rowB; rw [decide_eq_false h]; rfl
theorem rowB_yes {W : Nat} {r : ByteArray} (h : r.size = 4 * W) (h2 : ∀ q (hq : q < (cells4 r.data.toList W).length), cellB (cells4 r.data.toList W)[q] = true) : rowB W r = true := by unfold rowB; rw [decide_eq_true h, all_take h2]; rfl
theorem rowB_no {W : Nat} {r : ByteArray} {q : Nat} (hq : q < (cells4 r.data.toList W).length) (h : cellB (cells4 r.data.toList W)[q] = false) : rowB W r = false := by unfold rowB; rw [all_bad hq h, Bool.and_false]
theorem rowB_noD {W : Nat} {r : ByteArray} {d : List UInt8} {q : Nat} (hd : d = r.data.toList) (hq : q < (cells4 d W).length) (h : cellB (cells4 d W)[q] = false) : rowB W r = false := by subst hd; exact rowB_no hq h
end Go.Proofs.YtmmnoepcklfonaaGreatDoor

/- numberOf: the number of a row of bytes. -/
namespace Go.Proofs.YtmmnoepcklfonaaGreatDoor
open Go.ChangeShapes Go.WideShapes Go.ChangeAt Go.RowKit
set_option maxHeartbeats 400000 in
set_option maxRecDepth 100000 in
/-- numberOf: the number of at most four bytes. -/
theorem inumber (a : Option Addr) (cap : Nat) (l : List UInt8) (hl : l.length ≤ 4) (w : World) (hr : Row8 w a l) :
    Calls Tryz.prog 82 #[.slice a l.length cap] w fun e w' => e = .returned (.int .i64 ((ofBE l : Nat) : Int)) ∧ w' = w := by
  have HR := hide hr
  clear hr
  go_enter Tryz.func82, Tryz.ntmps82
  go_wp2_with fail
  go_loop [3, 8] (fun r i => ∃ k y : Nat, k ≤ l.length ∧ i = .int .i64 k ∧ r = .int .i64 (y : Int) ∧ Hid (y = ofBE (l.take k))) (fun _ i => l.length - (intOf i).toNat)
  case atStart => exact ⟨0, 0, by omega, rfl, rfl, rfl⟩
  case round =>
    obtain ⟨k, y, hk, rfl, rfl, HY⟩ := hrel
    have hy : y < 256 ^ k := by have := ofBE_lt l k; rw [← unhide HY] at this; exact this
    by_cases hlt : k < l.length
    · obtain ⟨b, off, ha, hblt, hc⟩ := (unhide HR).at (by omega)
      subst ha
      have hy2 : y < 16777216 := Nat.lt_of_lt_of_le hy (Nat.le_trans (Nat.pow_le_pow_right (by decide) (show k ≤ 3 by omega)) (by decide))
      have hc1 := hc k hlt
      have hlt' : (k : Int) < (l.length : Int) := by omega
      have hcv := l[k].toNat_lt
      have h2 : bits BinOp.or IntKind.i64 ((y : Int) * 256) (l[k].toNat : Int) = ((y * 256 + l[k].toNat : Nat) : Int) := or_byte y l[k].toNat (by omega) (by omega)
      have c0 : (l[k].toNat : Int) ≤ 255 := by omega
      have y0 : (y : Int) ≤ 16777216 := by omega
      clear hc HR hy hblt hcv hy2
      go_wp2_with fail
      go_round
      case rel => exact ⟨k + 1, y * 256 + l[k].toNat, by omega, by go_num, rfl, by show _ = _; rw [ofBE_snoc l k hlt, unhide HY]⟩
      case measure => simp [intOf]; omega
    · have HV : Hid (((ofBE l : Nat) : Int) = (y : Int)) := by show _ = _; rw [unhide HY, List.take_of_length_le (by omega)]
      clear hy
      go_wp2_with fail
      go_ret
      exact ⟨ret_int (unhide HV).symm, rfl⟩
end Go.Proofs.YtmmnoepcklfonaaGreatDoor

/- A block that stands, and what is stored into it. -/
namespace Go.Proofs.YtmmnoepcklfonaaGreatDoor
open Go.ChangeShapes Go.WideShapes Go.ChangeAt Go.RowKit
/-- A block that stands and may be written. -/
structure BF (n : Nat) (cs : Array Value) (wA : World) : Prop where
  S : ∀ o, wA.cell? ⟨n, o, none⟩ = cs[o]?
  F : ∀ o, wA.frozen? ⟨n, o, none⟩ = false
  lt : n < wA.heap.size
theorem BF.keep {n : Nat} {cs : Array Value} {wA w' : World} (h : BF n cs wA) (hs : wA.heap.size ≤ w'.heap.size) (hb : w'.heap[n]? = wA.heap[n]?) : BF n cs w' :=
  ⟨fun o => (World.cell?_of_block hb).trans (h.S o), fun o => (World.frozen?_of_block hb).trans (h.F o), Nat.lt_of_lt_of_le h.lt hs⟩
theorem BF.below {n : Nat} {cs : Array Value} {wA w' : World} (h : BF n cs wA) (hb : Below wA.heap.size wA w') : BF n cs w' := h.keep hb.size (hb.block n h.lt)
theorem BF.alloc {n : Nat} {cs : Array Value} {wA : World} (h : BF n cs wA) (o : Obj) : BF n cs (wA.alloc o) := h.below ((Below.refl _ _).alloc (Nat.le_refl _) o)
theorem BF.grown {n : Nat} {cs : Array Value} {wA w' : World} {row : Option Nat} (h : BF n cs wA) (hg : wA.grownBy w' row) (hne : row ≠ some n) : BF n cs w' := h.keep hg.size (hg.block n h.lt (fun e => hne e.symm))
theorem BF.new (wA : World) (cs : Array Value) (t : TypeId) : BF wA.heap.size cs (wA.alloc (.cells cs t)) := ⟨fun o => World.cell?_alloc_mark wA _ _ _ o, fun o => by simp [go_sem], by simp⟩
theorem BF.set {n : Nat} {cs : Array Value} {wA : World} (h : BF n cs wA) (o : Nat) (ho : o < cs.size) (v : Value) : BF n (cs.setIfInBounds o v) (wA.setCell ⟨n, o, none⟩ v) := by
  refine ⟨fun k => ?_, fun k => by rw [World.frozen?_setCell]; exact h.F k, by simpa using h.lt⟩
  by_cases e : k = o
  · subst e
    have h1 : wA.cell? ⟨n, k, none⟩ = some cs[k] := by rw [h.S k]; exact Array.getElem?_eq_getElem ho
    rw [World.cell?_setCell_same _ _ _ h1, Array.getElem?_setIfInBounds_self_of_lt ho]
  · rw [World.cell?_setCell_other _ _ _ _ (by intro h2; injection h2 with _ h3; exact e h3.symm), h.S k, Array.getElem?_setIfInBounds_ne (Ne.symm e)]
theorem BF.far {n : Nat} {cs : Array Value} {wA : World} (h : BF n cs wA) (a : Addr) (v : Value) (hne : a.block ≠ n) : BF n cs (wA.setCell a v) :=
  ⟨fun k => by rw [World.cell?_setCell_other _ _ _ _ (by intro h2; rw [h2] at hne; exact hne rfl)]; exact h.S k, fun k => by rw [World.frozen?_setCell]; exact h.F k, by simpa using h.lt⟩
theorem BF.drew {n : Nat} {cs : Array Value} {wA : World} (h : BF n cs wA) : BF n cs wA.drew := h.below (Below.refl _ _).drew
end Go.Proofs.YtmmnoepcklfonaaGreatDoor
