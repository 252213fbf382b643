/- Texts put together: BeM FrmR NumS StrS FrmU InM MinM StoM WrM Pair. -/
import Derived.Test.YtamjljhbnhdgdaaDoorZG1
import Derived.Lib.ConvBytes
import Derived.Test.YtamjljhbnhdgdaaDoorZG0
/- Numbers as bytes and back. Plain mathematics. -/
namespace Go.Proofs.YtamjljhbnhdgdaaDoor
theorem ofBE_from (l : List UInt8) : ∀ n : Nat, l.foldl (fun n c => n * 256 + c.toNat) n = n * 256 ^ l.length + ofBE l := by
 induction l with
 | nil => intro n; simp [ofBE]
 | cons c l ih =>
  intro n
  unfold ofBE
  rw [List.foldl_cons, List.foldl_cons, ih, ih (0 * 256 + c.toNat), List.length_cons, Nat.pow_succ, Nat.add_mul, Nat.zero_mul, Nat.zero_add, Nat.mul_assoc, Nat.mul_comm 256, Nat.add_assoc]
theorem ofBE_cons (c : UInt8) (l : List UInt8) : ofBE (c :: l) = c.toNat * 256 ^ l.length + ofBE l := by
 show List.foldl (fun n c => n * 256 + c.toNat) (0 * 256 + c.toNat) l = _
 rw [ofBE_from, Nat.zero_mul, Nat.zero_add]
theorem ofBE_be (v : Nat) : ∀ s, ofBE (be v s) = v % 256 ^ s
 | 0 => by simp [be, ofBE, Nat.mod_one]
 | s + 1 => by
  rw [be, ofBE_cons, be_len, ofBE_be v s, Nat.mod_pow_succ]
  unfold nb
  rw [UInt8.toNat_ofNat', Nat.mod_mod, Nat.mul_comm, Nat.add_comm]
theorem ofBE_lt2 (l : List UInt8) : ofBE l < 256 ^ l.length := by
 have := ofBE_lt l l.length
 rwa [List.take_length] at this
theorem be_add (a r s : Nat) : ∀ t, t ≤ s → be (a * 256 ^ s + r) t = be r t
 | 0, _ => rfl
 | t + 1, h => by
  rw [be, be, be_add a r s t (by omega)]
  congr 1
  unfold nb
  congr 1
  have e : a * 256 ^ s = 256 ^ t * (a * 256 ^ (s - t - 1) * 256) := by
   rw [Nat.mul_assoc, ← Nat.pow_succ, Nat.mul_left_comm, ← Nat.pow_add]
   congr 2
   omega
  rw [e, Nat.add_comm, Nat.add_mul_div_left _ _ (Nat.pow_pos (by decide))]
  omega
theorem be_ofBE (l : List UInt8) : be (ofBE l) l.length = l := by
 induction l with
 | nil => rfl
 | cons c l ih =>
  rw [List.length_cons, ofBE_cons, be, be_add _ _ _ _ (Nat.le_refl _), ih]
  congr 1
  unfold nb
  rw [Nat.mul_comm, Nat.mul_add_div (Nat.pow_pos (by decide)), Nat.div_eq_of_lt (ofBE_lt2 l), Nat.add_zero, Nat.mod_eq_of_lt c.toNat_lt]
  exact UInt8.ofNat_toNat
end Go.Proofs.YtamjljhbnhdgdaaDoor

/- Frames that were put together are read back; of a beginning of them a beginning is read. Plain mathematics. -/
namespace Go.Proofs.YtamjljhbnhdgdaaDoor
open Go.ChangeShapes Go.WideShapes Go.ChangeAt Go.RowKit
theorem chk_lt (l : List UInt8) : 0 ≤ chk l ∧ chk l < 4294967296 := by
 have h := crcL_lt l l.length
 rw [List.take_length] at h
 have h2 : crcL l ^^^ 4294967295 < 2 ^ 32 := Nat.xor_lt_two_pow h (by decide)
 rw [show (2 : Nat) ^ 32 = 4294967296 from rfl] at h2
 unfold chk
 omega
/-- The bytes of a frame. -/
def frmB (d : List UInt8) : List UInt8 := be d.length 3 ++ be (chk (be d.length 3 ++ d)).toNat 4 ++ d
theorem frmB_len (d : List UInt8) : (frmB d).length = 7 + d.length := by
 unfold frmB
 rw [List.length_append, List.length_append, be_len, be_len]
theorem frm_read (d r : List UInt8) (h1 : 1 ≤ d.length) (h2 : d.length ≤ 65536) : frC (frmB d ++ r) = 0 ∧ frN (frmB d ++ r) = d.length ∧ frD (frmB d ++ r) = d ∧ frT (frmB d ++ r) = r := by
 have t3 : (frmB d ++ r).take 3 = be d.length 3 := by unfold frmB; rw [List.append_assoc, List.append_assoc]; exact List.take_left' (be_len _ _)
 have d3 : (frmB d ++ r).drop 3 = be (chk (be d.length 3 ++ d)).toNat 4 ++ (d ++ r) := by unfold frmB; rw [List.append_assoc, List.append_assoc]; exact List.drop_left' (be_len _ _)
 have d7 : (frmB d ++ r).drop 7 = d ++ r := by
  rw [show 7 = 3 + 4 from rfl, ← List.drop_drop, d3]; exact List.drop_left' (be_len _ _)
 have t4 : ((frmB d ++ r).drop 3).take 4 = be (chk (be d.length 3 ++ d)).toNat 4 := by rw [d3]; exact List.take_left' (be_len _ _)
 have hN : frN (frmB d ++ r) = d.length := by unfold frN; rw [t3, ofBE_be]; exact Nat.mod_eq_of_lt (by omega)
 have hl : (frmB d ++ r).length = 7 + d.length + r.length := by rw [List.length_append, frmB_len]
 have hD : ((frmB d ++ r).drop 7).take d.length = d := by rw [d7]; exact List.take_left' rfl
 refine ⟨?_, hN, ?_, ?_⟩
 ·unfold frC
  rw [hN, hl, if_neg (by omega), if_neg (by omega), if_neg (by omega), hD, t3, t4, ofBE_be, if_pos]
  have := chk_lt (be d.length 3 ++ d)
  rw [Nat.mod_eq_of_lt (by omega)]
  omega
 ·unfold frD; rw [hN, hD]
 ·unfold frT; rw [hN, d7]; exact List.drop_left' rfl
def frmsB (ds : List (List UInt8)) : List UInt8 := ds.flatMap frmB
theorem frs_fuel : ∀ (f g : Nat) (l : List UInt8), l.length ≤ f → l.length ≤ g → frs f l = frs g l
 | 0, g, l, h, h2 => by have : l = [] := List.eq_nil_of_length_eq_zero (by omega); subst this; rw [frs_nil, frs_nil]
 | f + 1, 0, l, h, h2 => by have : l = [] := List.eq_nil_of_length_eq_zero (by omega); subst this; rw [frs_nil, frs_nil]
 | f + 1, g + 1, l, h, h2 => by
  by_cases h0 : l = []
  ·subst h0; rw [frs_nil, frs_nil]
  ·by_cases h1 : frC l = 0
   ·have := frT_len h1
    rw [frs_step f h0 h1, frs_step g h0 h1, frs_fuel f g (frT l) (by omega) (by omega)]
   ·rw [frs_bad f h0 h1, frs_bad g h0 h1]
end Go.Proofs.YtamjljhbnhdgdaaDoor

/- l02Of: the number of a text of bytes. -/
namespace Go.Proofs.YtamjljhbnhdgdaaDoor
open Go.ChangeShapes Go.WideShapes Go.ChangeAt Go.RowKit
set_option maxHeartbeats 400000 in
set_option maxRecDepth 100000 in
theorem snumberOf (s : ByteArray) (hs : s.size ≤ 4) (w : World) :
  Calls Tryd.prog 54 #[.string s] w fun e w' => e = .returned (.int .i64 ((ofBE s.data.toList : Nat) : Int)) ∧ w' = w := by
 obtain ⟨l, hl⟩ : ∃ l, l = s.data.toList := ⟨_, rfl⟩
 have hll : l.length = s.size := by rw [hl]; simp
 rw [← hl]
 have HL := hide hl
 clear hl
 go_enter Tryd.func54, Tryd.ntmps54
 go_wp2_with fail
 go_loop [3, 4] (fun r i => ∃ k y : Nat, k ≤ s.size ∧ i = .int .i64 k ∧ r = .int .i64 (y : Int) ∧ Hid (y = ofBE (l.take k))) (fun _ i => s.size - (intOf i).toNat)
 case atStart => exact ⟨0, 0, by omega, rfl, rfl, rfl⟩
 case round =>
  obtain ⟨k, y, hk, rfl, rfl, HY⟩ := hrel
  have hy : y < 256 ^ k := by have := ofBE_lt l k; rw [← unhide HY] at this; exact this
  by_cases hlt : k < s.size
  ·have hy2 : y < 16777216 := Nat.lt_of_lt_of_le hy (Nat.le_trans (Nat.pow_le_pow_right (by decide) (show k ≤ 3 by omega)) (by decide))
   have HE : Hid (l[k]'(by omega) = s[k]) := by show _ = _; have := unhide HL; subst this; rfl
   have HZ : Hid (ofBE (l.take (k + 1)) = y * 256 + s[k].toNat) := by show _ = _; rw [ofBE_snoc l k (by omega), unhide HY, unhide HE]
   have hlt' : (k : Int) < (s.size : Int) := by omega
   have c0 : (s[k].toNat : Int) ≤ 255 := by have := s[k].toNat_lt; omega
   have y0 : (y : Int) ≤ 16777216 := by omega
   clear hy hy2 HE hll
   go_wp2_with fail
   go_round
   case rel => exact ⟨k + 1, y * 256 + s[k].toNat, by omega, by go_num, by go_num, (unhide HZ).symm⟩
   case measure => simp [intOf]; omega
  ·have HV : Hid (((ofBE l : Nat) : Int) = (y : Int)) := by show _ = _; rw [unhide HY, List.take_of_length_le (by omega)]
   clear hy hll
   go_wp2_with fail
   go_ret
   exact ⟨ret_int (unhide HV).symm, rfl⟩
end Go.Proofs.YtamjljhbnhdgdaaDoor

/- Rows of texts: the laws' own helpers. -/
namespace Go.Proofs.YtamjljhbnhdgdaaDoor
open Go.ChangeShapes Go.WideShapes Go.ChangeAt Go.RowKit
theorem Tryd.infL9 : (Tryd.prog.info? 9).map (fun i => (i.zero, i.size, i.bytes)) = some (some (.string ⟨#[]⟩), 1, 16) := by kernel_rfl
def cS (l : List ByteArray) : List Value := l.map fun c => .string (c)
theorem cS_len (l : List ByteArray) : (cS l).length = l.length := by simp [cS]
theorem cS_at (l : List ByteArray) (k : Nat) (h : k < l.length) : (cS l)[k]? = some (.string (l[k])) := by simp [cS, List.getElem?_eq_getElem h]
theorem cS_app (l m : List ByteArray) : cS (l ++ m) = cS l ++ cS m := by simp [cS]
theorem cS_one (l : List ByteArray) : ∀ u ∈ cS l, u.oneCell' = true := by
 intro u hu; simp [cS] at hu; obtain ⟨c, _, rfl⟩ := hu; rfl

/-- The text of a mark. -/
def mtD : Nat → Nat → List UInt8 → List UInt8
 | 0, _, acc => acc
 | f + 1, k, acc => if k = 0 then acc else mtD f (k / 10) (UInt8.ofNat (48 + k % 10) :: acc)
def mtS (k : Nat) : ByteArray := ⟨(109 :: mtD k k []).toArray⟩
end Go.Proofs.YtamjljhbnhdgdaaDoor

/- Small laws on texts and rows of bytes, for frames. -/
namespace Go.Proofs.YtamjljhbnhdgdaaDoor
open Go.ChangeShapes Go.WideShapes Go.ChangeAt Go.RowKit
set_option linter.unusedVariables false
theorem sizeT (s : ByteArray) : s.data.toList.length = s.size := by rw [Array.length_toList]; rfl
theorem bytes_belowT (w : World) (s : ByteArray) : Below w.heap.size w (Go.Lib.bytesWorld w 5 s) := ⟨rfl, rfl, rfl, by rw [Go.Lib.bytesWorld_size]; omega, fun k hk => Go.Lib.bytesWorld_at_old w _ s k hk⟩
theorem bytes_rowT (w : World) (s : ByteArray) : Row8 (Go.Lib.bytesWorld w 5 s) (some ⟨w.heap.size, 0, none⟩) s.data.toList := by
 refine .inr ⟨w.heap.size, 0, rfl, by rw [Go.Lib.bytesWorld_size]; omega, fun i hi => ?_⟩
 have h := Go.Lib.bytesWorld_cell w 5 s i (by rw [← sizeT]; exact hi)
 rw [Nat.zero_add, h, List.getD_eq_getElem?_getD, List.getElem?_eq_getElem hi]; rfl
end Go.Proofs.YtamjljhbnhdgdaaDoor

/- Numbers within bounds, texts of bytes within bounds, runes. Plain mathematics. -/
namespace Go.Proofs.YtamjljhbnhdgdaaDoor
open Go.ChangeShapes Go.WideShapes Go.ChangeAt Go.RowKit
theorem b_true {p : Prop} [Decidable p] (h : p) : true = decide p := (decide_eq_true h).symm
theorem b_false {p : Prop} [Decidable p] (h : ¬ p) : false = decide p := (decide_eq_false h).symm
def inB (n a b : Int) : Bool := decide (a ≤ n ∧ n ≤ b)
def byteIn (c : UInt8) : Bool := inB (c.toNat : Int) 32 126
def allText (t : List UInt8) : Bool := t.all byteIn
def titleB (t : List UInt8) : Bool := decide (t.length ≤ 40) && allText t
def runeB (n : Int) : Bool := decide (32 ≤ n ∧ n ≤ 1114111 ∧ n ≠ 127 ∧ ¬ (55296 ≤ n ∧ n ≤ 57343))
end Go.Proofs.YtamjljhbnhdgdaaDoor

/- The lesser and the greater of two numbers. -/
namespace Go.Proofs.YtamjljhbnhdgdaaDoor
open Go.ChangeShapes Go.WideShapes Go.ChangeAt Go.RowKit
/-- The lesser of two numbers. -/
def mn (x y : Int) : Int := if y < x then y else x
theorem run_mn {P : Program} {w : World} (ts : Array TypeId) (t : TypeId) (k k' : IntKind) (x y : Int) : (Builtin.min_ ts t #[.int k x, .int k' y]).run P w = .ok (.int k (mn x y)) w := by
 simp [Builtin.min_, Builtin.min2, mn]
/-- The greater of two numbers. -/
def mx (x y : Int) : Int := if x < y then y else x
theorem run_mx {P : Program} {w : World} (ts : Array TypeId) (t : TypeId) (k k' : IntKind) (x y : Int) : (Builtin.max_ ts t #[.int k x, .int k' y]).run P w = .ok (.int k (mx x y)) w := by
 simp [Builtin.max_, Builtin.max2, mx]
end Go.Proofs.YtamjljhbnhdgdaaDoor

/- Stores: which are right, what a crash leaves. Plain mathematics. -/
namespace Go.Proofs.YtamjljhbnhdgdaaDoor
open Go.ChangeShapes Go.WideShapes Go.ChangeAt Go.RowKit
def stoB (d : ByteArray) (s : Int) : Bool := decide (d.size ≤ 60000) && inB s 0 (d.size : Int)
/-- How many bytes a crash leaves. -/
def keptN (a : Nat) (s k : Int) : Nat := (s + mn (mx k 0) ((a : Int) - s)).toNat
theorem kept_spec {a : Nat} {s : Int} (k : Int) (h0 : 0 ≤ s) (h1 : s ≤ (a : Int)) : ∃ M N : Int, mx k 0 = M ∧ mx 0 k = M ∧ mn M ((a : Int) - s) = N ∧ 0 ≤ N ∧ N ≤ (a : Int) - s ∧ s + N = (keptN a s k : Int) ∧ keptN a s k ≤ a := by
 refine ⟨mx k 0, mn (mx k 0) ((a : Int) - s), rfl, ?_, rfl, ?_, ?_, ?_, ?_⟩
 ·unfold mx; split <;> split <;> omega
 ·unfold mn mx; split <;> split <;> omega
 ·unfold mn mx; split <;> split <;> omega
 ·unfold keptN mn mx; split <;> split <;> omega
 ·unfold keptN mn mx; split <;> split <;> omega
theorem sto_parts {d : ByteArray} {s : Int} (h : stoB d s = true) : d.size ≤ 60000 ∧ 0 ≤ s ∧ s ≤ (d.size : Int) := by
 unfold stoB inB at h; simp at h; omega
def SyncIs (d : ByteArray) (s : Int) (d2 : ByteArray) (s2 c : Int) : Prop := (stoB d s = true ∧ d2 = d ∧ s2 = (d.size : Int) ∧ c = 0) ∨ (stoB d s = false ∧ d2 = ⟨#[]⟩ ∧ s2 = 0 ∧ c = 1)
def CrashIs (d : ByteArray) (s k : Int) (d2 : ByteArray) (s2 c : Int) : Prop := (stoB d s = true ∧ d2 = d.extract 0 (keptN d.size s k) ∧ s2 = (keptN d.size s k : Int) ∧ c = 0) ∨ (stoB d s = false ∧ d2 = ⟨#[]⟩ ∧ s2 = 0 ∧ c = 1)
end Go.Proofs.YtamjljhbnhdgdaaDoor

/- Records written: the bytes. Plain mathematics. -/
namespace Go.Proofs.YtamjljhbnhdgdaaDoor
open Go.ChangeShapes Go.WideShapes Go.ChangeAt Go.RowKit
set_option linter.unusedVariables false
def wrL (l : List ByteArray) : List UInt8 := l.flatMap fun t => frmB t.data.toList
def wrD (d : ByteArray) (l : List ByteArray) : ByteArray := ⟨(d.data.toList ++ wrL l).toArray⟩
def rokB (l : List ByteArray) : Bool := l.all fun t => inB (t.size : Int) 1 1000
theorem rok_iff (l : List ByteArray) : rokB l = true ↔ ∀ k (h : k < l.length), inB (l[k].size : Int) 1 1000 = true := by
 unfold rokB; rw [List.all_eq_true]
 constructor
 ·intro h k hk; exact h _ (List.getElem_mem hk)
 ·intro h x hx; obtain ⟨k, hk, rfl⟩ := List.mem_iff_getElem.1 hx; exact h k hk
theorem wrL_snoc (l : List ByteArray) (k : Nat) (h : k < l.length) : wrL (l.take (k + 1)) = wrL (l.take k) ++ frmB l[k].data.toList := by
 unfold wrL; rw [List.take_add_one, List.getElem?_eq_getElem h, List.flatMap_append]; simp
theorem wrL_step (l : List ByteArray) (k : Nat) (h : k < l.length) : (wrL (l.take (k + 1))).length = (wrL (l.take k)).length + (7 + l[k].size) := by
 rw [wrL_snoc l k h, List.length_append, frmB_len, sizeT]
theorem wrL_all (l : List ByteArray) (k : Nat) (h : l.length ≤ k) : wrL (l.take k) = wrL l := by rw [List.take_of_length_le h]
def WrIs (d : ByteArray) (s : Int) (l : List ByteArray) (d2 : ByteArray) (s2 c : Int) : Prop :=
 (4096 < l.length ∧ d2 = ⟨#[]⟩ ∧ s2 = 0 ∧ c = 2) ∨ (l.length ≤ 4096 ∧ stoB d s = false ∧ d2 = ⟨#[]⟩ ∧ s2 = 0 ∧ c = 1) ∨ (l.length ≤ 4096 ∧ stoB d s = true ∧ rokB l = false ∧ d2 = ⟨#[]⟩ ∧ s2 = 0 ∧ c = 4) ∨
 (l.length ≤ 4096 ∧ stoB d s = true ∧ rokB l = true ∧ 60000 < d.size + (wrL l).length ∧ d2 = d ∧ s2 = s ∧ c = 7) ∨ (l.length ≤ 4096 ∧ stoB d s = true ∧ rokB l = true ∧ d.size + (wrL l).length ≤ 60000 ∧ d2 = wrD d l ∧ s2 = s ∧ c = 0)
theorem in_bounds {n : Nat} (h : inB (n : Int) 1 1000 = true) : 1 ≤ n ∧ n ≤ 1000 := by
 have := of_decide_eq_true h; omega
end Go.Proofs.YtamjljhbnhdgdaaDoor

/- Rows of pairs of integers: an element is two cells. Rows of elements of any size that a call owns, kept while other rows turn. -/
namespace Go.Proofs.YtamjljhbnhdgdaaDoor
open Go.ChangeShapes Go.WideShapes Go.ChangeAt Go.RowKit
def cP (l : List (Int × Int)) : List Value := l.flatMap fun c => [.int .i64 c.1, .int .i64 c.2]
/-- v owns its row of elements of z cells each in a block from lo up to hi. -/
def HeldZ (z : Nat) (w : World) (lo hi : Nat) (e : TypeId) (v : Value) (n : Nat) (xs : List Value) : Prop :=
 w.ownsRow lo e z v n xs ∧ (∀ k, v.ownBlock = some k → k < hi) ∧ hi ≤ w.heap.size
theorem heldZ_of {z : Nat} {w : World} {lo : Nat} {e : TypeId} {v : Value} {n : Nat} {xs : List Value} (h : w.ownsRow lo e z v n xs) : HeldZ z w lo w.heap.size e v n xs :=
 ⟨h, fun k hk => (h.lt k hk).2, Nat.le_refl _⟩
theorem HeldZ.below {z : Nat} {w w' : World} {lo hi B : Nat} {e : TypeId} {v : Value} {n : Nat} {xs : List Value} (h : HeldZ z w lo hi e v n xs) (hb : Below B w w') (hB : hi ≤ B) : HeldZ z w' lo hi e v n xs := by
 obtain ⟨⟨hl, h2⟩, hk, hs⟩ := h
 refine ⟨⟨hl, ?_⟩, hk, Nat.le_trans hs hb.size⟩
 rcases h2 with h2 | ⟨g, cap, cur, rfl, hbg, hg, hrest⟩
 ·exact .inl h2
 ·exact .inr ⟨g, cap, cur, rfl, hbg, (hb.block g (Nat.lt_of_lt_of_le (hk g rfl) hB)).trans hg, hrest⟩
theorem HeldZ.grown {z : Nat} {w w' : World} {lo hi : Nat} {row : Option Nat} {e : TypeId} {v : Value} {n : Nat} {xs : List Value} (h : HeldZ z w lo hi e v n xs) (hg : w.grownBy w' row) (hr : ∀ k, row = some k → k < lo ∨ hi ≤ k) : HeldZ z w' lo hi e v n xs := by
 obtain ⟨ho, hk, hs⟩ := h
 refine ⟨ho.kept hg ?_, hk, Nat.le_trans hs hg.size⟩
 cases hv : v.ownBlock with
 | none => exact .inl rfl
 | some k =>
  right; intro he
  rcases hr k he.symm with h1 | h1
  ·exact absurd (ho.lt k hv).1 (by omega)
  ·exact absurd (hk k hv) (by omega)
theorem HeldZ.own {z : Nat} {w : World} {lo hi : Nat} {e : TypeId} {v : Value} {n : Nat} {xs : List Value} (h : HeldZ z w lo hi e v n xs) : w.ownsRow lo e z v n xs := h.1
theorem HeldZ.blk {z : Nat} {w : World} {lo hi : Nat} {e : TypeId} {v : Value} {n : Nat} {xs : List Value} (h : HeldZ z w lo hi e v n xs) : ∀ k, v.ownBlock = some k → lo ≤ k ∧ k < hi := fun k hk => ⟨(h.1.lt k hk).1, h.2.1 k hk⟩
theorem ownZ_rowV {z : Nat} {w : World} {base : Nat} {e : TypeId} {v : Value} {n : Nat} {xs : List Value} (h : w.ownsRow base e z v n xs) : ∃ a cap, v = .slice a n cap ∧ RowV w a xs := by
 obtain ⟨hl, h2⟩ := h
 rcases h2 with ⟨rfl, rfl⟩ | ⟨g, cap, cur, rfl, hbg, hg, hrest⟩
 ·exact ⟨none, 0, rfl, .inl (List.length_eq_zero_iff.1 (by simpa using hl))⟩
 ·refine ⟨some ⟨g, 0, none⟩, cap, rfl, ?_⟩
  have hown : w.ownsRow base e z (.slice (some ⟨g, 0, none⟩) n cap) n xs := ⟨hl, .inr ⟨g, cap, cur, rfl, hbg, hg, hrest⟩⟩
  refine .inr ⟨g, 0, rfl, (hown.lt g rfl).2, fun i u hu => ?_⟩
  have hi : i < xs.length := (List.getElem?_eq_some_iff.1 hu).1
  rw [Nat.zero_add, hown.cellAt i (by omega), hu]
theorem rowZ_at {z : Nat} {w : World} {base : Nat} {e : TypeId} {a : Option Addr} {n cap : Nat} {xs : List Value} (h : w.ownsRow base e z (.slice a n cap) n xs) : RowV w a xs := by
 obtain ⟨a', cap', e, h⟩ := ownZ_rowV h
 injection e with e1; subst e1; exact h
theorem HeldZ.rowV {z : Nat} {w : World} {lo hi : Nat} {e : TypeId} {a : Option Addr} {n cap : Nat} {xs : List Value} (h : HeldZ z w lo hi e (.slice a n cap) n xs) : RowV w a xs := rowZ_at h.1
theorem HeldZ.row {z : Nat} {w : World} {lo hi : Nat} {e : TypeId} {v : Value} {n : Nat} {xs : List Value} (h : HeldZ z w lo hi e v n xs) : ∃ a cap, v = .slice a n cap ∧ RowV w a xs := ownZ_rowV h.1
/-- The pairs from place s on, j of them, turned into blanks. -/
def blk (l : List (Int × Int)) (s : Nat) : Nat → List (Int × Int)
 | 0 => l
 | j + 1 => (blk l s j).set (s + j) (32, 0)
end Go.Proofs.YtamjljhbnhdgdaaDoor
