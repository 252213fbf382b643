/- Texts put together: Base NameT. -/
import Derived.OrdersHeld
import Derived.Test.YtmmnoepcklfonaaGreatDoorRows
import Derived.WalkKit
import Derived.ProofKit
import Derived.OpenShut
import Derived.ShutString
import Derived.WalkSpells
import Derived.WalkLawsBesides
import Derived.Deep.RegionHeld3
import Derived.Deep.AppendLies
import Derived.Laws.IdiomStrings
import Derived.Laws.OwnMore
/- Small laws on bytes, rows that a call owns and endings, for the walks of this seat. -/
namespace Go.Proofs.YtmmnoepcklfonaaGreatDoor
open Go.ChangeShapes Go.WideShapes Go.ChangeAt Go.RowKit
theorem hide {p : Prop} (h : p) : Hid p := h
theorem unhide {p : Prop} (h : Hid p) : p := h
theorem ret_bool {a b : Bool} (h : a = b) : Ending.returned (.bool a) = .returned (.bool b) := by rw [h]
theorem ret_int {k : IntKind} {a b : Int} (h : a = b) : Ending.returned (.int k a) = .returned (.int k b) := by rw [h]
theorem ret_string {a b : ByteArray} (h : a = b) : Ending.returned (.string a) = .returned (.string b) := by rw [h]

/-- The cells of bytes. -/
def B8 (l : List UInt8) : List Value := l.map fun c => Value.int .u8 (c.toNat : Int)
theorem B8_len (l : List UInt8) : (B8 l).length = l.length := by simp [B8]
theorem B8_app (l m : List UInt8) : B8 (l ++ m) = B8 l ++ B8 m := by simp [B8]
theorem B8_one (l : List UInt8) : ∀ u ∈ B8 l, u.oneCell' = true := by
  intro u hu; simp [B8] at hu; obtain ⟨c, _, rfl⟩ := hu; rfl
theorem wrap8 (n : Int) (h0 : 0 ≤ n) (h1 : n ≤ 255) : IntKind.u8.wrap n = n := by
  have e : IntKind.u8.wrap n = n % 256 := by simp [IntKind.wrap, IntKind.signed, IntKind.bits]
  rw [e]; omega

theorem wrapi (n : Int) (h0 : -4611686018427387904 ≤ n) (h1 : n ≤ 4611686018427387904) : IntKind.i64.wrap n = n := by
  simp only [IntKind.wrap, IntKind.signed, IntKind.bits]
  simp
  omega

def bAt (s : ByteArray) (i : Nat) : Int := if h : i < s.size then (s[i].toNat : Int) else 0
theorem bAt_of (s : ByteArray) (i : Nat) (h : i < s.size) : (s[i].toNat : Int) = bAt s i := by unfold bAt; rw [dif_pos h]
theorem bAt_bd (s : ByteArray) (i : Nat) : 0 ≤ bAt s i ∧ bAt s i ≤ 255 := by
  unfold bAt; split
  · rename_i h; have := s[i].toNat_lt; omega
  · omega

/-- 'string(b)' where b owns the bytes l. -/
theorem conv_own {P : Program} {w : World} {base : Nat} {src dst e : TypeId} {v : Value} {l : List UInt8} (hs : P.underlying src = some (.slice e)) (he : P.underlying e = some (.int .u8)) (hd : P.underlying dst = some .string)
    (h : w.ownsRow base e 1 v l.length (B8 l)) : (convert src dst v).run P w = .ok (.string ⟨l.toArray⟩) w := by
  rcases h.2 with ⟨rfl, h0⟩ | ⟨g, cap, cur, rfl, _, hg, _, _, _, ht⟩
  · obtain rfl : l = [] := List.length_eq_zero_iff.1 h0
    exact run_convert_bytes_nil w src e hs he 0 0 dst hd
  · refine run_convert_bytes_back w src dst e _ cap l hs he hd ?_
    intro j hj
    refine World.ownsRow.cells h rfl j _ ?_
    simp [B8, List.getElem?_eq_getElem hj]
/-- The cells of a block that was just made. -/
theorem news_new (w : World) (cs : List Value) (t : TypeId) : ∀ j u, cs[j]? = some u → (w.alloc (.cells cs.toArray t)).cell? ((⟨w.heap.size, 0, none⟩ : Addr).add j) = some u := by
  refine World.news_of_block (cs := cs.toArray) (t := t) (fr := (0, 0)) ?_
  show (w.heap.push _)[w.heap.size]? = _
  simp
theorem news_drew (w : World) (cs : List Value) (t : TypeId) : ∀ j u, cs[j]? = some u → (w.alloc (.cells cs.toArray t)).drew.cell? ((⟨w.heap.size, 0, none⟩ : Addr).add j) = some u := news_new w cs t
theorem undrew {w w' : World} {row : Option Nat} (h : w.drew.grownBy w' row) : w.grownBy w' row := ⟨h.os, h.tape, h.output, h.size, h.block⟩
theorem own_app {w : World} {base : Nat} {e : TypeId} {v : Value} {l m : List UInt8} {n : Nat} (h : w.ownsRow base e 1 v (l.length + n) (B8 l ++ B8 m)) (hn : m.length = n) : w.ownsRow base e 1 v (l ++ m).length (B8 (l ++ m)) := by
  rw [B8_app, List.length_append, hn]; exact h
theorem below_app {B : Nat} {a w w' : World} {o : Obj} {base : Nat} {e : TypeId} {size : Nat} {v : Value} {n : Nat} {xs : List Value} (hb : Below B a w) (hB : B ≤ w.heap.size) (hown : w.ownsRow base e size v n xs) (hbase : B ≤ base)
    (hg : (w.alloc o).grownBy w' v.ownBlock) : Below B a w' :=
  (hb.alloc hB o).grown hg (by simp; omega) fun j hj => Nat.le_trans hbase (hown.lt j hj).1
theorem take_snoc (s : ByteArray) (k : Nat) (h : k < s.size) : s.data.toList.take (k + 1) = s.data.toList.take k ++ [s[k]] := by
  rw [List.take_succ_eq_append_getElem (by simpa using h)]; rfl
theorem take_all (s : ByteArray) (k : Nat) (h : s.size ≤ k) : s.data.toList.take k = s.data.toList :=
  List.take_of_length_le (by simpa using h)
theorem take_le (s : ByteArray) (k : Nat) : (s.data.toList.take k).length ≤ k := List.length_take_le _ _

/-- A slice's address a leads to the bytes l (or there are none). -/
def Row8 (w : World) (a : Option Addr) (l : List UInt8) : Prop :=
  l = [] ∨ ∃ b off, a = some ⟨b, off, none⟩ ∧ b < w.heap.size ∧ ∀ i (h : i < l.length), w.cell? ⟨b, off + i, none⟩ = some (.int .u8 (l[i].toNat : Int))
theorem Row8.below {w w' : World} {a : Option Addr} {l : List UInt8} (h : Row8 w a l) (hb : Below w.heap.size w w') : Row8 w' a l := by
  rcases h with h | ⟨b, off, e, hlt, hc⟩
  · exact .inl h
  · exact .inr ⟨b, off, e, Nat.lt_of_lt_of_le hlt hb.size, fun i hi => (hb.cell (p := ⟨b, off + i, none⟩) hlt).trans (hc i hi)⟩
theorem Row8.at {w : World} {a : Option Addr} {l : List UInt8} (h : Row8 w a l) (hn : 0 < l.length) :
    ∃ b off, a = some ⟨b, off, none⟩ ∧ b < w.heap.size ∧ ∀ i (h : i < l.length), w.cell? ⟨b, off + i, none⟩ = some (.int .u8 (l[i].toNat : Int)) := by
  rcases h with rfl | h
  · simp at hn
  · exact h
theorem qqA {A : Type} (l : List A) (i : Nat) (x : A) : l.toArray.setIfInBounds i x = (l.set i x).toArray := by simp
theorem qqB {A : Type} (a b : A) (l : List A) : (a :: l).set 0 b = b :: l := rfl
theorem qqC {A : Type} (a b : A) (l : List A) (n : Nat) : (a :: l).set (n + 1) b = a :: l.set n b := rfl
theorem wtk {P : Program} {md : Region.Mode} {ops : Array Oper} {Q : Exit → Act → World → Prop} {S : World → Prop} {i : Nat} {oi : Oper} {v : Value} {fuel : Nat} {listed : Array Bool} {a : Act} {w : World} (hi : ops[i]? = some oi) (hy : YieldsIf P ops S oi v a) (hS : S w) (h : wpAnyH P md ops Q S fuel (listed.setIfInBounds i true) (a.put oi.dst v) w) (hs : Region.noSelect ops = true := by kernel_rfl) (hf : Region.free md ops listed i = true := by kernel_rfl) (hr : (Region.ready md ops listed).contains i = true := by kernel_rfl) (hQ : ∀ c a w, Q (.panic c) (a.put oi.dst v) w → Q (.panic c) a w := by exact fun _ _ _ h => h) : wpAnyH P md ops Q S (fuel + 1) listed a w := wpAnyH_take hi hs hf hr hQ hy hS h
end Go.Proofs.YtmmnoepcklfonaaGreatDoor

/- What a name is, and that both texts tell it alike. -/
namespace Go.Proofs.YtmmnoepcklfonaaGreatDoor
open Go.ChangeShapes Go.WideShapes Go.ChangeAt Go.RowKit
def digB (n : Int) : Bool := decide (48 ≤ n ∧ n ≤ 57)
def letB (n : Int) : Bool := decide ((97 ≤ n ∧ n ≤ 122) ∨ (65 ≤ n ∧ n ≤ 90) ∨ n = 95)

set_option maxHeartbeats 400000 in
theorem digit10 (n : Int) (h0 : 0 ≤ n) (h1 : n ≤ 255) (w : World) :
    Calls Tryz.prog 110 #[.int .u8 n] w fun e w' => e = .returned (.bool (digB n)) ∧ w' = w := by
  by_cases a : 48 ≤ n
  · by_cases b : n ≤ 57
    all_goals
      have HV := hide (show digB n = decide (48 ≤ n ∧ n ≤ 57) from rfl)
      go_enter Tryz.func110, Tryz.ntmps110
      go_wp2
      go_ret
      rw [unhide HV]
      exact ⟨ret_bool (by rw [Bool.eq_iff_iff]; simp <;> omega), rfl⟩
  · have HV := hide (show digB n = decide (48 ≤ n ∧ n ≤ 57) from rfl)
    go_enter Tryz.func110, Tryz.ntmps110
    go_wp2
    go_ret
    rw [unhide HV]
    exact ⟨ret_bool (by rw [Bool.eq_iff_iff]; simp <;> omega), rfl⟩

set_option maxHeartbeats 400000 in
theorem digit15 (n : Int) (h0 : 0 ≤ n) (h1 : n ≤ 255) (w : World) :
    Calls Tryz.prog 92 #[.int .u8 n] w fun e w' => e = .returned (.bool (digB n)) ∧ w' = w := by
  by_cases a : 48 ≤ n
  · by_cases b : n ≤ 57
    all_goals
      have HV := hide (show digB n = decide (48 ≤ n ∧ n ≤ 57) from rfl)
      go_enter Tryz.func92, Tryz.ntmps92
      go_wp2
      go_ret
      rw [unhide HV]
      exact ⟨ret_bool (by rw [Bool.eq_iff_iff]; simp <;> omega), rfl⟩
  · have HV := hide (show digB n = decide (48 ≤ n ∧ n ≤ 57) from rfl)
    go_enter Tryz.func92, Tryz.ntmps92
    go_wp2
    go_ret
    rw [unhide HV]
    exact ⟨ret_bool (by rw [Bool.eq_iff_iff]; simp <;> omega), rfl⟩

set_option maxHeartbeats 400000 in
theorem letter11 (n : Int) (h0 : 0 ≤ n) (h1 : n ≤ 255) (w : World) :
    Calls Tryz.prog 111 #[.int .u8 n] w fun e w' => e = .returned (.bool (letB n)) ∧ w' = w := by
  have hc : n < 65 ∨ (65 ≤ n ∧ n ≤ 90) ∨ (90 < n ∧ n < 95) ∨ (95 < n ∧ n < 97) ∨ n = 95 ∨ (97 ≤ n ∧ n ≤ 122) ∨ 122 < n := by omega
  have HV := hide (show letB n = decide ((97 ≤ n ∧ n ≤ 122) ∨ (65 ≤ n ∧ n ≤ 90) ∨ n = 95) from rfl)
  rcases hc with c | ⟨c, d⟩ | ⟨c, d⟩ | ⟨c, d⟩ | c | ⟨c, d⟩ | c
  all_goals
    try subst c
    go_enter Tryz.func111, Tryz.ntmps111
    go_wp2
    go_ret
    rw [unhide HV]
    exact ⟨ret_bool (by rw [Bool.eq_iff_iff]; simp <;> omega), rfl⟩

set_option maxHeartbeats 400000 in
theorem letter14 (n : Int) (h0 : 0 ≤ n) (h1 : n ≤ 255) (w : World) :
    Calls Tryz.prog 91 #[.int .u8 n] w fun e w' => e = .returned (.bool (letB n)) ∧ w' = w := by
  have hc : n < 65 ∨ (65 ≤ n ∧ n ≤ 90) ∨ (90 < n ∧ n < 95) ∨ (95 < n ∧ n < 97) ∨ n = 95 ∨ (97 ≤ n ∧ n ≤ 122) ∨ 122 < n := by omega
  have HV := hide (show letB n = decide ((97 ≤ n ∧ n ≤ 122) ∨ (65 ≤ n ∧ n ≤ 90) ∨ n = 95) from rfl)
  rcases hc with c | ⟨c, d⟩ | ⟨c, d⟩ | ⟨c, d⟩ | c | ⟨c, d⟩ | c
  all_goals
    try subst c
    go_enter Tryz.func91, Tryz.ntmps91
    go_wp2
    go_ret
    rw [unhide HV]
    exact ⟨ret_bool (by rw [Bool.eq_iff_iff]; simp <;> omega), rfl⟩
def wordB (n : Int) : Bool := letB n || digB n
theorem let_dig (n : Int) (h : letB n = true) : digB n = false := by
  unfold letB at h; unfold digB; simp at *; omega
def nameB (s : ByteArray) : Bool := decide (0 < s.size ∧ s.size ≤ 40 ∧ digB (bAt s 0) = false ∧ ∀ i, i < s.size → wordB (bAt s i) = true)
theorem name_no0 {s : ByteArray} (h : s.size = 0 ∨ 40 < s.size) : nameB s = false := by
  unfold nameB; simp; intro a b; omega
theorem name_nod {s : ByteArray} (h : digB (bAt s 0) = true) : nameB s = false := by
  unfold nameB; simp [h]
theorem name_nol {s : ByteArray} (h : letB (bAt s 0) = false) (hp : 0 < s.size) : nameB s = false := by
  unfold nameB; rw [decide_eq_false_iff_not]; rintro ⟨_, _, a, b⟩
  have := b 0 hp; unfold wordB at this; simp [h, a] at this
theorem name_now {s : ByteArray} (k : Nat) (hk : k < s.size) (h : letB (bAt s k) = false) (h2 : digB (bAt s k) = false) : nameB s = false := by
  unfold nameB; rw [decide_eq_false_iff_not]; rintro ⟨_, _, a, b⟩
  have := b k hk; unfold wordB at this; simp [h, h2] at this
theorem name_yes {s : ByteArray} (h0 : 0 < s.size) (h1 : s.size ≤ 40) (h2 : digB (bAt s 0) = false) (h3 : ∀ i, i < s.size → wordB (bAt s i) = true) : nameB s = true := by
  unfold nameB; rw [decide_eq_true_iff]; exact ⟨h0, h1, h2, h3⟩
theorem word_first {s : ByteArray} (h : letB (bAt s 0) = true) : ∀ i, i < 1 → wordB (bAt s i) = true := by
  intro i hi
  obtain rfl : i = 0 := by omega
  unfold wordB; rw [h]; rfl
theorem all_snoc {s : ByteArray} {k : Nat} (h : ∀ i, i < k → wordB (bAt s i) = true) (hk : wordB (bAt s k) = true) : ∀ i, i < k + 1 → wordB (bAt s i) = true := by
  intro i hi
  by_cases e : i = k
  · subst e; exact hk
  · exact h i (by omega)


set_option maxHeartbeats 800000 in
theorem name6 (s : ByteArray) (hs : s.size ≤ 1048576) (w : World) :
    Calls Tryz.prog 103 #[.string s] w fun e w' => e = .returned (.bool (nameB s)) ∧ w' = w := by
  by_cases z : s.size = 0
  · have HV := hide (name_no0 (.inl z))
    have z2 : ((s.size : Int) == 0) = true := by rw [beq_iff_eq]; omega
    clear z
    go_enter Tryz.func103, Tryz.ntmps103
    go_wp2_with fail
    go_ret
    rw [unhide HV]
    exact ⟨rfl, rfl⟩
  by_cases l : 40 < s.size
  · have HV := hide (name_no0 (.inr l))
    have z2 : ((s.size : Int) == 0) = false := by rw [beq_eq_false_iff_ne]; omega
    clear z
    go_enter Tryz.func103, Tryz.ntmps103
    go_wp2_with fail
    go_ret
    rw [unhide HV]
    exact ⟨rfl, rfl⟩
  have z2 : ((s.size : Int) == 0) = false := by rw [beq_eq_false_iff_ne]; omega
  have hp : 0 < s.size := by omega
  have b0 := bAt_bd s 0
  by_cases hd : digB (bAt s 0) = true
  · have HV := hide (name_nod hd)
    rw [← bAt_of s 0 hp] at hd b0
    go_enter Tryz.func103, Tryz.ntmps103
    go_wp2_with (go_at_call 110; refine (digit10 _ (by omega) (by omega) _).mono ?_; rintro e w' ⟨rfl, rfl⟩)
    go_ret
    rw [unhide HV]
    exact ⟨rfl, rfl⟩
  have hd : digB (bAt s 0) = false := by simpa using hd
  have HD := hide hd
  have HS := hide (show ∀ i, i < 0 → wordB (bAt s i) = true from fun i hi => absurd hi (Nat.not_lt_zero _))
  rw [← bAt_of s 0 hp] at hd b0
  go_enter Tryz.func103, Tryz.ntmps103
  go_wp2_with (go_at_call 110; refine (digit10 _ (by omega) (by omega) _).mono ?_; rintro e w' ⟨rfl, rfl⟩)
  go_loop [3] (fun i => ∃ k : Nat, k ≤ s.size ∧ i = .int .i64 k ∧ Hid (∀ i, i < k → wordB (bAt s i) = true)) (fun i => s.size - (intOf i).toNat)
  case atStart => exact ⟨0, by omega, rfl, HS⟩
  case round =>
    obtain ⟨k, hk, rfl, HA⟩ := hrel
    by_cases hlt : k < s.size
    · have bk := bAt_bd s k
      cases hl : letB (bAt s k)
      · cases hg : digB (bAt s k)
        · have HV := hide (name_now k hlt hl hg)
          rw [← bAt_of s k hlt] at hl hg bk
          go_wp2_with (first | (go_at_call 111; refine (letter11 _ (by omega) (by omega) _).mono ?_; rintro e w' ⟨rfl, rfl⟩) | (go_at_call 110; refine (digit10 _ (by omega) (by omega) _).mono ?_; rintro e w' ⟨rfl, rfl⟩))
          go_ret
          rw [unhide HV]
          exact ⟨rfl, rfl⟩
        · have HB := hide (all_snoc (unhide HA) (by unfold wordB; rw [hg]; simp))
          rw [← bAt_of s k hlt] at hl hg bk
          go_wp2_with (first | (go_at_call 111; refine (letter11 _ (by omega) (by omega) _).mono ?_; rintro e w' ⟨rfl, rfl⟩) | (go_at_call 110; refine (digit10 _ (by omega) (by omega) _).mono ?_; rintro e w' ⟨rfl, rfl⟩))
          go_round
          case rel => exact ⟨k + 1, by omega, by go_num, HB⟩
          case measure => simp [intOf]; omega
      · have HB := hide (all_snoc (unhide HA) (by unfold wordB; rw [hl]; simp))
        rw [← bAt_of s k hlt] at hl bk
        go_wp2_with (first | (go_at_call 111; refine (letter11 _ (by omega) (by omega) _).mono ?_; rintro e w' ⟨rfl, rfl⟩))
        go_round
        case rel => exact ⟨k + 1, by omega, by go_num, HB⟩
        case measure => simp [intOf]; omega
    · obtain rfl : k = s.size := by omega
      have HV := hide (name_yes hp (by omega) (unhide HD) (unhide HA))
      clear hlt
      go_wp2_with fail
      go_ret
      rw [unhide HV]
      exact ⟨rfl, rfl⟩

set_option maxHeartbeats 800000 in
theorem name9 (s : ByteArray) (hs : s.size ≤ 1048576) (w : World) :
    Calls Tryz.prog 77 #[.string s] w fun e w' => e = .returned (.bool (nameB s)) ∧ w' = w := by
  by_cases z : s.size = 0
  · have HV := hide (name_no0 (.inl z))
    have z2 : (s.size : Int) < 1 := by omega
    clear z
    go_enter Tryz.func77, Tryz.ntmps77
    go_wp2_with fail
    go_ret
    rw [unhide HV]
    exact ⟨rfl, rfl⟩
  by_cases l : 40 < s.size
  · have HV := hide (name_no0 (.inr l))
    have z2 : ¬ (s.size : Int) < 1 := by omega
    clear z
    go_enter Tryz.func77, Tryz.ntmps77
    go_wp2_with fail
    go_ret
    rw [unhide HV]
    exact ⟨rfl, rfl⟩
  have z2 : ¬ (s.size : Int) < 1 := by omega
  have hp : 0 < s.size := by omega
  have b0 := bAt_bd s 0
  by_cases hd : letB (bAt s 0) = false
  · have HV := hide (name_nol hd hp)
    rw [← bAt_of s 0 hp] at hd b0
    go_enter Tryz.func77, Tryz.ntmps77
    go_wp2_with (go_at_call 91; refine (letter14 _ (by omega) (by omega) _).mono ?_; rintro e w' ⟨rfl, rfl⟩)
    go_ret
    rw [unhide HV]
    exact ⟨rfl, rfl⟩
  have hd : letB (bAt s 0) = true := by simpa using hd
  have HD := hide (let_dig _ hd)
  have HS := hide (show ∀ i, i < 1 → wordB (bAt s i) = true from word_first hd)
  rw [← bAt_of s 0 hp] at hd b0
  go_enter Tryz.func77, Tryz.ntmps77
  go_wp2_with (go_at_call 91; refine (letter14 _ (by omega) (by omega) _).mono ?_; rintro e w' ⟨rfl, rfl⟩)
  go_loop [3] (fun i => ∃ k : Nat, k ≤ s.size ∧ i = .int .i64 k ∧ Hid (∀ i, i < k → wordB (bAt s i) = true)) (fun i => s.size - (intOf i).toNat)
  case atStart => exact ⟨1, by omega, rfl, HS⟩
  case round =>
    obtain ⟨k, hk, rfl, HA⟩ := hrel
    by_cases hlt : k < s.size
    · have bk := bAt_bd s k
      cases hl : letB (bAt s k)
      · cases hg : digB (bAt s k)
        · have HV := hide (name_now k hlt hl hg)
          rw [← bAt_of s k hlt] at hl hg bk
          go_wp2_with (first | (go_at_call 91; refine (letter14 _ (by omega) (by omega) _).mono ?_; rintro e w' ⟨rfl, rfl⟩) | (go_at_call 92; refine (digit15 _ (by omega) (by omega) _).mono ?_; rintro e w' ⟨rfl, rfl⟩))
          go_ret
          rw [unhide HV]
          exact ⟨rfl, rfl⟩
        · have HB := hide (all_snoc (unhide HA) (by unfold wordB; rw [hg]; simp))
          rw [← bAt_of s k hlt] at hl hg bk
          go_wp2_with (first | (go_at_call 91; refine (letter14 _ (by omega) (by omega) _).mono ?_; rintro e w' ⟨rfl, rfl⟩) | (go_at_call 92; refine (digit15 _ (by omega) (by omega) _).mono ?_; rintro e w' ⟨rfl, rfl⟩))
          go_round
          case rel => exact ⟨k + 1, by omega, by go_num, HB⟩
          case measure => simp [intOf]; omega
      · have HB := hide (all_snoc (unhide HA) (by unfold wordB; rw [hl]; simp))
        rw [← bAt_of s k hlt] at hl bk
        go_wp2_with (first | (go_at_call 91; refine (letter14 _ (by omega) (by omega) _).mono ?_; rintro e w' ⟨rfl, rfl⟩))
        go_round
        case rel => exact ⟨k + 1, by omega, by go_num, HB⟩
        case measure => simp [intOf]; omega
    · obtain rfl : k = s.size := by omega
      have HV := hide (name_yes hp (by omega) (unhide HD) (unhide HA))
      clear hlt
      go_wp2_with fail
      go_ret
      rw [unhide HV]
      exact ⟨rfl, rfl⟩
theorem name5 (s : ByteArray) (hs : s.size ≤ 1048576) (w : World) :
    Calls Tryz.prog 62 #[.string s] w fun e w' => e = .returned (.bool (nameB s)) ∧ w' = w := by
  have HS := hide hs
  go_enter Tryz.func62, Tryz.ntmps62
  go_wp2_with (go_at_call 77; refine (name9 _ (unhide HS) _).mono ?_; rintro e w' ⟨rfl, rfl⟩)
  go_ret
  exact ⟨rfl, rfl⟩
end Go.Proofs.YtmmnoepcklfonaaGreatDoor
