/- Digits read as a hash: what both texts answer at every string. -/
import Derived.Test.YthcibojpeamocabBase
import Derived.Laws.BitsAllLaws
import Derived.Deep.QuietTactic
import Derived.BigQuiet
namespace Go.Proofs.Ythcibojpeamocab
open Go.ChangeShapes Go.WideShapes Go.ChangeAt Go.RowKit
theorem Try.info5 : (Try.prog.info? 5).map (fun i => (i.zero, i.size, i.bytes)) = some (some (.int .u8 0), 1, 1) := by kernel_rfl
def digB (n : Int) : Bool := decide (48 ≤ n ∧ n ≤ 57)
def nib (n : Int) : Int := if 48 ≤ n ∧ n ≤ 57 then n - 48 else if 97 ≤ n ∧ n ≤ 102 then n - 87 else -1
theorem nib_bd (n : Int) : -1 ≤ nib n ∧ nib n ≤ 15 := by unfold nib; split <;> (try split) <;> omega

set_option maxHeartbeats 400000 in
theorem digit20 (n : Int) (h0 : 0 ≤ n) (h1 : n ≤ 255) (w : World) :
    Calls Try.prog 20 #[.int .u8 n] w fun e w' => e = .returned (.bool (digB n)) ∧ w' = w := by
  have HV := hide (show digB n = decide (48 ≤ n ∧ n ≤ 57) from rfl)
  have hc : n < 48 ∨ (48 ≤ n ∧ n ≤ 57) ∨ 57 < n := by omega
  rcases hc with c | ⟨c, d⟩ | c
  all_goals
    go_enter Try.func20, Try.ntmps20
    go_wp2
    go_ret
    rw [unhide HV]
    exact ⟨ret_bool (by rw [Bool.eq_iff_iff]; simp <;> omega), rfl⟩

set_option maxHeartbeats 400000 in
theorem nib14 (n : Int) (h0 : 0 ≤ n) (h1 : n ≤ 255) (w : World) :
    Calls Try.prog 14 #[.int .u8 n] w fun e w' => e = .returned (.int .i64 (nib n)) ∧ w' = w := by
  have HV := hide (show nib n = if 48 ≤ n ∧ n ≤ 57 then n - 48 else if 97 ≤ n ∧ n ≤ 102 then n - 87 else -1 from rfl)
  have hc : n < 48 ∨ (48 ≤ n ∧ n ≤ 57) ∨ (57 < n ∧ n < 97) ∨ (97 ≤ n ∧ n ≤ 102) ∨ 102 < n := by omega
  rcases hc with c | ⟨c, d⟩ | ⟨c, d⟩ | ⟨c, d⟩ | c
  all_goals
    go_enter Try.func14, Try.ntmps14
    go_wp2
    go_ret
    rw [unhide HV]
    exact ⟨ret_int (by split <;> (try split) <;> omega), rfl⟩

set_option maxHeartbeats 400000 in
theorem nib15 (n : Int) (h0 : 0 ≤ n) (h1 : n ≤ 255) (w : World) :
    Calls Try.prog 15 #[.int .u8 n] w fun e w' => e = .returned (.int .i64 (nib n)) ∧ w' = w := by
  have HV := hide (show nib n = if 48 ≤ n ∧ n ≤ 57 then n - 48 else if 97 ≤ n ∧ n ≤ 102 then n - 87 else -1 from rfl)
  have hc : n < 48 ∨ (48 ≤ n ∧ n ≤ 57) ∨ (57 < n ∧ n < 97) ∨ (97 ≤ n ∧ n ≤ 102) ∨ 102 < n := by omega
  have hd : digB n = decide (48 ≤ n ∧ n ≤ 57) := rfl
  rcases hc with c | ⟨c, d⟩ | ⟨c, d⟩ | ⟨c, d⟩ | c
  · have hd : digB n = false := by unfold digB; simp; omega
    go_enter Try.func15, Try.ntmps15
    go_wp2_with (go_at_call 20; refine (digit20 _ (by omega) (by omega) _).mono ?_; rintro e w' ⟨rfl, rfl⟩)
    go_ret
    rw [unhide HV]
    exact ⟨ret_int (by split <;> (try split) <;> omega), rfl⟩
  · have hd : digB n = true := by unfold digB; simp; omega
    go_enter Try.func15, Try.ntmps15
    go_wp2_with (go_at_call 20; refine (digit20 _ (by omega) (by omega) _).mono ?_; rintro e w' ⟨rfl, rfl⟩)
    go_ret
    rw [unhide HV]
    exact ⟨ret_int (by split <;> (try split) <;> omega), rfl⟩
  all_goals
    have hd : digB n = false := by unfold digB; simp; omega
    go_enter Try.func15, Try.ntmps15
    go_wp2_with (go_at_call 20; refine (digit20 _ (by omega) (by omega) _).mono ?_; rintro e w' ⟨rfl, rfl⟩)
    go_ret
    rw [unhide HV]
    exact ⟨ret_int (by split <;> (try split) <;> omega), rfl⟩

abbrev pairOK (s : ByteArray) (j : Nat) : Prop := 0 ≤ nib (bAt s (2 * j)) ∧ 0 ≤ nib (bAt s (2 * j + 1))
def byteOf (s : ByteArray) (j : Nat) : UInt8 := UInt8.ofNat (16 * nib (bAt s (2 * j)) + nib (bAt s (2 * j + 1))).toNat
def rdL (s : ByteArray) (k : Nat) : List UInt8 := (List.range k).map (byteOf s)
theorem rdL_len (s : ByteArray) (k : Nat) : (rdL s k).length = k := by simp [rdL]
theorem rdL_snoc (s : ByteArray) (k : Nat) : rdL s (k + 1) = rdL s k ++ [byteOf s k] := by simp [rdL, List.range_succ]
abbrev rdAll (s : ByteArray) : Prop := s.size = 64 ∧ ∀ j, j < 32 → pairOK s j
def rdC (s : ByteArray) : Int := if 65536 < s.size then 2 else if rdAll s then 0 else 3
def rdS (s : ByteArray) : ByteArray := if rdAll s then ⟨(rdL s 32).toArray⟩ else ⟨#[]⟩
theorem rd_long {s : ByteArray} (h : 65536 < s.size) : rdC s = 2 ∧ rdS s = ⟨#[]⟩ := by
  have : ¬ rdAll s := fun k => by have := k.1; omega
  unfold rdC rdS; rw [if_pos h, if_neg this]; exact ⟨rfl, rfl⟩
theorem rd_form {s : ByteArray} (h : ¬ 65536 < s.size) (h2 : ¬ rdAll s) : rdC s = 3 ∧ rdS s = ⟨#[]⟩ := by
  unfold rdC rdS; rw [if_neg h, if_neg h2, if_neg h2]; exact ⟨rfl, rfl⟩
theorem rd_ok {s : ByteArray} (h : rdAll s) : rdC s = 0 ∧ rdS s = ⟨(rdL s 32).toArray⟩ := by
  have : ¬ 65536 < s.size := by have := h.1; omega
  unfold rdC rdS; rw [if_neg this, if_pos h, if_pos h]; exact ⟨rfl, rfl⟩
theorem byte_val (s : ByteArray) (k : Nat) (h : pairOK s k) : ((byteOf s k).toNat : Int) = 16 * nib (bAt s (2 * k)) + nib (bAt s (2 * k + 1)) := by
  have a := nib_bd (bAt s (2 * k)); have b := nib_bd (bAt s (2 * k + 1)); have c := h.1; have d := h.2
  unfold byteOf; rw [UInt8.toNat_ofNat']; omega
theorem or_fin : ∀ a b : Fin 16, bits .or .i64 (((16 * a.val : Nat) : Int)) (b.val : Int) = ((16 * a.val + b.val : Nat) : Int) := by decide +kernel
theorem or_nib (a b : Int) (h0 : 0 ≤ a) (h1 : a ≤ 15) (h2 : 0 ≤ b) (h3 : b ≤ 15) : bits .or .i64 (a * 16) b = 16 * a + b := by
  have h := or_fin ⟨a.toNat, by omega⟩ ⟨b.toNat, by omega⟩
  have e1 : ((16 * a.toNat : Nat) : Int) = a * 16 := by omega
  have e2 : ((b.toNat : Nat) : Int) = b := by omega
  have e3 : ((16 * a.toNat + b.toNat : Nat) : Int) = 16 * a + b := by omega
  rw [e3] at h
  simp only [e1, e2] at h
  exact h
theorem pair_snoc {s : ByteArray} {k : Nat} (h : ∀ j, j < k → pairOK s j) (hk : pairOK s k) : ∀ j, j < k + 1 → pairOK s j := by
  intro i hi
  by_cases e : i = k
  · subst e; exact hk
  · exact h i (by omega)
theorem read_rel {w wr w1 : World} {o : Obj} {v v' : Value} {e : TypeId} {m : List UInt8} {s : ByteArray} {k : Nat} (hm : m = rdL s k)
    (hown : wr.ownsRow w.heap.size e 1 v m.length (B8 m)) (hbl : Below w.heap.size w wr)
    (hown1 : w1.ownsRow w.heap.size e 1 v' (m.length + 1) (B8 m ++ B8 [byteOf s k]))
    (hgrow : (wr.alloc o).grownBy w1 v.ownBlock) :
    w1.ownsRow w.heap.size e 1 v' (rdL s (k + 1)).length (B8 (rdL s (k + 1))) ∧ Below w.heap.size w w1 := by
  have h := own_app hown1 rfl
  rw [hm, ← rdL_snoc] at h
  exact ⟨h, below_app hbl hbl.size hown (Nat.le_refl _) hgrow⟩

set_option maxHeartbeats 800000 in
set_option maxRecDepth 100000 in
theorem sread6 (s : ByteArray) (hs : s.size ≤ 1048576) (w : World) :
    Calls Try.prog 6 #[.string s] w fun e w' => e = .returned (.tuple #[.string (rdS s), .int .i64 (rdC s)]) ∧ Below w.heap.size w w' := by
  obtain ⟨i0, hi, hz0, hz1, hz2⟩ := info_parts Try.info5
  by_cases a : 65536 < s.size
  · have HV := hide (rd_long a)
    go_enter Try.func6, Try.ntmps6
    go_wp2_with fail
    go_ret2
    rw [(unhide HV).1, (unhide HV).2]
    exact ⟨rfl, Below.refl _ _⟩
  by_cases b : s.size = 64
  · have b2 : ((s.size : Int) != 64) = false := by simp; omega
    have HB := hide b
    have hlo : 64 ≤ s.size := by omega
    have hhi : s.size ≤ 64 := by omega
    clear b
    go_enter Try.func6, Try.ntmps6
    go_wp2_with fail
    go_loopw [4, 5] (fun v i wr => ∃ k j : Nat, k ≤ 32 ∧ Hid (j = 2 * k) ∧ i = .int .i64 j ∧ Hid (∀ q, q < k → pairOK s q) ∧ wr.ownsRow w.heap.size 5 1 v (rdL s k).length (B8 (rdL s k)) ∧ Below w.heap.size w wr) (fun _ i _ => 64 - (intOf i).toNat)
    case atStart => exact ⟨0, 0, by omega, rfl, rfl, fun q hq => absurd hq (Nat.not_lt_zero _), World.ownsRow_lit _ #[] 0 (Nat.le_refl _) (by decide) rfl, (Below.refl _ _).alloc (Nat.le_refl _) _⟩
    case round =>
      obtain ⟨k, j, hk, HJ, rfl, HP, hown, hb⟩ := hrel
      by_cases hlt : k < 32
      · have ej := unhide HJ
        have j0 : j < s.size := by omega
        have j1 : j + 1 < s.size := by omega
        have j0' : (j : Int) < (s.size : Int) := by omega
        have j1' : (j : Int) + 1 < (s.size : Int) := by omega
        have j2' : (0 : Int) ≤ (j : Int) + 1 := by omega
        have j3' : IntKind.i64.wrap ((j : Int) + 1) = (j : Int) + 1 := wrapi _ (by omega) (by omega)
        have x0 := bAt_bd s j
        have x1 := bAt_bd s (j + 1)
        have n0 := nib_bd (bAt s j)
        have n1 := nib_bd (bAt s (j + 1))
        have hz := hb.size
        obtain ⟨m, hm⟩ : ∃ m, m = rdL s k := ⟨_, rfl⟩
        rw [← hm] at hown
        have HM := hide hm
        have HL : m.length ≤ 32 := by rw [hm, rdL_len]; omega
        clear hm
        by_cases p0 : nib (bAt s j) < 0
        · have HV := hide (rd_form a (fun h => by have := (h.2 k (by omega)).1; rw [← ej] at this; omega))
          rw [← bAt_of s j j0] at x0 n0 p0
          rw [← bAt_of s (j + 1) j1] at x1 n1
          clear ej
          go_wp2_with (go_at_call 14; refine (nib14 _ (by omega) (by omega) _).mono ?_; rintro e w' ⟨rfl, hw⟩; subst w')
          go_ret2
          rw [(unhide HV).1, (unhide HV).2]
          exact ⟨rfl, hb⟩
        by_cases p1 : nib (bAt s (j + 1)) < 0
        · have HV := hide (rd_form a (fun h => by have := (h.2 k (by omega)).2; rw [← ej] at this; omega))
          rw [← bAt_of s j j0] at x0 n0 p0
          rw [← bAt_of s (j + 1) j1] at x1 n1 p1
          clear ej
          go_wp2_with (go_at_call 14; refine (nib14 _ (by omega) (by omega) _).mono ?_; rintro e w' ⟨rfl, hw⟩; subst w')
          go_ret2
          rw [(unhide HV).1, (unhide HV).2]
          exact ⟨rfl, hb⟩
        have HK : Hid (pairOK s k) := by show 0 ≤ nib (bAt s (2 * k)) ∧ 0 ≤ nib (bAt s (2 * k + 1)); rw [← ej]; omega
        have HQ := hide (pair_snoc (unhide HP) (unhide HK))
        have HV : Hid (((byteOf s k).toNat : Int) = 16 * nib (s[j].toNat : Int) + nib (s[j + 1].toNat : Int)) := by
          have := byte_val s k (unhide HK); rw [← ej] at this; rw [bAt_of s j j0, bAt_of s (j + 1) j1]; exact this
        rw [← bAt_of s j j0] at x0 n0 p0
        rw [← bAt_of s (j + 1) j1] at x1 n1 p1
        clear ej
        have hv := (unhide HV).symm
        clear HV
        go_wp2_with (first | (go_at_call 14; refine (nib14 _ (by omega) (by omega) _).mono ?_; rintro e w' ⟨rfl, hw⟩; subst w') | (at_builtin; refine wpList_append_lies _ rfl _ _ 25 rfl w.heap.size 5 i0 (.int .u8 0) 1 1 Try.underlying25 hi hz0 hz1 hz2 rfl (by decide) _ _ _ rfl (by exact hown.alloc _) ⟨wr.heap.size, 0, none⟩ 1 1 (B8 [byteOf s k]) rfl rfl (by exact news_new wr (B8 [byteOf s k]) 5) (B8_one _) (by decide) (by unfold maxLen; omega) (by omega) (by simp; omega) _ rfl ?_; intro g cap w1 hown1 hgrow1 hat1 hlt1; have R := read_rel (unhide HM) hown hb hown1 hgrow1; clear hown1 hgrow1 hown hb hat1 hlt1 hv))
        go_roundw
        case rel => exact ⟨k + 1, j + 2, by omega, by show j + 2 = 2 * (k + 1); have := unhide HJ; omega, by go_num, HQ, R.1, R.2⟩
        case measure => simp [intOf]; omega
      · have ek : k = 32 := by omega
        have ej := unhide HJ
        have j0 : ¬ (j : Int) < (s.size : Int) := by omega
        have HV := hide (rd_ok (s := s) ⟨unhide HB, by rw [← ek]; exact unhide HP⟩)
        rw [ek] at hown
        have hcv := conv_own (P := Try.prog) Try.underlying25 Try.underlying5 Try.underlying9 hown
        clear hown ek ej
        go_wp2_with fail
        go_ret2
        rw [(unhide HV).1, (unhide HV).2]
        exact ⟨rfl, hb⟩
  · have HV := hide (rd_form a (fun h => b h.1))
    have b2 : ((s.size : Int) != 64) = true := by simp; omega
    go_enter Try.func6, Try.ntmps6
    go_wp2_with fail
    go_ret2
    rw [(unhide HV).1, (unhide HV).2]
    exact ⟨rfl, Below.refl _ _⟩

theorem make32 : ∃ cur : Array Value, cur.size = 32 ∧ ∀ w : World, (Instr.makeSlice 25 (.int .i64 0) (.int .i64 32)).run Try.prog w = .ok (.slice (some ⟨w.heap.size, 0, none⟩) 0 32) (w.alloc (.cells cur 5)) :=
  ⟨Array.replicate 32 (.int .u8 0), by simp, fun _ => by kernel_rfl⟩

set_option maxHeartbeats 800000 in
set_option maxRecDepth 100000 in
theorem read7 (s : ByteArray) (hs : s.size ≤ 1048576) (w : World) :
    Calls Try.prog 7 #[.string s] w fun e w' => e = .returned (.tuple #[.string (rdS s), .int .i64 (rdC s)]) ∧ Below w.heap.size w w' := by
  obtain ⟨i0, hi, hz0, hz1, hz2⟩ := info_parts Try.info5
  by_cases a : 65536 < s.size
  · have HV := hide (rd_long a)
    go_enter Try.func7, Try.ntmps7
    go_wp2_with fail
    go_ret2
    rw [(unhide HV).1, (unhide HV).2]
    exact ⟨rfl, Below.refl _ _⟩
  by_cases b : s.size = 64
  · have b2 : ((s.size : Int) != 64) = false := by simp; omega
    have HB := hide b
    have hlo : 64 ≤ s.size := by omega
    have hhi : s.size ≤ 64 := by omega
    clear b
    obtain ⟨cur, hcs, hmk⟩ := make32
    have HC := hide hcs
    clear hcs
    go_enter Try.func7, Try.ntmps7
    go_wp2_with fail
    go_loopw [4, 5] (fun v i wr => ∃ k j : Nat, k ≤ 32 ∧ Hid (j = 2 * k) ∧ i = .int .i64 j ∧ Hid (∀ q, q < k → pairOK s q) ∧ wr.ownsRow w.heap.size 5 1 v (rdL s k).length (B8 (rdL s k)) ∧ Below w.heap.size w wr) (fun _ i _ => 64 - (intOf i).toNat)
    case atStart => exact ⟨0, 0, by omega, rfl, rfl, fun q hq => absurd hq (Nat.not_lt_zero _), World.ownsRow_made _ cur 32 (Nat.le_refl _) (by decide) (by rw [unhide HC]), (Below.refl _ _).alloc (Nat.le_refl _) _⟩
    case round =>
      obtain ⟨k, j, hk, HJ, rfl, HP, hown, hb⟩ := hrel
      by_cases hlt : k < 32
      · have ej := unhide HJ
        have j0 : j < s.size := by omega
        have j1 : j + 1 < s.size := by omega
        have j0' : (j : Int) < (s.size : Int) := by omega
        have j1' : (j : Int) + 1 < (s.size : Int) := by omega
        have j2' : (0 : Int) ≤ (j : Int) + 1 := by omega
        have j3' : IntKind.i64.wrap ((j : Int) + 1) = (j : Int) + 1 := wrapi _ (by omega) (by omega)
        have x0 := bAt_bd s j
        have x1 := bAt_bd s (j + 1)
        have n0 := nib_bd (bAt s j)
        have n1 := nib_bd (bAt s (j + 1))
        have hz := hb.size
        obtain ⟨m, hm⟩ : ∃ m, m = rdL s k := ⟨_, rfl⟩
        rw [← hm] at hown
        have HM := hide hm
        have HL : m.length ≤ 32 := by rw [hm, rdL_len]; omega
        clear hm
        by_cases p0 : nib (bAt s j) < 0
        · have HV := hide (rd_form a (fun h => by have := (h.2 k (by omega)).1; rw [← ej] at this; omega))
          rw [← bAt_of s j j0] at x0 n0 p0
          rw [← bAt_of s (j + 1) j1] at x1 n1
          clear ej
          go_wp2_with fail
          go_region_held3 (fun _ => True) (trivial) (first | (go_at_call 15; refine (nib15 _ (by omega) (by omega) _).mono ?_; rintro e w' ⟨rfl, hw⟩; subst w'))
          all_goals
            go_wp2_with fail
            go_ret2
            rw [(unhide HV).1, (unhide HV).2]
            exact ⟨rfl, hb.drew⟩
        by_cases p1 : nib (bAt s (j + 1)) < 0
        · have HV := hide (rd_form a (fun h => by have := (h.2 k (by omega)).2; rw [← ej] at this; omega))
          rw [← bAt_of s j j0] at x0 n0 p0
          rw [← bAt_of s (j + 1) j1] at x1 n1 p1
          clear ej
          go_wp2_with fail
          go_region_held3 (fun _ => True) (trivial) (first | (go_at_call 15; refine (nib15 _ (by omega) (by omega) _).mono ?_; rintro e w' ⟨rfl, hw⟩; subst w'))
          all_goals
            go_wp2_with fail
            go_ret2
            rw [(unhide HV).1, (unhide HV).2]
            exact ⟨rfl, hb.drew⟩
        have HK : Hid (pairOK s k) := by show 0 ≤ nib (bAt s (2 * k)) ∧ 0 ≤ nib (bAt s (2 * k + 1)); rw [← ej]; omega
        have HQ := hide (pair_snoc (unhide HP) (unhide HK))
        have hv : bits BinOp.or IntKind.i64 (nib (s[j].toNat : Int) * 16) (nib (s[j + 1].toNat : Int)) % 256 = ((byteOf s k).toNat : Int) := by
          have := byte_val s k (unhide HK); rw [← ej] at this; rw [bAt_of s j j0, bAt_of s (j + 1) j1, or_nib _ _ (by omega) (by omega) (by omega) (by omega), this]; omega
        rw [← bAt_of s j j0] at x0 n0 p0
        rw [← bAt_of s (j + 1) j1] at x1 n1 p1
        clear ej
        go_wp2_with fail
        go_region_held3 (fun _ => True) (trivial) (first | (go_at_call 15; refine (nib15 _ (by omega) (by omega) _).mono ?_; rintro e w' ⟨rfl, hw⟩; subst w'))
        all_goals
          go_wp2_with (at_builtin; refine wpList_append_lies _ rfl _ _ 25 rfl w.heap.size 5 i0 (.int .u8 0) 1 1 Try.underlying25 hi hz0 hz1 hz2 rfl (by decide) _ _ _ rfl (by exact hown.alloc _) ⟨wr.heap.size, 0, none⟩ 1 1 (B8 [byteOf s k]) rfl rfl (by exact news_drew wr (B8 [byteOf s k]) 5) (B8_one _) (by decide) (by unfold maxLen; omega) (by omega) (by simp; omega) _ rfl ?_; intro g cap w1 hown1 hgrow1 hat1 hlt1; have R := read_rel (unhide HM) hown hb hown1 (undrew hgrow1); clear hown1 hgrow1 hown hb hat1 hlt1 hv)
          go_roundw
          case rel => exact ⟨k + 1, j + 2, by omega, by show j + 2 = 2 * (k + 1); have := unhide HJ; omega, by go_num, HQ, R.1, R.2⟩
          case measure => simp [intOf]; omega
      · have ek : k = 32 := by omega
        have ej := unhide HJ
        have j0 : ¬ (j : Int) < (s.size : Int) := by omega
        have HV := hide (rd_ok (s := s) ⟨unhide HB, by rw [← ek]; exact unhide HP⟩)
        rw [ek] at hown
        have hcv := conv_own (P := Try.prog) Try.underlying25 Try.underlying5 Try.underlying9 hown
        clear hown ek ej
        go_wp2_with fail
        go_ret2
        rw [(unhide HV).1, (unhide HV).2]
        exact ⟨rfl, hb⟩
  · have HV := hide (rd_form a (fun h => b h.1))
    have b2 : ((s.size : Int) != 64) = true := by simp; omega
    go_enter Try.func7, Try.ntmps7
    go_wp2_with fail
    go_ret2
    rw [(unhide HV).1, (unhide HV).2]
    exact ⟨rfl, Below.refl _ _⟩
end Go.Proofs.Ythcibojpeamocab
